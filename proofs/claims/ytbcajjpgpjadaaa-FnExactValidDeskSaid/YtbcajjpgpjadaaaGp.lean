/- Lists within bounds and sums, by the reference. -/
import Derived.Test.YtbcajjpgpjadaaaAl
import Derived.Test.YtbcajjpgpjadaaaC4
import Derived.Test.YtbcajjpgpjadaaaG1
import Derived.Test.YtbcajjpgpjadaaaOw
namespace Go.Proofs.Ytbcajjpgpjadaaa
open Go.RowKit Go.Dues
set_option maxRecDepth 100000 in
set_option maxHeartbeats 4000000 in
theorem specFRates_any (A : Option Addr) (n c : Nat) (x : Nat → Int) (w : World) (hn : n ≤ maxLen) (hs : SL w A n (fun j => .int .i64 (x j))) :
    Calls Try.prog 177 #[.slice A n c] w fun e w' => e = .returned (.bool (tru (allP x n 1 60 (-9999) 10000))) ∧ w = w' := by
  unfold maxLen at hn
  have HC := cells_a hs
  clear hs
  go_enter Try.func177, Try.ntmps177
  go_wp2
  go_loop [3] (fun i => ∃ k : Nat, k ≤ n ∧ i = .int .i64 k ∧ Hid (∀ j, j < k → (-9999) ≤ x j ∧ x j ≤ 10000)) (fun i => n - (intOf i).toNat)
  case atStart => exact ⟨0, Nat.zero_le _, rfl, fun j hj => absurd hj (by omega)⟩
  case round =>
    obtain ⟨k, hk, rfl, hg⟩ := hrel
    by_cases hlt : k < n
    · obtain ⟨b1, off, rfl, hb1, hxk⟩ := HC.out k hlt
      cases hp : inB (x k) (-9999) 10000
      · have HT := hide (tru_no (show ¬ allP x n 1 60 (-9999) 10000 from fun h => by rw [inB_yes (h.2 k hlt)] at hp; cases hp))
        go_wp2_with (go_at_call 106; refine (specIn_any _ _ _ _ ).mono ?_; rintro e w' ⟨rfl, rfl⟩)
        go_ret
        exact ⟨retBa HT.out.symm, rfl⟩
      · have HE := hide (inB_iff.1 hp)
        go_wp2_with (go_at_call 106; refine (specIn_any _ _ _ _ ).mono ?_; rintro e w' ⟨rfl, rfl⟩)
        clear hp
        go_round
        case rel => exact ⟨k + 1, by omega, by go_num, by
          intro j hj
          by_cases hjk : j = k
          · subst hjk; exact HE.out
          · exact hg.out j (by omega)⟩
        case measure => simp [intOf]; omega
    · obtain rfl : k = n := by omega
      by_cases h1 : (1 : Int) ≤ (k : Int)
      · have h1d : decide ((1 : Int) ≤ (k : Int)) = true := decide_eq_true h1
        by_cases h2 : (k : Int) ≤ 60
        · have h2d : decide ((k : Int) ≤ 60) = true := decide_eq_true h2
          have HT := hide (tru_yes (show allP x k 1 60 (-9999) 10000 from ⟨⟨h1, h2⟩, hg.out⟩))
          go_wp2
          go_ret
          exact ⟨retBa HT.out.symm, rfl⟩
        · have h2d : decide ((k : Int) ≤ 60) = false := decide_eq_false h2
          have HT := hide (tru_no (show ¬ allP x k 1 60 (-9999) 10000 from fun h => h2 h.1.2))
          go_wp2
          go_ret
          exact ⟨retBa HT.out.symm, rfl⟩
      · have h1d : decide ((1 : Int) ≤ (k : Int)) = false := decide_eq_false h1
        have HT := hide (tru_no (show ¬ allP x k 1 60 (-9999) 10000 from fun h => h1 h.1.1))
        go_wp2
        go_ret
        exact ⟨retBa HT.out.symm, rfl⟩
end Go.Proofs.Ytbcajjpgpjadaaa
