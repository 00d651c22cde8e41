/- Lists of amounts, by the reference; RefundShare, by both. -/
import Derived.Test.YtpbbedelapnnnaaAl
import Derived.Test.YtpbbedelapnnnaaC4
import Derived.Test.YtpbbedelapnnnaaG1
import Derived.Test.YtpbbedelapnnnaaP4
namespace Go.Proofs.Ytpbbedelapnnnaa
open Go.RowKit Go.Dues
set_option maxRecDepth 100000 in
set_option maxHeartbeats 4000000 in
theorem specAmts_any (A : Option Addr) (n c : Nat) (x : Nat → Int) (most : Int) (w : World) (hn : n ≤ maxLen) (hs : SL w A n (fun j => .int .i64 (x j))) :
    Calls Try.prog 198 #[.slice A n c, .int .i64 most] w fun e w' => e = .returned (.bool (tru (allP x n 1 most 0 1000000000000))) ∧ w = w' := by
  unfold maxLen at hn
  have HC := cells_a hs
  clear hs
  by_cases hm : (n : Int) ≤ most
  · have hmd : decide ((n : Int) ≤ most) = true := decide_eq_true hm
    go_enter Try.func198, Try.ntmps198
    go_wp2
    go_loop [5] (fun i => ∃ k : Nat, k ≤ n ∧ i = .int .i64 k ∧ Hid (∀ j, j < k → 0 ≤ x j ∧ x j ≤ 1000000000000)) (fun i => n - (intOf i).toNat)
    case atStart => exact ⟨0, Nat.zero_le _, rfl, fun j hj => absurd hj (by omega)⟩
    case round =>
      obtain ⟨k, hk, rfl, hg⟩ := hrel
      by_cases hlt : k < n
      · obtain ⟨b1, off, rfl, hb1, hxk⟩ := HC.out k hlt
        cases hp : amtB (x k)
        · have HT := hide (tru_no (show ¬ allP x n 1 most 0 1000000000000 from fun h => by rw [amtB_yes (h.2 k hlt)] at hp; cases hp))
          go_wp2_with (go_at_call 179; refine (specCents_any _ _ ).mono ?_; rintro e w' ⟨rfl, rfl⟩)
          go_ret
          exact ⟨retBa HT.out.symm, rfl⟩
        · have HE := hide (amtB_iff.1 hp)
          go_wp2_with (go_at_call 179; refine (specCents_any _ _ ).mono ?_; rintro e w' ⟨rfl, rfl⟩)
          clear hp
          go_round
          case rel => exact ⟨k + 1, by omega, by go_num, by
            intro j hj
            by_cases hjk : j = k
            · subst hjk; exact HE.out
            · exact hg.out j (by omega)⟩
          case measure => simp [intOf]; omega
      · obtain rfl : k = n := by omega
        by_cases h1 : (1 : Int) ≤ (k : Int)
        · have h1d : decide ((1 : Int) ≤ (k : Int)) = true := decide_eq_true h1
          have HT := hide (tru_yes (show allP x k 1 most 0 1000000000000 from ⟨⟨h1, hm⟩, hg.out⟩))
          go_wp2
          go_ret
          exact ⟨retBa HT.out.symm, rfl⟩
        · have h1d : decide ((1 : Int) ≤ (k : Int)) = false := decide_eq_false h1
          have HT := hide (tru_no (show ¬ allP x k 1 most 0 1000000000000 from fun h => h1 h.1.1))
          go_wp2
          go_ret
          exact ⟨retBa HT.out.symm, rfl⟩
  · have hmd : decide ((n : Int) ≤ most) = false := decide_eq_false hm
    have HT := hide (tru_no (show ¬ allP x n 1 most 0 1000000000000 from fun h => hm h.1.2))
    by_cases h1 : (1 : Int) ≤ (n : Int)
    · have h1d : decide ((1 : Int) ≤ (n : Int)) = true := decide_eq_true h1
      go_enter Try.func198, Try.ntmps198
      go_wp2
      go_loop [5] (fun i => i = .int .i64 0) (fun _ => 0)
      case atStart => rfl
      case round =>
        obtain rfl := hrel
        have h0 : (0 : Int) < n := by omega
        go_wp2
        go_ret
        exact ⟨retBa HT.out.symm, rfl⟩
    · have h1d : decide ((1 : Int) ≤ (n : Int)) = false := decide_eq_false h1
      go_enter Try.func198, Try.ntmps198
      go_wp2
      go_loop [5] (fun i => i = .int .i64 0) (fun _ => 0)
      case atStart => rfl
      case round =>
        obtain rfl := hrel
        have h0 : ¬ (0 : Int) < n := by omega
        go_wp2
        go_ret
        exact ⟨retBa HT.out.symm, rfl⟩
def rfP (x : Nat → Int) (n : Nat) (a b : Int) : Prop := allP x n 1 32 0 1000000000000 ∧ (1 ≤ b ∧ b ≤ 10000) ∧ (0 ≤ a ∧ a ≤ b) ∧ psum x n * a / b ≤ 1000000000000
theorem rf_bd {x : Nat → Int} {n : Nat} {a b : Int} (h : allP x n 1 32 0 1000000000000) (hb : 1 ≤ b ∧ b ≤ 10000) (ha : 0 ≤ a ∧ a ≤ b) : (0 ≤ psum x n ∧ psum x n ≤ 32000000000000) ∧ (0 ≤ psum x n * a ∧ psum x n * a ≤ 320000000000000000) ∧ 0 ≤ psum x n * a / b ∧ psum x n * a / b ≤ psum x n * a := by
  have h1 := psum_top h.2 (Nat.le_refl n)
  have h2 := h.1.2
  have h3 := mul_bd (M := 32000000000000) (N := 10000) h1.1 (by omega) ha.1 (by omega)
  exact ⟨⟨h1.1, by omega⟩, ⟨h3.1, by omega⟩, Int.ediv_nonneg h3.1 (by omega), Int.ediv_le_self _ h3.1⟩
end Go.Proofs.Ytpbbedelapnnnaa
