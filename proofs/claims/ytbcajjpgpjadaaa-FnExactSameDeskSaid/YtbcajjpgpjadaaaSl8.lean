/- Lists and numbers that are the same, by the library. -/
import Derived.Test.YtbcajjpgpjadaaaSq8
import Derived.Test.YtbcajjpgpjadaaaSn
namespace Go.Proofs.Ytbcajjpgpjadaaa
open Go.RowKit Go.Dues
def eqLs (x : Nat → Int) (n : Nat) (y : Nat → Int) (m : Nat) : Prop := n = m ∧ ∀ j, j < n → x j = y j
theorem retBr {a b : Bool} (h : a = b) : Ending.returned (.bool a) = .returned (.bool b) := by rw [h]
theorem neN {a b : Int} (h : ¬ a = b) : (a != b) = true := by rw [bne_iff_ne]; exact h
theorem neY {a b : Int} (h : a = b) : (a != b) = false := by rw [h]; simp
set_option maxRecDepth 100000 in
set_option maxHeartbeats 2000000 in
theorem implSameL_any (A : Option Addr) (n c : Nat) (x : Nat → Int) (B : Option Addr) (m d : Nat) (y : Nat → Int) (w : World) (hn : n ≤ maxLen) (hm : m ≤ maxLen) (hs : SL w A n (fun j => .int .i64 (x j))) (hs' : SL w B m (fun j => .int .i64 (y j))) :
    Calls Try.prog 165 #[.slice A n c, .slice B m d] w fun e w' => e = .returned (.bool (tru (eqLs x n y m))) ∧ ∃ u, w' = w.drewN u := by
  unfold maxLen at hn hm
  have HC := cells_one hs
  have HC' := cells_one hs'
  clear hs hs'
  by_cases hl : n = m
  rotate_left
  · have hne : ((n : Int) != (m : Int)) = true := neN (by omega)
    have HT := hide (tru_no (show ¬ eqLs x n y m from fun h => hl h.1))
    clear hl
    go_enter Try.func165, Try.ntmps165
    go_wp2
    go_ret
    exact ⟨retBr HT.out.symm, 0, rfl⟩
  subst hl
  have hne : ((n : Int) != (n : Int)) = false := by simp
  go_enter Try.func165, Try.ntmps165
  go_wp2
  go_loopw [5, 13] (fun _ i wr => ∃ k u : Nat, k ≤ n ∧ i = .int .i64 k ∧ Hid (∀ j, j < k → x j = y j) ∧ Hid (wr = w.drewN u)) (fun _ i _ => n - (intOf i).toNat)
  case atStart => exact ⟨0, 0, Nat.zero_le _, rfl, fun j hj => absurd hj (by omega), rfl⟩
  case round =>
    obtain ⟨k, u, hk, rfl, hgood, hwr⟩ := hrel
    by_cases hlt : k < n
    · have hki : (k : Int) < (n : Int) := by omega
      obtain ⟨b, off, rfl, hb, c0⟩ := HC.out k hlt
      obtain ⟨b', off', rfl, hb', c0'⟩ := HC'.out k hlt
      have d0 : wr.cell? ⟨b, off + k, none⟩ = some (.int .i64 (x k)) := by rw [hwr.out]; exact c0
      have d0' : wr.cell? ⟨b', off' + k, none⟩ = some (.int .i64 (y k)) := by rw [hwr.out]; exact c0'
      clear c0 c0'
      by_cases he : x k = y k
      · have hd := neY he
        have HE := hide he
        clear he
        go_wp2
        go_quiet (fail)
        go_wp2
        clear d0 d0' hd
        go_roundw
        case rel => exact ⟨k + 1, _, by omega, by go_num, (fun j hj => by
          by_cases hjk : j = k
          · subst hjk; exact HE.out
          · exact hgood.out j (by omega)), hide (by rw [hwr.out, World.drewN_drewN])⟩
        case measure => simp [intOf]; omega
      · have hd := neN he
        have HT := hide (tru_no (show ¬ eqLs x n y n from fun h => he (h.2 k hlt)))
        clear he
        go_wp2
        go_quiet (fail)
        go_wp2
        go_ret
        exact ⟨retBr HT.out.symm, _, by rw [hwr.out, World.drewN_drewN]⟩
    · obtain rfl : k = n := by omega
      have hki : ¬ (k : Int) < (k : Int) := by omega
      have HT := hide (tru_yes (show eqLs x k y k from ⟨rfl, hgood.out⟩))
      go_wp2
      go_ret
      first | exact ⟨retBr HT.out.symm, _, hwr.out⟩ | exact ⟨retBr HT.out.symm, _, rfl⟩
end Go.Proofs.Ytbcajjpgpjadaaa
