/- The laws' own helpers over lists of integers: sums, likeness, having. -/
import Derived.Test.YtjndhcdanpnniaaPr9
import Derived.Test.YtjndhcdanpnniaaLs
import Derived.Test.YtjndhcdanpnniaaOw
import Derived.Deep.QuietTactic
namespace Go.Proofs.Ytjndhcdanpnniaa
open Go.RowKit Go.Dues
set_option maxRecDepth 100000 in
set_option maxHeartbeats 4000000 in
theorem b10Sum_any (A : Option Addr) (n c : Nat) (x : Nat → Int) (w : World) (hn : n ≤ 100000) (hx : ∀ j, j < n → 0 ≤ x j ∧ x j ≤ 1000000000) (hs : SL w A n (fun j => .int .i64 (x j))) :
    Calls Try.prog 21 #[.slice A n c] w fun e w' => e = .returned (.int .i64 (psum x n)) ∧ ∃ u, w' = w.drewN u := by
  have HC := cells_one hs
  have HX := hide hx
  clear hs hx
  go_enter Try.func21, Try.ntmps21
  go_wp2
  go_loopw [3, 4, 7] (fun s _ i wr => ∃ (k u : Nat) (S : Int), k ≤ n ∧ i = .int .i64 k ∧ s = .int .i64 S ∧ 0 ≤ S ∧ S ≤ 1000000000 * (k : Int) ∧ Hid (S = psum x k) ∧ Hid (wr = w.drewN u)) (fun _ _ i _ => n - (intOf i).toNat)
  case atStart => exact ⟨0, 0, 0, Nat.zero_le _, rfl, rfl, by omega, by simp, rfl, rfl⟩
  case round =>
    obtain ⟨k, u, S, hk, rfl, rfl, S0, S1, hS, hwr⟩ := hrel
    by_cases hlt : k < n
    · have hki : (k : Int) < (n : Int) := by omega
      obtain ⟨b, off, rfl, hb, c0⟩ := HC.out k hlt
      have d0 : wr.cell? ⟨b, off + k, none⟩ = some (.int .i64 (x k)) := by rw [hwr.out]; exact c0
      have x0 := (HX.out k hlt).1
      have x1 := (HX.out k hlt).2
      have HE := hide (show S + x k = psum x (k + 1) by rw [psum_succ, hS.out])
      clear c0
      go_wp2
      clear d0
      go_roundw
      case rel => exact ⟨k + 1, _, _, by omega, by go_num, rfl, by omega, by push_cast; omega, HE.out, hwr.out⟩
      case measure => simp [intOf]; omega
    · obtain rfl : k = n := by omega
      have hki : ¬ (k : Int) < (k : Int) := by omega
      go_wp2
      go_ret
      exact ⟨congrArg (fun q => Ending.returned (.int .i64 q)) hS.out, u, hwr.out⟩
set_option maxRecDepth 100000 in
set_option maxHeartbeats 4000000 in
theorem b10Ints_yes (A B : Option Addr) (n c d : Nat) (x y : Nat → Int) (w : World) (hn : n ≤ maxLen) (hxy : ∀ j, j < n → x j = y j) (hs : SL w A n (fun j => .int .i64 (x j))) (hs' : SL w B n (fun j => .int .i64 (y j))) :
    Calls Try.prog 20 #[.slice A n c, .slice B n d] w fun e w' => e = .returned (.bool true) ∧ ∃ u, w' = w.drewN u := by
  unfold maxLen at hn
  have HC := cells_one hs
  have HC' := cells_one hs'
  have HXY := hide hxy
  clear hs hs' hxy
  have hne : ((n : Int) != (n : Int)) = false := by simp
  go_enter Try.func20, Try.ntmps20
  go_wp2
  go_loopw [5, 13] (fun _ i wr => ∃ k u : Nat, k ≤ n ∧ i = .int .i64 k ∧ Hid (wr = w.drewN u)) (fun _ i _ => n - (intOf i).toNat)
  case atStart => exact ⟨0, 0, Nat.zero_le _, rfl, rfl⟩
  case round =>
    obtain ⟨k, u, hk, rfl, hwr⟩ := hrel
    by_cases hlt : k < n
    · have hki : (k : Int) < (n : Int) := by omega
      obtain ⟨b, off, rfl, hb, c0⟩ := HC.out k hlt
      obtain ⟨b', off', rfl, hb', c0'⟩ := HC'.out k hlt
      have d0 : wr.cell? ⟨b, off + k, none⟩ = some (.int .i64 (x k)) := by rw [hwr.out]; exact c0
      have d0' : wr.cell? ⟨b', off' + k, none⟩ = some (.int .i64 (y k)) := by rw [hwr.out]; exact c0'
      have hd : (x k != y k) = false := by rw [HXY.out k hlt]; simp
      clear c0 c0'
      go_wp2
      go_quiet (fail)
      go_wp2
      clear d0 d0' hd
      go_roundw
      case rel => exact ⟨k + 1, _, by omega, by go_num, hide (by rw [hwr.out, World.drewN_drewN])⟩
      case measure => simp [intOf]; omega
    · obtain rfl : k = n := by omega
      have hki : ¬ (k : Int) < (k : Int) := by omega
      go_wp2
      go_ret
      exact ⟨rfl, u, hwr.out⟩
theorem retBh {a b : Bool} (h : a = b) : Ending.returned (.bool a) = .returned (.bool b) := by rw [h]
set_option maxRecDepth 100000 in
set_option maxHeartbeats 4000000 in
theorem b10Has_any (A : Option Addr) (n c : Nat) (x : Nat → Int) (q : Int) (w : World) (hn : n ≤ maxLen) (hs : SL w A n (fun j => .int .i64 (x j))) :
    Calls Try.prog 57 #[.slice A n c, .int .i64 q] w fun e w' => e = .returned (.bool (tru (hasQ x n q))) ∧ ∃ u, w' = w.drewN u := by
  unfold maxLen at hn
  have HC := cells_one hs
  clear hs
  go_enter Try.func57, Try.ntmps57
  go_wp2
  go_loopw [5, 8] (fun _ i wr => ∃ k u : Nat, k ≤ n ∧ i = .int .i64 k ∧ Hid (∀ j, j < k → ¬ x j = q) ∧ Hid (wr = w.drewN u)) (fun _ i _ => n - (intOf i).toNat)
  case atStart => exact ⟨0, 0, Nat.zero_le _, rfl, fun j hj => absurd hj (by omega), rfl⟩
  case round =>
    obtain ⟨k, u, hk, rfl, hno, hwr⟩ := hrel
    by_cases hlt : k < n
    · have hki : (k : Int) < (n : Int) := by omega
      obtain ⟨b, off, rfl, hb, c0⟩ := HC.out k hlt
      have d0 : wr.cell? ⟨b, off + k, none⟩ = some (.int .i64 (x k)) := by rw [hwr.out]; exact c0
      clear c0
      by_cases he : x k = q
      · have hd : (x k == q) = true := by rw [he]; simp
        have HT := hide (tru_yes (show hasQ x n q from ⟨k, hlt, he⟩))
        clear he
        go_wp2
        go_ret
        exact ⟨retBh HT.out.symm, u, hwr.out⟩
      · have hd : (x k == q) = false := by rw [beq_eq_false_iff_ne]; exact he
        have HE := hide he
        clear he
        go_wp2
        clear d0 hd
        go_roundw
        case rel => exact ⟨k + 1, _, by omega, by go_num, (fun j hj => by
          by_cases hjk : j = k
          · subst hjk; exact HE.out
          · exact hno.out j (by omega)), hwr.out⟩
        case measure => simp [intOf]; omega
    · obtain rfl : k = n := by omega
      have hki : ¬ (k : Int) < (k : Int) := by omega
      have HT := hide (tru_no (show ¬ hasQ x k q from fun ⟨j, hj, e⟩ => hno.out j hj e))
      go_wp2
      go_ret
      exact ⟨retBh HT.out.symm, u, hwr.out⟩
end Go.Proofs.Ytjndhcdanpnniaa
