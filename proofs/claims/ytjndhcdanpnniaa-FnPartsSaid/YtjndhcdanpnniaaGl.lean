/- The first greatest and the first least number of a list, by the program. -/
import Derived.Test.YtjndhcdanpnniaaAl
import Derived.Test.YtjndhcdanpnniaaP4
namespace Go.Proofs.Ytjndhcdanpnniaa
open Go.RowKit Go.Dues
set_option maxHeartbeats 4000000 in
theorem slicesMax_any (A : Option Addr) (n c : Nat) (x : Nat → Int) (w : World) (h1 : 1 ≤ n) (hn : n ≤ 1048576) (hs : SL w A n (fun j => .int .i64 (x j))) :
    Calls Try.prog 206 #[.slice A n c] w fun e w' => e = .returned (.int .i64 (mX x n)) ∧ w = w' := by
  have HC := cells_a hs
  clear hs
  obtain ⟨b, off, rfl, hb, hx0⟩ := HC.out 0 (by omega)
  have hx0' : w.cell? ⟨b, off, none⟩ = some (.int .i64 (x 0)) := hx0
  have hi1 : ¬ (n : Int) < 1 := by omega
  go_enter Try.func206, Try.ntmps206
  go_wp2
  clear hx0 hx0'
  go_loop [3, 4] (fun m i => ∃ (k : Nat) (M : Int), 1 ≤ k ∧ k ≤ n ∧ i = .int .i64 k ∧ m = .int .i64 M ∧ Hid (M = mX x k)) (fun _ i => n - (intOf i).toNat)
  case atStart => exact ⟨1, x 0, Nat.le_refl _, h1, rfl, rfl, by show x 0 = max (x 0) (x 0); omega⟩
  case round =>
    obtain ⟨k, M, hk1, hk, rfl, rfl, hM⟩ := hrel
    by_cases hlt : k < n
    · obtain ⟨b1, off1, hA, hb1, hxk⟩ := HC.out k hlt
      injection hA with hA
      injection hA with hA hA2
      subst hA hA2
      obtain ⟨V, hV⟩ : ∃ V : Int, max M (x k) = V := ⟨_, rfl⟩
      have HV := hide (show V = mX x (k + 1) by rw [← hV, hM.out]; rfl)
      by_cases hc : x k ≤ M
      · have hVM : V = M := by omega
        subst hVM
        go_wp2
        all_goals
          go_round
          case rel => exact ⟨k + 1, _, by omega, by omega, by go_num, rfl, HV.out⟩
          case measure => simp [intOf]; omega
      · have hVM : V = x k := by omega
        subst hVM
        go_wp2
        all_goals
          go_round
          case rel => exact ⟨k + 1, _, by omega, by omega, by go_num, rfl, HV.out⟩
          case measure => simp [intOf]; omega
    · have HE := hide (show M = mX x n by rw [hM.out]; rw [show k = n by omega])
      go_wp2
      go_ret
      exact ⟨reti HE.out, rfl⟩
set_option maxHeartbeats 4000000 in
theorem slicesIndex_any (A : Option Addr) (n c : Nat) (x : Nat → Int) (r : Nat) (w : World) (hn : n ≤ 1048576) (hr : r < n) (hne : ∀ j, j < r → x j ≠ x r) (hs : SL w A n (fun j => .int .i64 (x j))) :
    Calls Try.prog 205 #[.slice A n c, .int .i64 (x r)] w fun e w' => e = .returned (.int .i64 r) ∧ w = w' := by
  have HC := cells_a hs
  have HNE := hide hne
  clear hs hne
  obtain ⟨v, hv⟩ : ∃ v, v = x r := ⟨_, rfl⟩
  rw [← hv] at HNE ⊢
  have HVV := hide hv
  clear hv
  go_enter Try.func205, Try.ntmps205
  go_wp2
  go_loop [5, 8] (fun _ i => ∃ k : Nat, k ≤ r ∧ i = .int .i64 k) (fun _ i => n - (intOf i).toNat)
  case atStart => exact ⟨0, Nat.zero_le _, rfl⟩
  case round =>
    obtain ⟨k, hk, rfl⟩ := hrel
    have hlt : k < n := by omega
    obtain ⟨b1, off1, rfl, hb1, hxk⟩ := HC.out k hlt
    by_cases hkr : k = r
    · subst hkr
      rw [← HVV.out] at hxk
      have hbe : (v == v) = true := by simp
      go_wp2
      go_ret
      exact ⟨rfl, rfl⟩
    · have hbe : (v == x k) = false := by rw [beq_eq_false_iff_ne]; exact fun h => HNE.out k (by omega) h.symm
      have hbe2 : (x k == v) = false := by rw [beq_eq_false_iff_ne]; exact HNE.out k (by omega)
      go_wp2
      go_round
      case rel => exact ⟨k + 1, by omega, by go_num⟩
      case measure => simp [intOf]; omega
set_option maxHeartbeats 2000000 in
theorem implfirstGreatest_any (A : Option Addr) (n c : Nat) (x : Nat → Int) (w : World) (h1 : 1 ≤ n) (hn : n ≤ 1048576) (hs : SL w A n (fun j => .int .i64 (x j))) :
    Calls Try.prog 168 #[.slice A n c] w fun e w' => e = .returned (.int .i64 (bX x n : Nat)) ∧ w = w' := by
  have HM := hide (slicesMax_any A n c x w h1 hn hs)
  have HI := hide (slicesIndex_any A n c x (bX x n) w hn (bX_lt x h1) (fun j hj => by have := bX_first x hj; omega) hs)
  clear hs
  go_enter Try.func168, Try.ntmps168
  go_wp2_with fail
  refine HM.out.mono ?_
  rw [mX_eq x n]
  rintro e w' ⟨rfl, rfl⟩
  go_wp2_with fail
  refine HI.out.mono ?_
  rintro e w' ⟨rfl, rfl⟩
  go_wp2
  go_ret
  exact ⟨rfl, rfl⟩
end Go.Proofs.Ytjndhcdanpnniaa
