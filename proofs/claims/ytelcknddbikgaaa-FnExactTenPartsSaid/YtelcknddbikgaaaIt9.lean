/- TenParts, by both. -/
import Derived.Test.YtelcknddbikgaaaIs
namespace Go.Proofs.Ytelcknddbikgaaa
open Go.RowKit Go.Dues
set_option maxRecDepth 100000 in
set_option maxHeartbeats 8000000 in
theorem specTens_any (A : Option Addr) (n c : Nat) (x : Nat → Int) (w : World) (hn_n : n ≤ maxLen) (hs_n : SL w A n (fun j => .int .i64 (x j))) :
    Calls Try.prog 27 #[.slice A n c] w fun e w' => Gave1 w w' e (allP x n 1 64 0 1000000000) (9) (tpV x n) := by
  obtain ⟨i0, hi, hz0, hz1, hz2⟩ := info_parts Try.info64
  unfold maxLen at hn_n
  have HB0 := hide (Below.refl w.heap.size w)
  have HS0_0 := hide hs_n
  clear hs_n
  by_cases hall0 : allP x n 1 64 0 1000000000
  rotate_left
  · have HAT0 := hide (tru_no hall0)
    have HH := hide (show ¬ allP x n 1 64 0 1000000000 from fun h => hall0 (h))
    clear hall0
    go_enter Try.func27, Try.ntmps27
    go_wp2_with (first | (go_at_call 60; refine (specIn_any _ _ _ _ ).mono ?_; rintro e w' ⟨rfl, rfl⟩))
    refine (specIncomes_any A n c x _ (by unfold maxLen; omega) HS0_0.out).mono ?_
    rw [HAT0.out]
    rintro e W1 ⟨rfl, hbe⟩
    have HB1 : Hid (Below w.heap.size w W1) := by rw [← hbe]; exact HB0.out
    have HS0_1 : Hid (SL W1 A n (fun j => .int .i64 (x j))) := by rw [← hbe]; exact HS0_0.out
    clear hbe
    go_wp2_with (first | (go_at_call 60; refine (specIn_any _ _ _ _ ).mono ?_; rintro e w' ⟨rfl, rfl⟩))
    go_ret2
    exact gave1_no HH.out HB1.out
  have HAT0 := hide (tru_yes hall0)
  have HAL0 := hide hall0
  clear hall0
  have n64 := HAL0.out.1.2
  have n1 := HAL0.out.1.1
  have HH := hide (show allP x n 1 64 0 1000000000 from HAL0.out)
  go_enter Try.func27, Try.ntmps27
  go_wp2_with (first | (go_at_call 60; refine (specIn_any _ _ _ _ ).mono ?_; rintro e w' ⟨rfl, rfl⟩))
  refine (specIncomes_any A n c x _ (by unfold maxLen; omega) HS0_0.out).mono ?_
  rw [HAT0.out]
  rintro e W1 ⟨rfl, hbe⟩
  have HB1 : Hid (Below w.heap.size w W1) := by rw [← hbe]; exact HB0.out
  have HS0_1 : Hid (SL W1 A n (fun j => .int .i64 (x j))) := by rw [← hbe]; exact HS0_0.out
  clear hbe
  go_wp2_with (first | (go_at_call 60; refine (specIn_any _ _ _ _ ).mono ?_; rintro e w' ⟨rfl, rfl⟩))
  refine (specSorted_any A n c x _ (by omega) (by omega) HS0_1.out).mono ?_
  rintro e w3 ⟨g, d, rfl, hcap, hol, hb⟩
  have HC := cells_a hol.sl
  have HBT := hide (HB1.out.trans (hb.mono HB1.out.size))
  have hz3 : w.heap.size ≤ w3.heap.size := HBT.out.size
  clear hol hb
  go_wp2
  have hst : (w3.alloc (.cells #[] 2)).ownsRow w3.heap.size 2 1 (.slice (some ⟨w3.heap.size, 0, none⟩) 0 0) 0 [] :=
    ⟨by simp, .inr ⟨w3.heap.size, 0, #[], rfl, Nat.le_refl _, new_at w3 _, Nat.le_refl 0, by unfold maxLen; omega, rfl, rfl⟩⟩
  have HBS := hide ((Below.refl w3.heap.size w3).alloc (Nat.le_refl _) (.cells #[] 2))
  have HO0 := hide hst
  clear hst
  go_loopw [5, 6] (fun v i wr => ∃ (k K : Nat) (xs : List Value), k ≤ 9 ∧ Hid (K = k + 1) ∧ i = .int .i64 (K : Int) ∧ wr.ownsRow w3.heap.size 2 1 v k xs ∧ Hid (∀ j, j < k → xs[j]? = some (.int .i64 (tpV x n j))) ∧ Below w3.heap.size w3 wr) (fun _ i _ => 10 - (intOf i).toNat)
  case atStart => exact ⟨0, 1, [], Nat.zero_le _, rfl, rfl, HO0.out, fun j hj => absurd hj (by omega), HBS.out⟩
  case round =>
    clear HO0 HBS
    obtain ⟨k, K, xs, hk, hK, rfl, hown, hxs, hbel⟩ := hrel
    have hK1 : 1 ≤ K := by have := hK.out; omega
    by_cases hlt : k < 9
    · obtain ⟨I, hI⟩ : ∃ I, K * n / 10 = I := ⟨_, rfl⟩
      have hIn : I < n := by
        have h1 : K * n ≤ 9 * n := Nat.mul_le_mul_right n (by have := hK.out; omega)
        omega
      have hm0 : 0 ≤ (K : Int) * (n : Int) := Int.mul_nonneg (by omega) (by omega)
      have hm1 : (K : Int) * (n : Int) ≤ 640 := by
        have h1 : K * n ≤ 9 * n := Nat.mul_le_mul_right n (by have := hK.out; omega)
        have h2 : ((K * n : Nat) : Int) ≤ ((9 * n : Nat) : Int) := by exact_mod_cast h1
        push_cast at h2 ⊢
        omega
      have hdi : (K : Int) * (n : Int) / 10 = (I : Int) := by rw [← hI]; push_cast; rfl
      have hIi : (I : Int) < (n : Int) := by omega
      obtain ⟨b, off, he, hb, hc⟩ := HC.out I hIn
      injection he with he
      injection he with he he2
      subst he he2
      have hc2 : wr.cell? ⟨g, I, none⟩ = some (.int .i64 (ascF x n I)) := by have := (hbel.cell (p := ⟨g, 0 + I, none⟩) hb).trans hc; rwa [Nat.zero_add] at this
      have hsz := hbel.size
      obtain ⟨X, hX⟩ : ∃ X, ascF x n I = X := ⟨_, rfl⟩
      obtain ⟨x0, x1⟩ := ascF_bd (lo := 0) (hi := 1000000000) HAL0.out.2 hIn
      rw [hX] at hc2 x0 x1
      have HV := hide (show X = tpV x n k by unfold tpV; rw [← hK.out, hI, hX])
      have HLL := hide (show xs.length = k by have := hown.1; omega)
      have hk9 : (K : Int) ≤ 9 := by have := hK.out; omega
      have hk10 : (K : Int) < 10 := by omega
      clear hc hX hI
      go_wp2_with (at_builtin; refine wpList_append_own _ rfl _ _ 22 rfl (w3.heap.size) 2 i0 (.int .i64 0) 1 8 Try.underlying22 hi hz0 hz1 hz2 rfl (by decide) _ _ _ rfl (by exact (hown.alloc _)) ⟨_, 0, none⟩ 1 1 [.int .i64 (X)] rfl rfl (cell_one_new _ _ _) (by intro u hu; simp at hu; subst hu; rfl) (by unfold maxLen; omega) (by omega) (by simp; omega) ?_)
      intro v' w5 hown' hgrow _
      have hb1 := (hbel.alloc (by omega) (.cells #[.int .i64 X] 2)).grown hgrow (by simp; omega) (fun j hj => (hown.lt j hj).1)
      have HB1 := hide hb1
      have HON := hide hown'
      clear hgrow hown' hown hbel hc2 hb1
      go_wp2
      go_roundw
      case rel => exact ⟨k + 1, K + 1, _, by omega, hide (by rw [hK.out]), by go_num, HON.out, own_step HLL.out hxs.out (congrArg (Value.int .i64) HV.out), HB1.out⟩
      case measure => simp [intOf]; omega
    · obtain ⟨Gx, dx, rfl⟩ := own_shape hown
      have HN := hide (show k = 9 by omega)
      have HO := hide hown
      have HBEL := hide hbel
      have hk9 : ¬ (K : Int) ≤ 9 := by have := hK.out; omega
      have hk10 : ¬ (K : Int) < 10 := by omega
      clear hown hbel
      go_wp2
      go_ret2
      exact gave1_yes HH.out HN.out ((OW.of_owns HO.out hxs.out).wide (by omega) (Nat.le_refl _)) (HBT.out.trans (HBEL.out.mono HBT.out.size))
set_option maxRecDepth 100000 in
set_option maxHeartbeats 8000000 in
theorem implTens_any (A : Option Addr) (n c : Nat) (x : Nat → Int) (w : World) (hn_n : n ≤ maxLen) (hs_n : SL w A n (fun j => .int .i64 (x j))) :
    Calls Try.prog 28 #[.slice A n c] w fun e w' => Gave1 w w' e (allP x n 1 64 0 1000000000) (9) (tpV x n) := by
  obtain ⟨i0, hi, hz0, hz1, hz2⟩ := info_parts Try.info64
  unfold maxLen at hn_n
  have HB0 := hide (Below.refl w.heap.size w)
  have HS0_0 := hide hs_n
  clear hs_n
  by_cases hall0 : allP x n 1 64 0 1000000000
  rotate_left
  · have HAT0 := hide (tru_no hall0)
    have HH := hide (show ¬ allP x n 1 64 0 1000000000 from fun h => hall0 (h))
    clear hall0
    go_enter Try.func28, Try.ntmps28
    go_wp2_with (first | (go_at_call 62; refine (implWithin_any _ _ _ _ ).mono ?_; rintro e w' ⟨rfl, rfl⟩) | (go_at_call 17; go_in))
    refine (areAll_isIncome A n c x 1 64 _ (by unfold maxLen; omega) HS0_0.out).mono ?_
    rw [HAT0.out]
    rintro e W1 ⟨rfl, hb⟩
    have HB1 := hide (HB0.out.trans (hb.mono HB0.out.size))
    have HS0_1 := hide (HS0_0.out.below hb)
    clear hb
    go_wp2_with (first | (go_at_call 62; refine (implWithin_any _ _ _ _ ).mono ?_; rintro e w' ⟨rfl, rfl⟩) | (go_at_call 17; go_in))
    go_ret2
    exact gave1_no HH.out HB1.out
  have HAT0 := hide (tru_yes hall0)
  have HAL0 := hide hall0
  clear hall0
  have n64 := HAL0.out.1.2
  have n1 := HAL0.out.1.1
  have HH := hide (show allP x n 1 64 0 1000000000 from HAL0.out)
  go_enter Try.func28, Try.ntmps28
  go_wp2_with (first | (go_at_call 62; refine (implWithin_any _ _ _ _ ).mono ?_; rintro e w' ⟨rfl, rfl⟩) | (go_at_call 17; go_in))
  refine (areAll_isIncome A n c x 1 64 _ (by unfold maxLen; omega) HS0_0.out).mono ?_
  rw [HAT0.out]
  rintro e W1 ⟨rfl, hb⟩
  have HB1 := hide (HB0.out.trans (hb.mono HB0.out.size))
  have HS0_1 := hide (HS0_0.out.below hb)
  clear hb
  go_wp2_with (first | (go_at_call 62; refine (implWithin_any _ _ _ _ ).mono ?_; rintro e w' ⟨rfl, rfl⟩) | (go_at_call 17; go_in))
  refine (implSorted_any A n c x _ (by omega) (by omega) HS0_1.out).mono ?_
  rintro e w3 ⟨g, d, rfl, hcap, hol, hb⟩
  have HC := cells_a hol.sl
  have HBT := hide (HB1.out.trans (hb.mono HB1.out.size))
  have hz3 : w.heap.size ≤ w3.heap.size := HBT.out.size
  clear hol hb
  go_wp2
  have HO0 := hide (World.ownsRow_nil w3 w3.heap.size 2 1)
  have HBS := hide (Below.refl w3.heap.size w3)
  go_loopw [5, 6] (fun v i wr => ∃ (k K : Nat) (xs : List Value), k ≤ 9 ∧ Hid (K = k + 1) ∧ i = .int .i64 (K : Int) ∧ wr.ownsRow w3.heap.size 2 1 v k xs ∧ Hid (∀ j, j < k → xs[j]? = some (.int .i64 (tpV x n j))) ∧ Below w3.heap.size w3 wr) (fun _ i _ => 10 - (intOf i).toNat)
  case atStart => exact ⟨0, 1, [], Nat.zero_le _, rfl, rfl, HO0.out, fun j hj => absurd hj (by omega), HBS.out⟩
  case round =>
    clear HO0 HBS
    obtain ⟨k, K, xs, hk, hK, rfl, hown, hxs, hbel⟩ := hrel
    have hK1 : 1 ≤ K := by have := hK.out; omega
    by_cases hlt : k < 9
    · obtain ⟨I, hI⟩ : ∃ I, K * n / 10 = I := ⟨_, rfl⟩
      have hIn : I < n := by
        have h1 : K * n ≤ 9 * n := Nat.mul_le_mul_right n (by have := hK.out; omega)
        omega
      have hm0 : 0 ≤ (K : Int) * (n : Int) := Int.mul_nonneg (by omega) (by omega)
      have hm1 : (K : Int) * (n : Int) ≤ 640 := by
        have h1 : K * n ≤ 9 * n := Nat.mul_le_mul_right n (by have := hK.out; omega)
        have h2 : ((K * n : Nat) : Int) ≤ ((9 * n : Nat) : Int) := by exact_mod_cast h1
        push_cast at h2 ⊢
        omega
      have hdi : (K : Int) * (n : Int) / 10 = (I : Int) := by rw [← hI]; push_cast; rfl
      have hIi : (I : Int) < (n : Int) := by omega
      obtain ⟨b, off, he, hb, hc⟩ := HC.out I hIn
      injection he with he
      injection he with he he2
      subst he he2
      have hc2 : wr.cell? ⟨g, I, none⟩ = some (.int .i64 (ascF x n I)) := by have := (hbel.cell (p := ⟨g, 0 + I, none⟩) hb).trans hc; rwa [Nat.zero_add] at this
      have hsz := hbel.size
      obtain ⟨X, hX⟩ : ∃ X, ascF x n I = X := ⟨_, rfl⟩
      obtain ⟨x0, x1⟩ := ascF_bd (lo := 0) (hi := 1000000000) HAL0.out.2 hIn
      rw [hX] at hc2 x0 x1
      have HV := hide (show X = tpV x n k by unfold tpV; rw [← hK.out, hI, hX])
      have HLL := hide (show xs.length = k by have := hown.1; omega)
      have hk9 : (K : Int) ≤ 9 := by have := hK.out; omega
      have hk10 : (K : Int) < 10 := by omega
      clear hc hX hI
      go_wp2_with (at_builtin; refine wpList_append_own _ rfl _ _ 22 rfl (w3.heap.size) 2 i0 (.int .i64 0) 1 8 Try.underlying22 hi hz0 hz1 hz2 rfl (by decide) _ _ _ rfl (by exact (hown.alloc _)) ⟨_, 0, none⟩ 1 1 [.int .i64 (X)] rfl rfl (cell_one_new _ _ _) (by intro u hu; simp at hu; subst hu; rfl) (by unfold maxLen; omega) (by omega) (by simp; omega) ?_)
      intro v' w5 hown' hgrow _
      have hb1 := (hbel.alloc (by omega) (.cells #[.int .i64 X] 2)).grown hgrow (by simp; omega) (fun j hj => (hown.lt j hj).1)
      have HB1 := hide hb1
      have HON := hide hown'
      clear hgrow hown' hown hbel hc2 hb1
      go_wp2
      go_roundw
      case rel => exact ⟨k + 1, K + 1, _, by omega, hide (by rw [hK.out]), by go_num, HON.out, own_step HLL.out hxs.out (congrArg (Value.int .i64) HV.out), HB1.out⟩
      case measure => simp [intOf]; omega
    · obtain ⟨Gx, dx, rfl⟩ := own_shape hown
      have HN := hide (show k = 9 by omega)
      have HO := hide hown
      have HBEL := hide hbel
      have hk9 : ¬ (K : Int) ≤ 9 := by have := hK.out; omega
      have hk10 : ¬ (K : Int) < 10 := by omega
      clear hown hbel
      go_wp2
      go_ret2
      exact gave1_yes HH.out HN.out ((OW.of_owns HO.out hxs.out).wide (by omega) (Nat.le_refl _)) (HBT.out.trans (HBEL.out.mono HBT.out.size))
end Go.Proofs.Ytelcknddbikgaaa
