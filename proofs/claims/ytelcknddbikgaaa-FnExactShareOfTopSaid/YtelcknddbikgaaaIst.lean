/- ShareOfTop, by both. -/
import Derived.Test.YtelcknddbikgaaaIh
namespace Go.Proofs.Ytelcknddbikgaaa
open Go.RowKit Go.Dues
set_option maxRecDepth 100000 in
set_option maxHeartbeats 8000000 in
theorem specTop_any (A : Option Addr) (n cc : Nat) (x : Nat → Int) (v : Int) (w : World) (hn_n : n ≤ maxLen) (hs_n : SL w A n (fun j => .int .i64 (x j))) :
    Calls Try.prog 25 #[.slice A n cc, .int .i64 v] w fun e w' => e = .returned (.tuple #[.int .i64 (ifV (stP x n v) (stA x n v)), .int .i64 (ifV (stP x n v) (stB x n v)), .bool (tru (stP x n v))]) ∧ Below w.heap.size w w' := by
  obtain ⟨i0, hi, hz0, hz1, hz2⟩ := info_parts Try.info64
  unfold maxLen at hn_n
  have HB0 := hide (Below.refl w.heap.size w)
  have HS0_0 := hide hs_n
  clear hs_n
  by_cases hall0 : allP x n 1 64 0 1000000000
  rotate_left
  · have HAT0 := hide (tru_no hall0)
    have HH := hide (show ¬ stP x n v from fun h => hall0 (h.1.1))
    clear hall0
    go_enter Try.func25, Try.ntmps25
    go_wp2_with (first | (go_at_call 60; refine (specIn_any _ _ _ _ ).mono ?_; rintro e w' ⟨rfl, rfl⟩))
    refine (specIncomes_any A n cc x _ (by unfold maxLen; omega) HS0_0.out).mono ?_
    rw [HAT0.out]
    rintro e W1 ⟨rfl, hbe⟩
    have HB1 : Hid (Below w.heap.size w W1) := by rw [← hbe]; exact HB0.out
    have HS0_1 : Hid (SL W1 A n (fun j => .int .i64 (x j))) := by rw [← hbe]; exact HS0_0.out
    clear hbe
    go_wp2_with (first | (go_at_call 60; refine (specIn_any _ _ _ _ ).mono ?_; rintro e w' ⟨rfl, rfl⟩))
    go_ret3
    exact ⟨ret_no9 HH.out, HB1.out⟩
  have HAT0 := hide (tru_yes hall0)
  have HAL0 := hide hall0
  clear hall0
  have HAX := HAL0
  have n64 := HAX.out.1.2
  have n1 := HAX.out.1.1
  obtain ⟨s0, s1⟩ := ha_bd HAX.out
  have HSA := fun w hs => hide (specAll9_any A n cc x w (by omega) (inc_wide HAX.out) hs)
  obtain ⟨S, hS⟩ : ∃ S, psum x n = S := ⟨_, rfl⟩
  rw [hS] at HSA s0 s1
  have HSS := hide hS
  clear hS
  by_cases hS0 : S = 0
  · have HH := hide (show ¬ stP x n v from fun h => h.1.2 (by rw [HSS.out]; exact hS0))
    subst hS0
    go_enter Try.func25, Try.ntmps25
    go_wp2_with (first | (go_at_call 60; refine (specIn_any _ _ _ _ ).mono ?_; rintro e w' ⟨rfl, rfl⟩))
    refine (specIncomes_any A n cc x _ (by unfold maxLen; omega) HS0_0.out).mono ?_
    rw [HAT0.out]
    rintro e W1 ⟨rfl, hbe⟩
    have HB1 : Hid (Below w.heap.size w W1) := by rw [← hbe]; exact HB0.out
    have HS0_1 : Hid (SL W1 A n (fun j => .int .i64 (x j))) := by rw [← hbe]; exact HS0_0.out
    clear hbe
    go_wp2_with fail
    refine (HSA _ HS0_1.out).out.mono ?_
    rintro e w' ⟨rfl, rfl⟩
    go_wp2
    go_ret3
    exact ⟨ret_no9 HH.out, HB1.out⟩
  have HHA := hide (show haP x n from ⟨HAX.out, by rw [HSS.out]; exact hS0⟩)
  cases gg : inB v 0 (n : Int)
  · have HH := hide (show ¬ stP x n v from fun h => by rw [inB_yes h.2] at gg; cases gg)
    go_enter Try.func25, Try.ntmps25
    go_wp2_with (first | (go_at_call 60; refine (specIn_any _ _ _ _ ).mono ?_; rintro e w' ⟨rfl, rfl⟩))
    refine (specIncomes_any A n cc x _ (by unfold maxLen; omega) HS0_0.out).mono ?_
    rw [HAT0.out]
    rintro e W1 ⟨rfl, hbe⟩
    have HB1 : Hid (Below w.heap.size w W1) := by rw [← hbe]; exact HB0.out
    have HS0_1 : Hid (SL W1 A n (fun j => .int .i64 (x j))) := by rw [← hbe]; exact HS0_0.out
    clear hbe
    go_wp2_with fail
    refine (HSA _ HS0_1.out).out.mono ?_
    rintro e w' ⟨rfl, rfl⟩
    go_wp2_with (first | (go_at_call 60; refine (specIn_any _ _ _ _ ).mono ?_; rintro e w' ⟨rfl, rfl⟩))
    go_ret3
    exact ⟨ret_no9 HH.out, HB1.out⟩
  have HG1 := hide (inB_iff.1 gg)
  have HH := hide (show stP x n v from ⟨HHA.out, HG1.out⟩)
  obtain ⟨C, rfl⟩ : ∃ C : Nat, v = C := ⟨v.toNat, by have := HG1.out; omega⟩
  have C1 : C ≤ n := by have := HG1.out; omega
  obtain ⟨t0, t1⟩ := stT_bd (x := x) (n := n) (c := C) HAX.out C1
  obtain ⟨T, hT⟩ : ∃ T, stT x n C = T := ⟨_, rfl⟩
  rw [hT] at t0 t1
  obtain ⟨D, hD⟩ : ∃ D : Nat, n - C = D := ⟨_, rfl⟩
  have hD1 : (n : Int) - (C : Int) = (D : Int) := by omega
  have hDn : D ≤ n := by omega
  have hDi : (D : Int) ≤ (n : Int) := by omega
  have hDC : D + C = n := by omega
  have hD2 : n - D = C := by omega
  have HTT := hide (show psum (fun j => ascF x n (D + j)) C = T by rw [← hT, ← hD]; rfl)
  obtain ⟨a1, ha1⟩ : ∃ a1, T / gcd9 T S = a1 := ⟨_, rfl⟩
  obtain ⟨b1, hb1⟩ : ∃ b1, S / gcd9 T S = b1 := ⟨_, rfl⟩
  have HVA := hide ha1
  have HVB := hide hb1
  have HEA := hide (show a1 = stA x n C by rw [← ha1]; unfold stA; rw [Int.toNat_natCast, hT, HSS.out])
  have HEB := hide (show b1 = stB x n C by rw [← hb1]; unfold stB; rw [Int.toNat_natCast, hT, HSS.out])
  clear ha1 hb1
  clear hT hD
  go_enter Try.func25, Try.ntmps25
  go_wp2_with (first | (go_at_call 60; refine (specIn_any _ _ _ _ ).mono ?_; rintro e w' ⟨rfl, rfl⟩))
  refine (specIncomes_any A n cc x _ (by unfold maxLen; omega) HS0_0.out).mono ?_
  rw [HAT0.out]
  rintro e W1 ⟨rfl, hbe⟩
  have HB1 : Hid (Below w.heap.size w W1) := by rw [← hbe]; exact HB0.out
  have HS0_1 : Hid (SL W1 A n (fun j => .int .i64 (x j))) := by rw [← hbe]; exact HS0_0.out
  clear hbe
  go_wp2_with fail
  refine (HSA _ HS0_1.out).out.mono ?_
  rintro e w' ⟨rfl, rfl⟩
  go_wp2_with (first | (go_at_call 60; refine (specIn_any _ _ _ _ ).mono ?_; rintro e w' ⟨rfl, rfl⟩))
  clear gg
  refine (specSorted_any A n cc x _ (by omega) (by omega) HS0_1.out).mono ?_
  rintro e w3 ⟨g, d, rfl, hcap, hol, hb⟩
  have HSL := hide hol.sl
  have HTL := hide (SL.last hol.sl hDC)
  have HBT := hide (HB1.out.trans (hb.mono HB1.out.size))
  have HS3 := hide (HS0_1.out.below hb)
  have HAB := hide (show ∀ j, j < n → -1000000000000 ≤ ascF x n j ∧ ascF x n j ≤ 1000000000000 from fun j hj => by have := ascF_bd (lo := 0) (hi := 1000000000) HAX.out.2 hj; omega)
  clear hol hb
  by_cases hcd3 : D < d
  · have hcd : ¬ d = D := by omega
    have hcd2 : ¬ d - D = 0 := by omega
    go_wp2_with fail
    refine (specAll9_any _ C _ (fun j => ascF x n (D + j)) _ (by omega) (fun j hj => HAB.out _ (by omega)) HTL.out).mono ?_
    rw [HTT.out]
    rintro e w' ⟨rfl, rfl⟩
    go_wp2_with fail
    refine (specAll9_any _ n _ (ascF x n) _ (by omega) HAB.out HSL.out).mono ?_
    rw [psum_asc, HSS.out]
    rintro e w' ⟨rfl, rfl⟩
    go_wp2_with fail
    refine (specFrac_any T S _ ⟨t0, by omega⟩ ⟨by omega, by omega⟩).mono ?_
    rw [HVA.out, HVB.out]
    rintro e w4 ⟨rfl, hb⟩
    have HBF := hide (HBT.out.trans (hb.mono HBT.out.size))
    clear hb
    go_wp2
    go_ret3
    exact ⟨ret_yes9 HH.out HEA.out HEB.out, HBF.out⟩
  have hC0 : C = 0 := by omega
  have hdD : D = d := by omega
  subst hdD
  subst hC0
  have hdd : D - D = 0 := by omega
  go_wp2_with fail
  refine (specAll9_any _ 0 _ (fun j => ascF x n (D + j)) _ (by omega) (fun j hj => HAB.out _ (by omega)) (.inl rfl)).mono ?_
  rw [HTT.out]
  rintro e w' ⟨rfl, rfl⟩
  go_wp2_with fail
  refine (specAll9_any _ n _ (ascF x n) _ (by omega) HAB.out HSL.out).mono ?_
  rw [psum_asc, HSS.out]
  rintro e w' ⟨rfl, rfl⟩
  go_wp2_with fail
  refine (specFrac_any T S _ ⟨t0, by omega⟩ ⟨by omega, by omega⟩).mono ?_
  rw [HVA.out, HVB.out]
  rintro e w4 ⟨rfl, hb⟩
  have HBF := hide (HBT.out.trans (hb.mono HBT.out.size))
  clear hb
  go_wp2
  go_ret3
  exact ⟨ret_yes9 HH.out HEA.out HEB.out, HBF.out⟩
set_option maxRecDepth 100000 in
set_option maxHeartbeats 8000000 in
theorem implTop_any (A : Option Addr) (n cc : Nat) (x : Nat → Int) (v : Int) (w : World) (hn_n : n ≤ maxLen) (hs_n : SL w A n (fun j => .int .i64 (x j))) :
    Calls Try.prog 26 #[.slice A n cc, .int .i64 v] w fun e w' => e = .returned (.tuple #[.int .i64 (ifV (stP x n v) (stA x n v)), .int .i64 (ifV (stP x n v) (stB x n v)), .bool (tru (stP x n v))]) ∧ Below w.heap.size w w' := by
  unfold maxLen at hn_n
  have HB0 := hide (Below.refl w.heap.size w)
  have HS0_0 := hide hs_n
  clear hs_n
  by_cases hall0 : haP x n
  rotate_left
  · have HAT0 := hide (tru_no hall0)
    have HH := hide (show ¬ stP x n v from fun h => hall0 (h.1))
    clear hall0
    go_enter Try.func26, Try.ntmps26
    go_wp2_with (first | (go_at_call 62; refine (implWithin_any _ _ _ _ ).mono ?_; rintro e w' ⟨rfl, rfl⟩))
    refine (implHave_any A n cc x _ (by unfold maxLen; omega) HS0_0.out).mono ?_
    rw [HAT0.out]
    rintro e W1 ⟨rfl, hb⟩
    have HB1 := hide (HB0.out.trans (hb.mono HB0.out.size))
    have HS0_1 := hide (HS0_0.out.below hb)
    clear hb
    go_wp2_with (first | (go_at_call 62; refine (implWithin_any _ _ _ _ ).mono ?_; rintro e w' ⟨rfl, rfl⟩))
    go_ret3
    exact ⟨ret_no9 HH.out, HB1.out⟩
  have HAT0 := hide (tru_yes hall0)
  have HAL0 := hide hall0
  clear hall0
  cases gg1 : inB v (0) ((n : Int))
  · have HH := hide (show ¬ stP x n v from fun h => by rw [inB_yes (h.2)] at gg1; cases gg1)
    go_enter Try.func26, Try.ntmps26
    go_wp2_with (first | (go_at_call 62; refine (implWithin_any _ _ _ _ ).mono ?_; rintro e w' ⟨rfl, rfl⟩))
    refine (implHave_any A n cc x _ (by unfold maxLen; omega) HS0_0.out).mono ?_
    rw [HAT0.out]
    rintro e W1 ⟨rfl, hb⟩
    have HB1 := hide (HB0.out.trans (hb.mono HB0.out.size))
    have HS0_1 := hide (HS0_0.out.below hb)
    clear hb
    go_wp2_with (first | (go_at_call 62; refine (implWithin_any _ _ _ _ ).mono ?_; rintro e w' ⟨rfl, rfl⟩))
    go_ret3
    exact ⟨ret_no9 HH.out, HB1.out⟩
  have HG1 := hide (inB_iff.1 gg1)
  have HAX := hide HAL0.out.1
  have HHA := HAL0
  have n64 := HAX.out.1.2
  have n1 := HAX.out.1.1
  obtain ⟨s0, s1⟩ := ha_bd HAX.out
  have HSA := fun w hs => hide (sumBy_itself A n cc x w (by omega) (inc_wide HAX.out) hs)
  obtain ⟨S, hS⟩ : ∃ S, psum x n = S := ⟨_, rfl⟩
  rw [hS] at HSA s0 s1
  have HSS := hide hS
  have hS0 : ¬ S = 0 := fun h => HHA.out.2 (by rw [HSS.out]; exact h)
  clear hS
  have HH := hide (show stP x n v from ⟨HHA.out, HG1.out⟩)
  obtain ⟨C, rfl⟩ : ∃ C : Nat, v = C := ⟨v.toNat, by have := HG1.out; omega⟩
  have C1 : C ≤ n := by have := HG1.out; omega
  obtain ⟨t0, t1⟩ := stT_bd (x := x) (n := n) (c := C) HAX.out C1
  obtain ⟨T, hT⟩ : ∃ T, stT x n C = T := ⟨_, rfl⟩
  rw [hT] at t0 t1
  obtain ⟨D, hD⟩ : ∃ D : Nat, n - C = D := ⟨_, rfl⟩
  have hD1 : (n : Int) - (C : Int) = (D : Int) := by omega
  have hDn : D ≤ n := by omega
  have hDi : (D : Int) ≤ (n : Int) := by omega
  have hDC : D + C = n := by omega
  have hD2 : n - D = C := by omega
  have HTT := hide (show psum (fun j => ascF x n (D + j)) C = T by rw [← hT, ← hD]; rfl)
  obtain ⟨a1, ha1⟩ : ∃ a1, T / gcd9 T S = a1 := ⟨_, rfl⟩
  obtain ⟨b1, hb1⟩ : ∃ b1, S / gcd9 T S = b1 := ⟨_, rfl⟩
  have HVA := hide ha1
  have HVB := hide hb1
  have HEA := hide (show a1 = stA x n C by rw [← ha1]; unfold stA; rw [Int.toNat_natCast, hT, HSS.out])
  have HEB := hide (show b1 = stB x n C by rw [← hb1]; unfold stB; rw [Int.toNat_natCast, hT, HSS.out])
  clear ha1 hb1
  clear hT hD
  go_enter Try.func26, Try.ntmps26
  go_wp2_with (first | (go_at_call 62; refine (implWithin_any _ _ _ _ ).mono ?_; rintro e w' ⟨rfl, rfl⟩))
  refine (implHave_any A n cc x _ (by unfold maxLen; omega) HS0_0.out).mono ?_
  rw [HAT0.out]
  rintro e W1 ⟨rfl, hb⟩
  have HB1 := hide (HB0.out.trans (hb.mono HB0.out.size))
  have HS0_1 := hide (HS0_0.out.below hb)
  clear hb
  go_wp2_with (first | (go_at_call 62; refine (implWithin_any _ _ _ _ ).mono ?_; rintro e w' ⟨rfl, rfl⟩))
  clear gg1
  refine (implSorted_any A n cc x _ (by omega) (by omega) HS0_1.out).mono ?_
  rintro e w3 ⟨g, d, rfl, hcap, hol, hb⟩
  have HSL := hide hol.sl
  have HTL := hide (SL.last hol.sl hDC)
  have HBT := hide (HB1.out.trans (hb.mono HB1.out.size))
  have HS3 := hide (HS0_1.out.below hb)
  have HAB := hide (show ∀ j, j < n → -1000000000000 ≤ ascF x n j ∧ ascF x n j ≤ 1000000000000 from fun j hj => by have := ascF_bd (lo := 0) (hi := 1000000000) HAX.out.2 hj; omega)
  clear hol hb
  by_cases hcd3 : D < d
  · have hcd : ¬ d = D := by omega
    have hcd2 : ¬ d - D = 0 := by omega
    go_wp2_with fail
    refine (sumBy_itself _ C _ (fun j => ascF x n (D + j)) _ (by omega) (fun j hj => HAB.out _ (by omega)) HTL.out).mono ?_
    rw [HTT.out]
    rintro e w' ⟨rfl, rfl⟩
    go_wp2_with fail
    refine (HSA _ HS3.out).out.mono ?_
    rintro e w' ⟨rfl, rfl⟩
    go_wp2_with fail
    refine (implFrac_any T S _ ⟨t0, by omega⟩ ⟨by omega, by omega⟩).mono ?_
    rw [HVA.out, HVB.out]
    rintro e w4 ⟨rfl, hb⟩
    have HBF := hide (HBT.out.trans (hb.mono HBT.out.size))
    clear hb
    obtain ⟨v4, hv4⟩ : ∃ u, u = w4.alloc (.cells #[.int .i64 a1, .int .i64 b1] 61) := ⟨_, rfl⟩
    have HBK := hide (show v4.heap[w4.heap.size]? = some (.cells #[.int .i64 a1, .int .i64 b1] 61) by rw [hv4]; exact blocks1 w4 _)
    have HBV := hide (show Below w.heap.size w v4 by rw [hv4]; exact HBF.out.alloc HBF.out.size _)
    have k0 := Joins.cell_of_block HBK.out 0
    have k1 := Joins.cell_of_block HBK.out 1
    simp at k0 k1
    have HVV := hide hv4
    clear hv4
    go_wp2_with fail
    rw [← HVV.out]
    go_quiet (fail)
    go_wp2
    go_ret3
    exact ⟨ret_yes9 HH.out HEA.out HEB.out, bel_q HBV.out _⟩
  have hC0 : C = 0 := by omega
  have hdD : D = d := by omega
  subst hdD
  subst hC0
  have hdd : D - D = 0 := by omega
  go_wp2_with fail
  refine (sumBy_itself _ 0 _ (fun j => ascF x n (D + j)) _ (by omega) (fun j hj => HAB.out _ (by omega)) (.inl rfl)).mono ?_
  rw [HTT.out]
  rintro e w' ⟨rfl, rfl⟩
  go_wp2_with fail
  refine (HSA _ HS3.out).out.mono ?_
  rintro e w' ⟨rfl, rfl⟩
  go_wp2_with fail
  refine (implFrac_any T S _ ⟨t0, by omega⟩ ⟨by omega, by omega⟩).mono ?_
  rw [HVA.out, HVB.out]
  rintro e w4 ⟨rfl, hb⟩
  have HBF := hide (HBT.out.trans (hb.mono HBT.out.size))
  clear hb
  obtain ⟨v4, hv4⟩ : ∃ u, u = w4.alloc (.cells #[.int .i64 a1, .int .i64 b1] 61) := ⟨_, rfl⟩
  have HBK := hide (show v4.heap[w4.heap.size]? = some (.cells #[.int .i64 a1, .int .i64 b1] 61) by rw [hv4]; exact blocks1 w4 _)
  have HBV := hide (show Below w.heap.size w v4 by rw [hv4]; exact HBF.out.alloc HBF.out.size _)
  have k0 := Joins.cell_of_block HBK.out 0
  have k1 := Joins.cell_of_block HBK.out 1
  simp at k0 k1
  have HVV := hide hv4
  clear hv4
  go_wp2_with fail
  rw [← HVV.out]
  go_quiet (fail)
  go_wp2
  go_ret3
  exact ⟨ret_yes9 HH.out HEA.out HEB.out, bel_q HBV.out _⟩
end Go.Proofs.Ytelcknddbikgaaa
