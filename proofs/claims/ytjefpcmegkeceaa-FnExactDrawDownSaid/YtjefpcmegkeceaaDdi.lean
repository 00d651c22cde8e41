/- DrawDown, by the program, whole. -/
import Derived.Test.YtjefpcmegkeceaaDy
namespace Go.Proofs.Ytjefpcmegkeceaa
open Go.RowKit Go.Dues
theorem sl_far {w : World} {A : Option Addr} {n : Nat} {f : Nat → Value} (h : SL w A n f) : ∀ b off, A = some ⟨b, off, none⟩ → n ≠ 0 → w.heap.size ≠ b := by
  intro b off e hn
  rcases h with h | ⟨b', off', h1, h2, _⟩
  · exact absurd h hn
  · rw [e] at h1
    injection h1 with h1
    injection h1 with h1
    omega
set_option maxRecDepth 100000 in
set_option maxHeartbeats 8000000 in
theorem implDrawDown_any (s : Int) (A : Option Addr) (n c : Nat) (r : Nat → Int) (d : Int) (w : World) (hn_n : n ≤ maxLen) (hs_n : SL w A n (fun j => .int .i64 (r j))) :
    Calls Try.prog 36 #[.int .i64 s, .slice A n c, .int .i64 d] w fun e w' => Gave1i w w' e (ddP s r n d) n (ddV s r d) (dwC s r d n) := by
  unfold maxLen at hn_n
  obtain ⟨W0, hW⟩ : ∃ u, u = (((w.alloc (.cells #[.slice A n c] 22)).alloc (.cells #[.int .i64 d] 2)).alloc (.cells #[.int .i64 s, .int .i64 d] 2)) := ⟨_, rfl⟩
  have HB0 : Hid (Below w.heap.size w W0) := by rw [hW]; exact ((((Below.refl w.heap.size w).alloc (Nat.le_refl _) _).alloc (by simp) _).alloc (by simp; omega) _)
  have HX0_0 : Hid (W0.heap[w.heap.size]? = some (.cells #[.slice A n c] 22)) := by rw [hW]; exact (blocks3 w _ _ _ ).1
  have HX1_0 : Hid (W0.heap[w.heap.size + 1]? = some (.cells #[.int .i64 d] 2)) := by rw [hW]; exact (blocks3 w _ _ _ ).2.1
  have HX2_0 : Hid (W0.heap[w.heap.size + 1 + 1]? = some (.cells #[.int .i64 s, .int .i64 d] 2)) := by rw [hW]; exact (blocks3 w _ _ _ ).2.2
  have HS0_0 := hide (hs_n.below HB0.out)
  clear hs_n
  have HWW := hide hW
  clear hW
  cases gg0 : amtB s
  · have HH := hide (show ¬ ddP s r n d from fun h => by rw [amtB_yes (h.1)] at gg0; cases gg0)
    go_enter Try.func36, Try.ntmps36
    go_wp2_with fail
    rw [← HWW.out]
    clear HWW
    refine (implAmounts2_any (w.heap.size + 1 + 1) s d W0 HX2_0.out).mono ?_
    rintro e w' ⟨rfl, rfl⟩
    have kx0 := Joins.cell_of_block HX0_0.out 0
    have kx1 := Joins.cell_of_block HX1_0.out 0
    have kx2 := Joins.cell_of_block HX2_0.out 0
    simp at kx0 kx1 kx2
    go_wp2_with (first | (go_at_call 69; refine (implAmount_any _ _ ).mono ?_; rintro e w' ⟨rfl, rfl⟩) | (go_at_call 53; refine (implRate_any _ _ ).mono ?_; rintro e w' ⟨rfl, rfl⟩) | (go_at_call 49; refine (implWithin_any _ _ _ _ ).mono ?_; rintro e w' ⟨rfl, rfl⟩) | (go_at_call 72; go_in))
    go_ret3
    exact gave1i_no HH.out HB0.out
  have HG0 := hide (amtB_iff.1 gg0)
  cases gg1 : amtB d
  · have HH := hide (show ¬ ddP s r n d from fun h => by rw [amtB_yes (h.2.2.1)] at gg1; cases gg1)
    go_enter Try.func36, Try.ntmps36
    go_wp2_with fail
    rw [← HWW.out]
    clear HWW
    refine (implAmounts2_any (w.heap.size + 1 + 1) s d W0 HX2_0.out).mono ?_
    rintro e w' ⟨rfl, rfl⟩
    have kx0 := Joins.cell_of_block HX0_0.out 0
    have kx1 := Joins.cell_of_block HX1_0.out 0
    have kx2 := Joins.cell_of_block HX2_0.out 0
    simp at kx0 kx1 kx2
    go_wp2_with (first | (go_at_call 69; refine (implAmount_any _ _ ).mono ?_; rintro e w' ⟨rfl, rfl⟩) | (go_at_call 53; refine (implRate_any _ _ ).mono ?_; rintro e w' ⟨rfl, rfl⟩) | (go_at_call 49; refine (implWithin_any _ _ _ _ ).mono ?_; rintro e w' ⟨rfl, rfl⟩) | (go_at_call 72; go_in))
    go_ret3
    exact gave1i_no HH.out HB0.out
  have HG1 := hide (amtB_iff.1 gg1)
  by_cases hall2 : allP r n 1 60 (-9999) 10000
  rotate_left
  · have HAT2 := hide (tru_no hall2)
    have HH := hide (show ¬ ddP s r n d from fun h => hall2 (h.2.1))
    clear hall2
    go_enter Try.func36, Try.ntmps36
    go_wp2_with fail
    rw [← HWW.out]
    clear HWW
    refine (implAmounts2_any (w.heap.size + 1 + 1) s d W0 HX2_0.out).mono ?_
    rintro e w' ⟨rfl, rfl⟩
    have kx0 := Joins.cell_of_block HX0_0.out 0
    have kx1 := Joins.cell_of_block HX1_0.out 0
    have kx2 := Joins.cell_of_block HX2_0.out 0
    simp at kx0 kx1 kx2
    go_wp2_with (first | (go_at_call 69; refine (implAmount_any _ _ ).mono ?_; rintro e w' ⟨rfl, rfl⟩) | (go_at_call 53; refine (implRate_any _ _ ).mono ?_; rintro e w' ⟨rfl, rfl⟩) | (go_at_call 49; refine (implWithin_any _ _ _ _ ).mono ?_; rintro e w' ⟨rfl, rfl⟩) | (go_at_call 72; go_in))
    refine (areAll_isFundRate A n c r 1 60 _ (by unfold maxLen; omega) HS0_0.out).mono ?_
    rw [HAT2.out]
    rintro e W1 ⟨rfl, hb⟩
    have HB1 := hide (HB0.out.trans (hb.mono HB0.out.size))
    have HS0_1 := hide (HS0_0.out.below hb)
    have HX0_1 := hide (blk_below hb (Array.getElem?_eq_some_iff.1 HX0_0.out).1 HX0_0.out)
    have HX1_1 := hide (blk_below hb (Array.getElem?_eq_some_iff.1 HX1_0.out).1 HX1_0.out)
    have HX2_1 := hide (blk_below hb (Array.getElem?_eq_some_iff.1 HX2_0.out).1 HX2_0.out)
    clear kx0 kx1 kx2
    have kx0 := Joins.cell_of_block HX0_1.out 0
    have kx1 := Joins.cell_of_block HX1_1.out 0
    have kx2 := Joins.cell_of_block HX2_1.out 0
    simp at kx0 kx1 kx2
    clear hb
    go_wp2_with (first | (go_at_call 69; refine (implAmount_any _ _ ).mono ?_; rintro e w' ⟨rfl, rfl⟩) | (go_at_call 53; refine (implRate_any _ _ ).mono ?_; rintro e w' ⟨rfl, rfl⟩) | (go_at_call 49; refine (implWithin_any _ _ _ _ ).mono ?_; rintro e w' ⟨rfl, rfl⟩) | (go_at_call 72; go_in))
    go_ret3
    exact gave1i_no HH.out HB1.out
  have HAT2 := hide (tru_yes hall2)
  have HAL2 := hide hall2
  clear hall2
  have n60 := HAL2.out.1.2
  obtain ⟨s0, s1⟩ := HG0.out
  obtain ⟨d0, d1⟩ := HG1.out
  have HR := hide HAL2.out.2
  go_enter Try.func36, Try.ntmps36
  go_wp2_with fail
  rw [← HWW.out]
  clear HWW
  refine (implAmounts2_any (w.heap.size + 1 + 1) s d W0 HX2_0.out).mono ?_
  rintro e w' ⟨rfl, rfl⟩
  have kx0 := Joins.cell_of_block HX0_0.out 0
  have kx1 := Joins.cell_of_block HX1_0.out 0
  have kx2 := Joins.cell_of_block HX2_0.out 0
  simp at kx0 kx1 kx2
  go_wp2_with (first | (go_at_call 69; refine (implAmount_any _ _ ).mono ?_; rintro e w' ⟨rfl, rfl⟩) | (go_at_call 53; refine (implRate_any _ _ ).mono ?_; rintro e w' ⟨rfl, rfl⟩) | (go_at_call 49; refine (implWithin_any _ _ _ _ ).mono ?_; rintro e w' ⟨rfl, rfl⟩) | (go_at_call 72; go_in))
  refine (areAll_isFundRate A n c r 1 60 _ (by unfold maxLen; omega) HS0_0.out).mono ?_
  rw [HAT2.out]
  rintro e W1 ⟨rfl, hb⟩
  have HB1 := hide (HB0.out.trans (hb.mono HB0.out.size))
  have HS0_1 := hide (HS0_0.out.below hb)
  have HX0_1 := hide (blk_below hb (Array.getElem?_eq_some_iff.1 HX0_0.out).1 HX0_0.out)
  have HX1_1 := hide (blk_below hb (Array.getElem?_eq_some_iff.1 HX1_0.out).1 HX1_0.out)
  have HX2_1 := hide (blk_below hb (Array.getElem?_eq_some_iff.1 HX2_0.out).1 HX2_0.out)
  clear kx0 kx1 kx2
  have kx0 := Joins.cell_of_block HX0_1.out 0
  have kx1 := Joins.cell_of_block HX1_1.out 0
  have kx2 := Joins.cell_of_block HX2_1.out 0
  simp at kx0 kx1 kx2
  clear hb
  obtain ⟨WE, hWE⟩ : ∃ u, u = W1.alloc (.cells #[.int .i64 0] 2) := ⟨_, rfl⟩
  have HBE : Hid (Below W1.heap.size W1 WE) := by rw [hWE]; exact (Below.refl W1.heap.size W1).alloc (Nat.le_refl _) _
  have HPE : Hid (WE.heap[W1.heap.size]? = some (.cells #[.int .i64 0] 2)) := by rw [hWE]; exact blocks1 W1 _
  have lt0 := (Array.getElem?_eq_some_iff.1 HX0_1.out).1
  have lt1 := (Array.getElem?_eq_some_iff.1 HX1_1.out).1
  have HY := hide (drawYears_any (w.heap.size + 1) W1.heap.size w.heap.size A n c r d s WE (HS0_1.out.below HBE.out) (blk_below HBE.out lt1 HX1_1.out) HPE.out (blk_below HBE.out lt0 HX0_1.out) (by omega) (by omega) (sl_far HS0_1.out) (by omega) s0 s1 HR.out d0 d1)
  have hle : w.heap.size ≤ W1.heap.size := HB1.out.size
  have hle2 : W1.heap.size ≤ WE.heap.size := HBE.out.size
  have HWE := hide hWE
  have kw0 : (W1.alloc (.cells #[.int .i64 0] 2)).cell? ⟨w.heap.size, 0, none⟩ = some (.slice A n c) := by rw [← hWE]; exact (HBE.out.cell (p := ⟨w.heap.size, 0, none⟩) lt0).trans kx0
  clear hWE lt0 lt1
  by_cases hok : dwOk s r d n
  · have HOK := hide hok
    rw [lenV_yes hok, tru_yes hok] at HY
    have HH := hide (show ddP s r n d from ⟨⟨s0, s1⟩, HAL2.out, ⟨d0, d1⟩, hok⟩)
    clear hok
    go_wp2_with (first | (go_at_call 73; fail) | (go_at_call 69; refine (implAmount_any _ _ ).mono ?_; rintro e w' ⟨rfl, rfl⟩) | (go_at_call 53; refine (implRate_any _ _ ).mono ?_; rintro e w' ⟨rfl, rfl⟩) | (go_at_call 49; refine (implWithin_any _ _ _ _ ).mono ?_; rintro e w' ⟨rfl, rfl⟩) | (go_at_call 72; go_in))
    rw [← HWE.out]
    clear HWE gg0 gg1 kw0 kx0 kx1 kx2
    refine HY.out.mono ?_
    rintro e W2 ⟨G, dd, E, rfl, ho, hM, hE, hEE⟩
    have HBF := hide (HB1.out.trans ((HBE.out.mono hle).trans (hM.bel (B := w.heap.size) hle (by omega))))
    have HO := hide (ho.wide (lo' := w.heap.size) (by omega) (Nat.le_refl _))
    have kE := Joins.cell_of_block hE 0
    simp at kE
    have HEE := hide (hEE HOK.out)
    clear ho hM hE hEE
    go_wp2
    go_quiet (fail)
    go_wp2
    go_ret3
    exact gave1i_yes HH.out HEE.out (HO.out.drewN _) (bel_q HBF.out _)
  · have HOK := hide hok
    rw [lenV_no hok, tru_no hok] at HY
    have HH := hide (show ¬ ddP s r n d from fun h => hok h.2.2.2)
    clear hok
    go_wp2_with (first | (go_at_call 73; fail) | (go_at_call 69; refine (implAmount_any _ _ ).mono ?_; rintro e w' ⟨rfl, rfl⟩) | (go_at_call 53; refine (implRate_any _ _ ).mono ?_; rintro e w' ⟨rfl, rfl⟩) | (go_at_call 49; refine (implWithin_any _ _ _ _ ).mono ?_; rintro e w' ⟨rfl, rfl⟩) | (go_at_call 72; go_in))
    rw [← HWE.out]
    clear HWE gg0 gg1 kw0 kx0 kx1 kx2
    refine HY.out.mono ?_
    rintro e W2 ⟨G, dd, E, rfl, ho, hM, hE, hEE⟩
    have HBF := hide (HB1.out.trans ((HBE.out.mono hle).trans (hM.bel (B := w.heap.size) hle (by omega))))
    clear ho hM hE hEE
    go_wp2
    go_ret3
    exact gave1i_no HH.out HBF.out
end Go.Proofs.Ytjefpcmegkeceaa
