/- The law FnCurves, walked. -/
import Derived.Test.YtbcajjpgpjadaaaPn8
import Derived.Test.YtbcajjpgpjadaaaNq8
import Derived.Test.YtbcajjpgpjadaaaLc8
import Derived.Test.YtbcajjpgpjadaaaRs8
import Derived.Test.YtbcajjpgpjadaaaBb
import Derived.Test.YtbcajjpgpjadaaaBr8
namespace Go.Proofs.Ytbcajjpgpjadaaa
open Go.RowKit Go.Dues
set_option maxRecDepth 100000 in
set_option maxHeartbeats 16000000 in
theorem lawFnCurves_any (A : Option Addr) (n c : Nat) (x : Nat → Int) (B : Option Addr) (m d : Nat) (y : Nat → Int) (w : World) (hn : n ≤ maxLen) (hs : SL w A n (fun j => .int .u8 (x j))) (hx : ∀ j, j < n → 0 ≤ x j ∧ x j ≤ 255) (hm : m ≤ maxLen) (ht : SL w B m (fun j => .int .u8 (y j))) (hy : ∀ j, j < m → 0 ≤ y j ∧ y j ≤ 255) :
    Calls Try.prog 14 #[.slice A n c, .slice B m d] w fun e w' => e = .returned (.bool true) ∧ Below w.heap.size w w' := by
  by_cases hbig : 48 < n ∨ 48 < m
  · go_enter Try.func14, Try.ntmps14
    go_wp2_with (go_at_call 76; refine (r8Long_yes A n c B m d w hbig hn hm).mono ?_; rintro e w' ⟨rfl, rfl⟩)
    go_ret
    exact ⟨rfl, Below.refl _ _⟩
  have hn' : n ≤ 48 := by omega
  have hm' : m ≤ 48 := by omega
  clear hbig hn hm
  have HT := hide ht
  have HY := hide hy
  clear ht hy
  have HS := hide hs
  have HX := hide hx
  clear hs hx
  obtain ⟨v0, hv0⟩ : ∃ q, r8V y m 40 256 = q := ⟨_, rfl⟩
  have v00 : 0 ≤ v0 := by rw [← hv0]; exact (r8V_bd (by omega)).1
  have v01 : v0 < 256 := by rw [← hv0]; exact (r8V_bd (by omega)).2
  have Hv0 : Hid (∀ w1, Below w.heap.size w w1 → Calls Try.prog 78 #[.slice B m d, .int .i64 40, .int .i64 256] w1 fun e w2 => e = .returned (.int .i64 v0) ∧ Below w1.heap.size w1 w2) := fun w1 hb => by rw [← hv0]; exact r8At_any B m d y 40 256 w1 hm' (HT.out.below hb) HY.out (by omega) (by omega) (by omega)
  clear hv0
  obtain ⟨v1, hv1⟩ : ∃ q, r8V y m 41 256 = q := ⟨_, rfl⟩
  have v10 : 0 ≤ v1 := by rw [← hv1]; exact (r8V_bd (by omega)).1
  have v11 : v1 < 256 := by rw [← hv1]; exact (r8V_bd (by omega)).2
  have Hv1 : Hid (∀ w1, Below w.heap.size w w1 → Calls Try.prog 78 #[.slice B m d, .int .i64 41, .int .i64 256] w1 fun e w2 => e = .returned (.int .i64 v1) ∧ Below w1.heap.size w1 w2) := fun w1 hb => by rw [← hv1]; exact r8At_any B m d y 41 256 w1 hm' (HT.out.below hb) HY.out (by omega) (by omega) (by omega)
  clear hv1
  obtain ⟨v2, hv2⟩ : ∃ q, r8V y m 42 100 = q := ⟨_, rfl⟩
  have v20 : 0 ≤ v2 := by rw [← hv2]; exact (r8V_bd (by omega)).1
  have v21 : v2 < 100 := by rw [← hv2]; exact (r8V_bd (by omega)).2
  have Hv2 : Hid (∀ w1, Below w.heap.size w w1 → Calls Try.prog 78 #[.slice B m d, .int .i64 42, .int .i64 100] w1 fun e w2 => e = .returned (.int .i64 v2) ∧ Below w1.heap.size w1 w2) := fun w1 hb => by rw [← hv2]; exact r8At_any B m d y 42 100 w1 hm' (HT.out.below hb) HY.out (by omega) (by omega) (by omega)
  clear hv2
  obtain ⟨v3, hv3⟩ : ∃ q, r8V y m 43 200 = q := ⟨_, rfl⟩
  have v30 : 0 ≤ v3 := by rw [← hv3]; exact (r8V_bd (by omega)).1
  have v31 : v3 < 200 := by rw [← hv3]; exact (r8V_bd (by omega)).2
  have Hv3 : Hid (∀ w1, Below w.heap.size w w1 → Calls Try.prog 78 #[.slice B m d, .int .i64 43, .int .i64 200] w1 fun e w2 => e = .returned (.int .i64 v3) ∧ Below w1.heap.size w1 w2) := fun w1 hb => by rw [← hv3]; exact r8At_any B m d y 43 200 w1 hm' (HT.out.below hb) HY.out (by omega) (by omega) (by omega)
  clear hv3
  obtain ⟨v4, hv4⟩ : ∃ q, r8V y m 44 20 = q := ⟨_, rfl⟩
  have v40 : 0 ≤ v4 := by rw [← hv4]; exact (r8V_bd (by omega)).1
  have v41 : v4 < 20 := by rw [← hv4]; exact (r8V_bd (by omega)).2
  have Hv4 : Hid (∀ w1, Below w.heap.size w w1 → Calls Try.prog 78 #[.slice B m d, .int .i64 44, .int .i64 20] w1 fun e w2 => e = .returned (.int .i64 v4) ∧ Below w1.heap.size w1 w2) := fun w1 hb => by rw [← hv4]; exact r8At_any B m d y 44 20 w1 hm' (HT.out.below hb) HY.out (by omega) (by omega) (by omega)
  clear hv4
  obtain ⟨r, hr⟩ : ∃ q, r8V y m 45 4 = q := ⟨_, rfl⟩
  have r0 : 0 ≤ r := by rw [← hr]; exact (r8V_bd (by omega)).1
  have r1 : r < 4 := by rw [← hr]; exact (r8V_bd (by omega)).2
  have Hr : Hid (∀ w1, Below w.heap.size w w1 → Calls Try.prog 78 #[.slice B m d, .int .i64 45, .int .i64 4] w1 fun e w2 => e = .returned (.int .i64 r) ∧ Below w1.heap.size w1 w2) := fun w1 hb => by rw [← hr]; exact r8At_any B m d y 45 4 w1 hm' (HT.out.below hb) HY.out (by omega) (by omega) (by omega)
  clear hr
  obtain ⟨fu, hfu⟩ : ∃ q : Int, v0 * 5 = q := ⟨_, rfl⟩
  obtain ⟨st, hst⟩ : ∃ q : Int, v1 * 3 = q := ⟨_, rfl⟩
  obtain ⟨ra, hra⟩ : ∃ q : Int, 100 * v2 = q := ⟨_, rfl⟩
  obtain ⟨sp, hsp⟩ : ∃ q : Int, 1 + v3 = q := ⟨_, rfl⟩
  obtain ⟨N, hN⟩ : ∃ q : Nat, 1 + v4 = (q : Int) := ⟨(1 + v4).toNat, by omega⟩
  have bfu : 0 ≤ fu ∧ fu ≤ 1275 := by omega
  have bst : 0 ≤ st ∧ st ≤ 765 := by omega
  have bra : 0 ≤ ra ∧ ra ≤ 10000 := by omega
  have bsp : 1 ≤ sp ∧ sp ≤ 200 := by omega
  have bN : 1 ≤ N ∧ N ≤ 20 := by omega
  have Hfu := hide hfu
  have Hst := hide hst
  have Hra := hide hra
  have Hsp := hide hsp
  have HN := hide hN
  clear hfu hst hra hsp hN
  have HB0 := hide (Below.refl w.heap.size w)
  go_enter Try.func14, Try.ntmps14
  go_wp2_with fail
  refine (r8Long_no A n c B m d w hn' hm').mono ?_
  rintro e w0 ⟨rfl, rfl⟩
  go_wp2_with fail
  refine (r8Scale_any A n c x _ (by unfold maxLen; omega) (show SL w A n _ from HS.out) HX.out).mono ?_
  rintro e w1 ⟨⟨G, dG, G', dG', K, z, z', rfl, hv, hK, hbd, ho, ho', hne⟩, hb⟩
  replace hb : Below w.heap.size w w1 := ⟨hb.os, hb.tape, hb.output, hb.size, hb.block⟩
  have HB1 := hide (HB0.out.trans (hb.mono HB0.out.size))
  clear hb
  have HG := hide ho.sl
  have HG' := hide ho'.sl
  have HV := hide hv
  clear ho ho' hv hbd hne
  obtain ⟨w2, hwe⟩ : ∃ u, u = w1.alloc (.cells #[.slice G K dG, .slice G' K dG'] 30) := ⟨_, rfl⟩
  have hb : Below w1.heap.size w1 w2 := by rw [hwe]; exact (Below.refl _ _).alloc (Nat.le_refl _) _
  have HXS : Hid (w2.heap[w1.heap.size]? = some (.cells #[.slice G K dG, .slice G' K dG'] 30)) := by rw [hwe]; exact blocks1 w1 _
  have hzs : w1.heap.size + 1 ≤ w2.heap.size := by rw [hwe]; simp
  have HWE := hide hwe
  clear hwe
  go_wp2_with fail
  rw [← HWE.out]
  clear HWE
  have hbs := hb.size
  have HG := hide (HG.out.below hb)
  have HG' := hide (HG'.out.below hb)
  replace hb : Below w1.heap.size w1 w2 := ⟨hb.os, hb.tape, hb.output, hb.size, hb.block⟩
  have HB2 := hide (HB1.out.trans (hb.mono HB1.out.size))
  clear hb
  refine (Hv0.out _ (by first | exact HB2.out | exact bel_dN HB2.out _)).mono ?_
  rintro e w3 ⟨rfl, hb⟩
  replace hb : Below w2.heap.size w2 w3 := ⟨hb.os, hb.tape, hb.output, hb.size, hb.block⟩
  have hs3 : w2.heap.size ≤ w3.heap.size := hb.size
  have HXS := hide (blk_below hb (by omega) HXS.out)
  have HG := hide (HG.out.below hb)
  have HG' := hide (HG'.out.below hb)
  replace hb : Below w2.heap.size w2 w3 := ⟨hb.os, hb.tape, hb.output, hb.size, hb.block⟩
  have HB3 := hide (HB2.out.trans (hb.mono HB2.out.size))
  clear hb
  go_wp2_with fail
  rw [Hfu.out]
  refine (Hv1.out _ (by first | exact HB3.out | exact bel_dN HB3.out _)).mono ?_
  rintro e w4 ⟨rfl, hb⟩
  replace hb : Below w3.heap.size w3 w4 := ⟨hb.os, hb.tape, hb.output, hb.size, hb.block⟩
  have hs4 : w3.heap.size ≤ w4.heap.size := hb.size
  have HXS := hide (blk_below hb (by omega) HXS.out)
  have HG := hide (HG.out.below hb)
  have HG' := hide (HG'.out.below hb)
  replace hb : Below w3.heap.size w3 w4 := ⟨hb.os, hb.tape, hb.output, hb.size, hb.block⟩
  have HB4 := hide (HB3.out.trans (hb.mono HB3.out.size))
  clear hb
  go_wp2_with fail
  rw [Hst.out]
  refine (Hv2.out _ (by first | exact HB4.out | exact bel_dN HB4.out _)).mono ?_
  rintro e w5 ⟨rfl, hb⟩
  replace hb : Below w4.heap.size w4 w5 := ⟨hb.os, hb.tape, hb.output, hb.size, hb.block⟩
  have hs5 : w4.heap.size ≤ w5.heap.size := hb.size
  have HXS := hide (blk_below hb (by omega) HXS.out)
  have HG := hide (HG.out.below hb)
  have HG' := hide (HG'.out.below hb)
  replace hb : Below w4.heap.size w4 w5 := ⟨hb.os, hb.tape, hb.output, hb.size, hb.block⟩
  have HB5 := hide (HB4.out.trans (hb.mono HB4.out.size))
  clear hb
  go_wp2_with fail
  rw [Hra.out]
  refine (Hv3.out _ (by first | exact HB5.out | exact bel_dN HB5.out _)).mono ?_
  rintro e w6 ⟨rfl, hb⟩
  replace hb : Below w5.heap.size w5 w6 := ⟨hb.os, hb.tape, hb.output, hb.size, hb.block⟩
  have hs6 : w5.heap.size ≤ w6.heap.size := hb.size
  have HXS := hide (blk_below hb (by omega) HXS.out)
  have HG := hide (HG.out.below hb)
  have HG' := hide (HG'.out.below hb)
  replace hb : Below w5.heap.size w5 w6 := ⟨hb.os, hb.tape, hb.output, hb.size, hb.block⟩
  have HB6 := hide (HB5.out.trans (hb.mono HB5.out.size))
  clear hb
  go_wp2_with fail
  rw [Hsp.out]
  refine (Hv4.out _ (by first | exact HB6.out | exact bel_dN HB6.out _)).mono ?_
  rintro e w7 ⟨rfl, hb⟩
  replace hb : Below w6.heap.size w6 w7 := ⟨hb.os, hb.tape, hb.output, hb.size, hb.block⟩
  have hs7 : w6.heap.size ≤ w7.heap.size := hb.size
  have HXS := hide (blk_below hb (by omega) HXS.out)
  have HG := hide (HG.out.below hb)
  have HG' := hide (HG'.out.below hb)
  replace hb : Below w6.heap.size w6 w7 := ⟨hb.os, hb.tape, hb.output, hb.size, hb.block⟩
  have HB7 := hide (HB6.out.trans (hb.mono HB6.out.size))
  clear hb
  go_wp2_with fail
  rw [HN.out]
  refine (Hr.out _ (by first | exact HB7.out | exact bel_dN HB7.out _)).mono ?_
  rintro e w8 ⟨rfl, hb⟩
  replace hb : Below w7.heap.size w7 w8 := ⟨hb.os, hb.tape, hb.output, hb.size, hb.block⟩
  have hs8 : w7.heap.size ≤ w8.heap.size := hb.size
  have HXS := hide (blk_below hb (by omega) HXS.out)
  have HG := hide (HG.out.below hb)
  have HG' := hide (HG'.out.below hb)
  replace hb : Below w7.heap.size w7 w8 := ⟨hb.os, hb.tape, hb.output, hb.size, hb.block⟩
  have HB8 := hide (HB7.out.trans (hb.mono HB7.out.size))
  clear hb
  obtain ⟨hnc, hcv, hnt⟩ := cv_nc (N := N) HV.out ⟨r0, by omega⟩ bfu bst bra bsp bN
  have HCV := hide hcv
  have HNT := hide hnt
  have HNC := hide hnc
  clear hcv hnt hnc
  have s0 := Joins.cell_of_block HXS.out 0
  have s1 := Joins.cell_of_block HXS.out 1
  simp at s0 s1
  go_wp2_with fail
  refine (implCurveC_any G G' K dG K dG' z z' fu st ra sp (N : Int) r w8 (by unfold maxLen; omega) (by unfold maxLen; omega) HG.out HG'.out).mono ?_
  rintro e w9 ⟨Q, dQ, rfl, hcap, ho, hb⟩
  rw [lenV_yes HNC.out, Int.toNat_natCast] at ho hcap
  rw [lenV_yes HNC.out, tru_yes HNC.out, Int.toNat_natCast]
  clear s0 s1
  have HQ := hide ho.sl
  clear ho
  have hs9 : w8.heap.size ≤ w9.heap.size := hb.size
  have HXS := hide (blk_below hb (by omega) HXS.out)
  have HG := hide (HG.out.below hb)
  have HG' := hide (HG'.out.below hb)
  replace hb : Below w8.heap.size w8 w9 := ⟨hb.os, hb.tape, hb.output, hb.size, hb.block⟩
  have HB9 := hide (HB8.out.trans (hb.mono HB8.out.size))
  clear hb
  generalize hxs : ncZ z z' K fu st ra sp r = xs at *
  have HXX := hide hxs
  clear hxs
  have hlo : loP xs (N + 1) sp := ⟨HCV.out.all, ⟨bsp.1, by omega⟩⟩
  have HLO := hide hlo
  clear hlo
  go_wp2_with fail
  refine (implLossC_any Q (N + 1) dQ hcap.1 hcap.2 xs sp w9 (by unfold maxLen; omega) HQ.out).mono ?_
  rintro e w10 ⟨R, dR, rfl, ho, hb⟩
  rw [lenV_yes HLO.out, Nat.add_sub_cancel] at ho
  rw [lenV_yes HLO.out, tru_yes HLO.out, Nat.add_sub_cancel]
  have HR := hide ho.sl
  clear ho
  have hs10 : w9.heap.size ≤ w10.heap.size := hb.size
  have HXS := hide (blk_below hb (by omega) HXS.out)
  have HG := hide (HG.out.below hb)
  have HG' := hide (HG'.out.below hb)
  have HQ := hide (HQ.out.below hb)
  replace hb : Below w9.heap.size w9 w10 := ⟨hb.os, hb.tape, hb.output, hb.size, hb.block⟩
  have HB10 := hide (HB9.out.trans (hb.mono HB9.out.size))
  clear hb
  go_wp2_with fail
  have JT := implTrapC_any Q (N + 1) dQ hcap.1 hcap.2 xs w10 (by unfold maxLen; omega) HQ.out
  obtain ⟨PL, hPL⟩ : ∃ q : Int, ifV (wtP xs (N + 1)) (trI xs (N + 1) : Nat) = q := ⟨_, rfl⟩
  obtain ⟨LG, hLG⟩ : ∃ q : Int, ifV (wtP xs (N + 1)) (trM xs (N + 1)) = q := ⟨_, rfl⟩
  obtain ⟨TH, hTH⟩ : ∃ q : Bool, tru (wtP xs (N + 1)) = q := ⟨_, rfl⟩
  rw [hPL, hLG, hTH] at JT
  have HPL := hide hPL
  have HLG := hide hLG
  have HTH := hide hTH
  clear hPL hLG hTH
  refine JT.mono ?_
  clear JT
  rintro e w11 ⟨rfl, hb⟩
  have hs11 : w10.heap.size ≤ w11.heap.size := hb.size
  have HXS := hide (blk_below hb (by omega) HXS.out)
  have HG := hide (HG.out.below hb)
  have HG' := hide (HG'.out.below hb)
  have HQ := hide (HQ.out.below hb)
  have HR := hide (HR.out.below hb)
  replace hb : Below w10.heap.size w10 w11 := ⟨hb.os, hb.tape, hb.output, hb.size, hb.block⟩
  have HB11 := hide (HB10.out.trans (hb.mono HB10.out.size))
  clear hb
  obtain ⟨bq, oq, hAq, hbq, hcq⟩ := HQ.out.at_ (show N + 1 ≠ 0 by omega)
  subst hAq
  obtain ⟨br, or_, hAr, hbr, hcr⟩ := HR.out.at_ (show N ≠ 0 by omega)
  subst hAr
  have q0 := hcq 0 (by omega)
  rw [HCV.out.first, Nat.add_zero] at q0
  have HQC := hide hcq
  have HRC := hide hcr
  clear hcq hcr
  have np : (0 : Nat) < N + 1 := by omega
  have ec : ((N + 1 : Nat) : Int) = (N : Int) + 1 := by omega
  go_wp2
  clear q0 ec
  go_loopw [4, 19, 20, 21, 22] (fun _ ii _ _ _ wr => ∃ i : Nat, i ≤ N + 1 ∧ ii = .int .i64 i ∧ Hid (Below w11.heap.size w11 wr)) (fun _ ii _ _ _ _ => N + 1 - (intOf ii).toNat)
  case atStart => exact ⟨0, Nat.zero_le _, rfl, Below.refl _ _⟩
  case round =>
    obtain ⟨i, hi, rfl, hbel⟩ := hrel
    by_cases hlt : i ≤ N
    · have hii : (i : Int) ≤ (N : Int) := by omega
      have m0 : 0 ≤ (i : Int) * sp := Int.mul_nonneg (by omega) (by omega)
      have m1 : (i : Int) * sp ≤ 20 * 200 := Int.mul_le_mul (by omega) bsp.2 (by omega) (by omega)
      have X1 := hide (blk_below hbel.out (by omega) HXS.out)
      have s0 := Joins.cell_of_block X1.out 0
      have s1 := Joins.cell_of_block X1.out 1
      simp at s0 s1
      have J := implNetWithTaper_any G G' K dG K dG' z z' fu st ra ((i : Int) * sp) r wr (by unfold maxLen; omega) (by unfold maxLen; omega) (HG.out.below hbel.out) (HG'.out.below hbel.out)
      have e1 : (i : Int) * sp - dueV z z' K ((i : Int) * sp) r + tapV fu st ra ((i : Int) * sp) = xs i := congrFun HXX.out i
      rw [ifV_yes (HNT.out i hlt), tru_yes (HNT.out i hlt), e1] at J
      have HJ := hide J
      clear J e1
      go_wp2_with fail
      refine HJ.out.mono ?_
      rintro e wn ⟨rfl, hb⟩
      have HBN := hide (hbel.out.trans (hb.mono hbel.out.size))
      clear hb HJ X1 s0 s1 m0 m1
      have qi := (HBN.out.cell (p := ⟨bq, oq + i, none⟩) hbq).trans (HQC.out i (by omega))
      have bi := HCV.out.low i hlt
      have i0 : (0 : Int) ≤ (i : Int) := by omega
      have i1 : (i : Int) < (N : Int) + 1 := by omega
      have i1' : i < N + 1 := by omega
      by_cases hi0 : i = 0
      · subst hi0
        rw [Nat.add_zero] at qi
        clear i0 i1
        generalize xs 0 = a at *
        go_wp2
        go_roundw
        case rel => exact ⟨1, by omega, rfl, HBN.out⟩
        case measure => first | (simp [intOf]; done) | (simp [intOf]; omega)
      · have d0 : decide (0 < i) = true := by simp; omega
        have d1 : decide ((0 : Int) < (i : Int)) = true := by simp; omega
        have qp := (HBN.out.cell (p := ⟨bq, oq + (i - 1), none⟩) hbq).trans (HQC.out (i - 1) (by omega))
        have rp := (HBN.out.cell (p := ⟨br, or_ + (i - 1), none⟩) hbr).trans (HRC.out (i - 1) (by omega))
        have bp := HCV.out.low (i - 1) (by omega)
        obtain ⟨l1, l2, l3, l4, l5, l6⟩ := lo_bd HCV.out bsp (i := i) (by omega) hlt
        have j0 : (0 : Int) ≤ (i : Int) - 1 := by omega
        have j1 : (i : Int) - 1 < (N : Int) + 1 := by omega
        have j2 : (i : Int) - 1 < (N : Int) := by omega
        generalize loV xs sp (i - 1) = Lo at *
        generalize xs i = a at *
        generalize xs (i - 1) = p at *
        have l7 : (Lo + 1) * sp = Lo * sp + sp := by rw [Int.add_mul]; omega
        have l8 : -200000000 ≤ (Lo + 1) * sp := by omega
        have l9 : (Lo + 1) * sp ≤ 200000000 := by omega
        have t1 : decide ((sp - (a - p)) * 10000 < Lo * sp) = false := by simp; omega
        have t2 : decide ((Lo + 1) * sp ≤ (sp - (a - p)) * 10000) = false := by simp; omega
        clear l7 l1 l2
        go_wp2
        go_quiet (fail)
        go_wp2
        go_roundw
        case rel => exact ⟨i + 1, by omega, by go_num, bel_dN HBN.out _⟩
        case measure => simp [intOf]; omega
    · obtain rfl : i = N + 1 := by omega
      have hii : ¬ ((N + 1 : Nat) : Int) ≤ (N : Int) := by omega
      have HBE := hide (show Below w.heap.size w wr from HB11.out.trans (hbel.out.mono HB11.out.size))
      have HQ2 := hide (fun j (hj : j < N + 1) => (hbel.out.cell (p := ⟨bq, oq + j, none⟩) hbq).trans (HQC.out j hj))
      clear hbel hlt hi
      obtain ⟨wA, rfl⟩ : ∃ q : World, q = wr := ⟨_, rfl⟩
      go_wp2
      clear hii
      go_loopw [23, 24, 25, 26] (fun mo fi ii _ w2 => ∃ i u : Nat, i ≤ N + 1 ∧ ii = .int .i64 i ∧ mo = .int .i64 (trW xs (N + 1) i) ∧ fi = .int .i64 ((trB xs (N + 1) i : Nat) : Int) ∧ Hid (w2 = wA.drewN u)) (fun _ _ ii _ _ => N + 1 - (intOf ii).toNat)
      case atStart => exact ⟨0, 0, Nat.zero_le _, rfl, rfl, rfl, rfl⟩
      case round =>
        obtain ⟨i, u, hi, rfl, rfl, rfl, hu⟩ := hrel
        by_cases hlt : i ≤ N
        · have hii : (i : Int) ≤ (N : Int) := by omega
          have HWS := hide (wt_start xs (N + 1) i)
          obtain ⟨wB, rfl⟩ : ∃ q : World, q = wr := ⟨_, rfl⟩
          go_wp2
          clear hii
          go_loopw [23, 24, 26] (fun mo fi kk w3 => ∃ m u k : Nat, (1 ≤ m ∧ m ≤ N + 1 - i) ∧ Hid (k = i + m) ∧ kk = .int .i64 (k : Int) ∧ mo = .int .i64 (wtM xs (N + 1) i m) ∧ fi = .int .i64 (wtB xs (N + 1) i m) ∧ Hid (w3 = wA.drewN u)) (fun _ _ kk _ => N + 1 - (intOf kk).toNat)
          case atStart => exact ⟨1, u, i + 1, ⟨by omega, by omega⟩, rfl, by go_num, by rw [HWS.out.1], by rw [HWS.out.2], hu.out⟩
          case round =>
            obtain ⟨m, v, k, hm, hk, rfl, rfl, rfl, hv⟩ := hrel
            have hke := hk.out
            by_cases hlt2 : k ≤ N
            · have hkk : (k : Int) ≤ (N : Int) := by omega
              have ck := HQ2.out k (by omega)
              have ci := HQ2.out i (by omega)
              have k0 : (0 : Int) ≤ (k : Int) := by omega
              have k1 : (k : Int) < (N : Int) + 1 := by omega
              have k1' : k < N + 1 := by omega
              have j0 : (0 : Int) ≤ (i : Int) := by omega
              have j1 : (i : Int) < (N : Int) + 1 := by omega
              have j1' : i < N + 1 := by omega
              have bd := wt_bd (x := xs) (n := N + 1) (i := i) (m := m) (by omega) (by omega)
              have ck' : wr.cell? ⟨bq, oq + k, none⟩ = some (.int .i64 (xs k)) := by rw [hv.out]; exact ck
              have ci' : wr.cell? ⟨bq, oq + i, none⟩ = some (.int .i64 (xs i)) := by rw [hv.out]; exact ci
              clear ck ci
              by_cases hx : xs k ≤ xs i
              · have dx : decide (xs k ≤ xs i) = true := by simp; omega
                by_cases hw : wtM xs (N + 1) i m < m
                · have hU := wt_up (x := xs) (n := N + 1) (i := i) (m := m) (by rw [← hke]; exact hx) hw
                  have dw : decide (wtM xs (N + 1) i m < (k : Int) - (i : Int)) = true := by simp; omega
                  have U1 := hide (show (k : Int) - (i : Int) = wtM xs (N + 1) i (m + 1) by rw [hU.1]; omega)
                  have U2 := hide hU.2
                  have HKE := hide hke
                  clear hU hw hke hx
                  generalize wtM xs (N + 1) i m = M0 at *
                  generalize wtB xs (N + 1) i m = B0 at *
                  go_wp2
                  go_quiet (fail)
                  go_wp2
                  go_roundw
                  case rel => exact ⟨m + 1, _, k + 1, ⟨by omega, by have := HKE.out; omega⟩, by have := HKE.out; show k + 1 = i + (m + 1); omega, by go_num, by rw [U1.out], by rw [U2.out], by rw [hv.out]; exact World.drewN_drewN ..⟩
                  case measure => simp [intOf]; omega
                · have hU := wt_same (x := xs) (n := N + 1) (i := i) (m := m) hm.1 (by rw [← hke]; exact hx) hw
                  have dw : decide (wtM xs (N + 1) i m < (k : Int) - (i : Int)) = false := by simp; omega
                  have U1 := hide hU.1
                  have U2 := hide hU.2
                  have HKE := hide hke
                  clear hU hw hke hx
                  generalize wtM xs (N + 1) i m = M0 at *
                  generalize wtB xs (N + 1) i m = B0 at *
                  go_wp2
                  go_quiet (fail)
                  go_wp2
                  go_roundw
                  case rel => exact ⟨m + 1, _, k + 1, ⟨by omega, by have := HKE.out; omega⟩, by have := HKE.out; show k + 1 = i + (m + 1); omega, by go_num, by rw [U1.out], by rw [U2.out], by rw [hv.out]; exact World.drewN_drewN ..⟩
                  case measure => simp [intOf]; omega
              · have dx : decide (xs k ≤ xs i) = false := by simp; omega
                have hU := wt_no (x := xs) (n := N + 1) (i := i) (m := m) (by rw [← hke]; exact hx)
                have U1 := hide hU.1
                have U2 := hide hU.2
                have HKE := hide hke
                clear hU hke hx
                generalize wtM xs (N + 1) i m = M0 at *
                generalize wtB xs (N + 1) i m = B0 at *
                go_wp2
                go_quiet (fail)
                go_wp2
                go_roundw
                case rel => exact ⟨m + 1, _, k + 1, ⟨by omega, by have := HKE.out; omega⟩, by have := HKE.out; show k + 1 = i + (m + 1); omega, by go_num, by rw [U1.out], by rw [U2.out], by rw [hv.out]; exact World.drewN_drewN ..⟩
                case measure => simp [intOf]; omega
            · have hkk : ¬ (k : Int) ≤ (N : Int) := by omega
              obtain rfl : m = N + 1 - i := by omega
              have HE := hide (wt_end (x := xs) (n := N + 1) (i := i))
              clear hke
              generalize hM0 : wtM xs (N + 1) i (N + 1 - i) = M0 at *
              generalize hB0 : wtB xs (N + 1) i (N + 1 - i) = B0 at *
              clear hM0 hB0
              go_wp2
              go_roundw
              case rel => exact ⟨i + 1, _, by omega, by go_num, by rw [HE.out.1], by rw [HE.out.2], hv.out⟩
              case measure => simp [intOf]; omega
        · obtain rfl : i = N + 1 := by omega
          have hii : ¬ ((N + 1 : Nat) : Int) ≤ (N : Int) := by omega
          have HA := hide (wt_all (x := xs) (n := N + 1) (by omega))
          have hT : (TH = true ∧ PL = (trB xs (N + 1) (N + 1) : Nat) ∧ LG = trW xs (N + 1) (N + 1) ∧ 0 < trW xs (N + 1) (N + 1)) ∨ (TH = false ∧ ¬ 0 < trW xs (N + 1) (N + 1)) := by
            rw [HA.out.1, HA.out.2]
            by_cases h : wtP xs (N + 1)
            · left
              exact ⟨by rw [← HTH.out, tru_yes h], by rw [← HPL.out, ifV_yes h], by rw [← HLG.out, ifV_yes h], h.2⟩
            · right
              exact ⟨by rw [← HTH.out, tru_no h], fun hh => h ⟨HCV.out.all, hh⟩⟩
          have HBZ : Hid (∀ q, Below w.heap.size w (World.drewN wA q)) := hide fun q => bel_dN HBE.out q
          have HU := hide hu
          clear HPL HLG HTH
          generalize trW xs (N + 1) (N + 1) = TW at *
          generalize (trB xs (N + 1) (N + 1) : Nat) = TB at *
          rcases hT with ⟨rfl, rfl, rfl, hp⟩ | ⟨rfl, hp⟩
          · have dp := decide_eq_true hp
            clear hp
            go_wp2
            go_ret
            exact ⟨rfl, by rw [hu.out]; exact HBZ.out _⟩
          · have dp := decide_eq_false hp
            clear hp
            go_wp2
            go_ret
            exact ⟨rfl, by rw [hu.out]; exact HBZ.out _⟩
end Go.Proofs.Ytbcajjpgpjadaaa
