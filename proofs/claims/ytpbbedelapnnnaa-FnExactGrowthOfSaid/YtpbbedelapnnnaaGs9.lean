/- GrowthOf, by the reference. -/
import Derived.Test.YtpbbedelapnnnaaGg9
import Derived.Test.YtpbbedelapnnnaaNx8
import Derived.Test.YtpbbedelapnnnaaS7
import Derived.Test.YtpbbedelapnnnaaNo8
import Derived.ArgAppend
namespace Go.Proofs.Ytpbbedelapnnnaa
open Go.RowKit Go.Dues
attribute [local go_sem] run_store_float
set_option maxRecDepth 100000 in
set_option maxHeartbeats 16000000 in
theorem specGrowth_any (A : Option Addr) (n ca : Nat) (x : Nat → Nat) (B : Option Addr) (m cb : Nat) (y : Nat → Nat) (C : Option Addr) (l cc : Nat) (z : Nat → Nat) (t : Int) (w : World) (hn : n ≤ maxLen) (hs : SL w A n (fun j => .float .f32 (x j))) (hm : m ≤ maxLen) (hs' : SL w B m (fun j => .float .f32 (y j))) (hl : l ≤ maxLen) (hs'' : SL w C l (fun j => .float .f32 (z j))) :
    Calls Try.prog 16 #[.agg #[.slice A n ca, .slice B m cb, .slice C l cc], .int .i64 t] w fun e w' => GaveG w w' e (grP x n y m z l t) n (grG x y z n (t.toNat - 1)) (gsV x y z n t.toNat) := by
  obtain ⟨i0, hi, hi0, hi1, hi2⟩ := info_parts Try.infoF
  obtain ⟨W, hW⟩ : ∃ u, u = w.alloc (.cells #[.slice A n ca, .slice B m cb, .slice C l cc] 29) := ⟨_, rfl⟩
  have HBW : Hid (Below w.heap.size w W) := by rw [hW]; exact (Below.refl w.heap.size w).alloc (Nat.le_refl _) _
  have HX : Hid (W.heap[w.heap.size]? = some (.cells #[.slice A n ca, .slice B m cb, .slice C l cc] 29)) := by rw [hW]; exact blocks1 w _
  have hz : w.heap.size + 1 ≤ W.heap.size := by rw [hW]; simp
  have HS := hide (hs.below HBW.out)
  have HS' := hide (hs'.below HBW.out)
  have HS'' := hide (hs''.below HBW.out)
  have HWW := hide hW
  have HV := hide (specPpl_any A n ca x B m cb y C l cc z w.heap.size W hn HS.out hm HS'.out hl HS''.out HX.out)
  unfold maxLen at hn hm hl
  clear hs hs' hs'' hW
  by_cases hp : ppP x n y m z l
  rotate_left
  · have HT := hide (tru_no hp)
    have HH := hide (show ¬ grP x n y m z l t from fun h => hp h.1)
    clear hp
    go_enter Try.func16, Try.ntmps16
    go_wp2_with fail
    rw [← HWW.out]
    clear HWW
    refine HV.out.mono ?_
    rw [HT.out]
    rintro e w1 ⟨rfl, qv, hq⟩
    have HB1 : Hid (Below w.heap.size w w1) := by rw [hq]; exact bel_q HBW.out _
    clear hq
    go_wp2
    go_ret3
    exact gaveg_no HH.out HB1.out
  have HT := hide (tru_yes hp)
  have HPP := hide hp
  have n12 := hp.1.2
  have n2 := hp.1.1
  obtain rfl : m = n := hp.2.1
  obtain rfl : l = m := hp.2.2.1
  clear hp
  cases gt : inB t 1 64
  · have HH := hide (show ¬ grP x l y l z l t from fun h => by rw [inB_yes h.2.1] at gt; cases gt)
    go_enter Try.func16, Try.ntmps16
    go_wp2_with fail
    rw [← HWW.out]
    clear HWW
    refine HV.out.mono ?_
    rw [HT.out]
    rintro e w1 ⟨rfl, qv, hq⟩
    have HB1 : Hid (Below w.heap.size w w1) := by rw [hq]; exact bel_q HBW.out _
    clear hq
    go_wp2_with (go_at_call 82; refine (specIn_any _ _ _ _).mono ?_; rw [gt]; rintro e w' ⟨rfl, rfl⟩)
    go_ret3
    exact gaveg_no HH.out HB1.out
  have ht := inB_iff.1 gt
  obtain ⟨T, rfl⟩ : ∃ T : Nat, t = (T : Int) := ⟨t.toNat, by omega⟩
  have hT : T ≤ 64 := by omega
  have hT1 : 1 ≤ T := by omega
  have hTn : (T : Int).toNat = T := by omega
  rw [hTn]
  clear ht hTn
  go_enter Try.func16, Try.ntmps16
  go_wp2_with fail
  rw [← HWW.out]
  clear HWW
  refine HV.out.mono ?_
  rw [HT.out]
  rintro e w1 ⟨rfl, qv, hq⟩
  have HB1 : Hid (Below w.heap.size w w1) := by rw [hq]; exact bel_q HBW.out _
  have HX1 : Hid (w1.heap[w.heap.size]? = some (.cells #[.slice A l ca, .slice B l cb, .slice C l cc] 29)) := by rw [hq]; exact HX.out
  have HSa : Hid (SL w1 A l (fun j => .float .f32 (x j))) := by rw [hq]; exact HS.out
  have HSb : Hid (SL w1 B l (fun j => .float .f32 (y j))) := by rw [hq]; exact HS'.out
  have HSc : Hid (SL w1 C l (fun j => .float .f32 (z j))) := by rw [hq]; exact HS''.out
  have hz1 : w.heap.size + 1 ≤ w1.heap.size := by rw [hq]; exact hz
  clear hq
  clear HX HS HS' HS'' HV HBW
  obtain ⟨ba, oa, hA, hba, hca⟩ := HSa.out.at_ (by omega)
  have HCA := hide hca
  clear hca
  have k0 := Joins.cell_of_block HX1.out 0
  simp at k0
  have HSX := hide (And.intro hba HCA.out)
  have HBR := hide (Below.refl w1.heap.size w1)
  rw [hA] at k0
  clear hA
  have ka := (((Below.refl w1.heap.size w1).alloc (Nat.le_refl _) (.cells #[] 26)).cell (p := ⟨w.heap.size, 0, none⟩) (by show w.heap.size < _; omega)).trans k0
  go_wp2_with (first | (go_at_call 82; refine (specIn_any _ _ _ _).mono ?_; rw [gt]; rintro e w' ⟨rfl, rfl⟩) | (at_builtin; refine wpList_append_grows _ rfl _ _ 22 rfl 26 i0 (.float .f32 0) 1 4 Try.underlying22 hi hi0 hi1 hi2 rfl (by decide) _ 0 0 [] rfl (fun h => by cases h) rfl (fun _ _ j u hj => by cases hj) ⟨ba, oa, none⟩ l ca ((List.range l).map fun j => .float .f32 (x j)) (by rfl) (by simp) (src_cells8 HSX.out (by repeat (first | exact HBR.out | refine Below.alloc ?_ (by first | omega | (simp; done) | (simp; omega)) _))) (one_cells8 _ _) (by omega) (by unfold maxLen; omega) (by omega) ?_; intro v2 w2 ho hg; rw [Nat.zero_add, List.nil_append] at ho; obtain ⟨G1, d1, rfl⟩ := own_shape ho; have HQ1 := hide (OW.of_owns ho (row_at8 l x)); have HB2 := hide (Below.grown (show Below w1.heap.size w1 _ from (by repeat (first | exact HBR.out | refine Below.alloc ?_ (by first | omega | (simp; done) | (simp; omega)) _))) hg (by first | omega | (simp; done) | (simp; omega)) (fun _ h => by cases h)); clear ho hg; clear k0 ka gt))
  have HO0 : Hid (OW w2 w1.heap.size w2.heap.size G1 l (fun j => .float .f32 (gsV x y z l 0 j))) := HQ1.out.wide (by first | omega | (simp; done) | (simp; omega)) (Nat.le_refl _)
  clear HQ1
  go_loopw [1, 4, 5, 6, 7, 8, 9, 10, 11] (fun t1 _ _ _ c gr _ _ _ wr => ∃ (k : Nat) (G : Option Addr) (d r : Nat), k ≤ T ∧ t1 = .int .i64 ((T : Int) - k) ∧ c = .slice G l d ∧ gr = .float .f32 r ∧ Hid (∀ i, i < k → grC x y z l i) ∧ Hid (OW wr w1.heap.size wr.heap.size G l (fun j => .float .f32 (gsV x y z l k j))) ∧ Hid (k = 0 ∨ FS .f32 r (grG x y z l (k - 1))) ∧ Hid (Below w1.heap.size w1 wr)) (fun t1 _ _ _ _ _ _ _ _ _ => (intOf t1).toNat)
  case atStart => exact ⟨0, G1, d1, 0, Nat.zero_le _, by simp, rfl, rfl, fun i hi => absurd hi (by omega), HO0.out, .inl rfl, HB2.out⟩
  case round =>
    obtain ⟨k, G, d, r, hk, rfl, rfl, rfl, hgc, hO, hr, hbel⟩ := hrel
    clear HO0
    have HBw := hide (HB1.out.trans (hbel.out.mono HB1.out.size))
    have HXr := hide (blk_below hbel.out (by omega) HX1.out)
    have HSbr := hide (HSb.out.below hbel.out)
    have HScr := hide (HSc.out.below hbel.out)
    have hzr := hbel.out.size
    have HPK := hide (gs_pp HPP.out k hgc.out)
    by_cases hlt : k < T
    · have hpos : (0 : Int) < (T : Int) - k := by omega
      go_wp2_with fail
      refine (specSum7_any G l d (gsV x y z l k) wr (by unfold maxLen; omega) hO.out.sl).mono ?_
      rintro e wa ⟨ra, rfl, hra, qa, hqa⟩
      have HRA := hide hra
      have HBa : Hid (Below w.heap.size w wa) := by rw [hqa]; exact bel_q HBw.out _
      have HBa1 : Hid (Below w1.heap.size w1 wa) := by rw [hqa]; exact bel_q hbel.out _
      have HXa : Hid (wa.heap[w.heap.size]? = some (.cells #[.slice A l ca, .slice B l cb, .slice C l cc] 29)) := by rw [hqa]; exact HXr.out
      have HSba : Hid (SL wa B l (fun j => .float .f32 (y j))) := by rw [hqa]; exact HSbr.out
      have HSca : Hid (SL wa C l (fun j => .float .f32 (z j))) := by rw [hqa]; exact HScr.out
      have HOa : Hid (OW wa w1.heap.size wr.heap.size G l (fun j => .float .f32 (gsV x y z l k j))) := by rw [hqa]; exact hO.out
      have hza : wa.heap.size = wr.heap.size := by rw [hqa]; rfl
      clear hra hqa HXr HSbr HScr hO HBw
      go_wp2_with fail
      refine (specNext7_any w.heap.size (.slice A l ca) G l d (gsV x y z l k) B cb y C cc z wa n2 n12 HOa.out.sl HSba.out HSca.out HXa.out).mono ?_
      rintro e wb ⟨G', d', u, rfl, ho, hu, hb⟩
      have HBb := hide (HBa.out.trans (hb.mono HBa.out.size))
      have HBb1 := hide (HBa1.out.trans (hb.mono HBa1.out.size))
      have hzb := hb.size
      have hza1 := HBa1.out.size
      have HOb := hide ho
      have HU := hide hu
      clear ho hu hb HXa HSba HSca HOa
      go_wp2_with fail
      refine (specSum7_any G' l d' u wb (by unfold maxLen; omega) HOb.out.sl).mono ?_
      rintro e wc ⟨rc, rfl, hrc, qc, hqc⟩
      have HRC : Hid (FS .f32 rc (fsum (nxV (gsV x y z l k) y z l) l)) := hrc.trans (.inl (fsum_congr HU.out l (Nat.le_refl _)))
      have HBc : Hid (Below w.heap.size w wc) := by rw [hqc]; exact bel_q HBb.out _
      have HBc1 : Hid (Below w1.heap.size w1 wc) := by rw [hqc]; exact bel_q HBb1.out _
      have HOc : Hid (OW wc wa.heap.size wb.heap.size G' l (fun j => .float .f32 (u j))) := by rw [hqc]; exact HOb.out
      have hzc : wc.heap.size = wb.heap.size := by rw [hqc]; rfl
      clear hrc hqc HBb HBb1 HOb HBa HBa1
      cases ga : abB ra
      · have HH := hide (show ¬ grP x l y l z l (T : Int) from fun h => by
          have h1 := (h.2.2.1 k (by omega)).1
          rw [← abB_same HRA.out, ga] at h1; cases h1)
        go_wp2_with fail
        refine (specAbove_any ra _).mono ?_
        rw [ga]
        rintro e wd ⟨rfl, q, hq⟩
        have HBd : Hid (Below w.heap.size w wd) := by rw [hq]; exact bel_q HBc.out _
        clear hq
        go_wp2
        go_ret3
        exact gaveg_no HH.out HBd.out
      cases gc : abB rc
      · have HH := hide (show ¬ grP x l y l z l (T : Int) from fun h => by
          have h1 := (h.2.2.1 k (by omega)).2
          rw [← abB_same HRC.out, gc] at h1; cases h1)
        go_wp2_with fail
        refine (specAbove_any ra _).mono ?_
        rw [ga]
        rintro e wd ⟨rfl, q, hq⟩
        have HBd : Hid (Below w.heap.size w wd) := by rw [hq]; exact bel_q HBc.out _
        clear hq
        go_wp2_with fail
        refine (specAbove_any rc _).mono ?_
        rw [gc]
        rintro e we ⟨rfl, q2, hq2⟩
        have HBe : Hid (Below w.heap.size w we) := by rw [hq2]; exact bel_q HBd.out _
        clear hq2
        go_wp2
        go_ret3
        exact gaveg_no HH.out HBe.out
      have HC : Hid (grC x y z l k) := ⟨by rw [← abB_same HRA.out]; exact ga, by rw [← abB_same HRC.out]; exact gc⟩
      have HEA : Hid (ra = fsum (gsV x y z l k) l) := fs_fin HRA.out (ab_fin HC.out.1)
      have HEC : Hid (rc = fsum (nxV (gsV x y z l k) y z l) l) := fs_fin HRC.out (ab_fin HC.out.2)
      have HEU := hide (show ∀ j, j < l → u j = nxV (gsV x y z l k) y z l j from fun j hj => fs_fin (HU.out j hj) (fsum_fin (ab_fin HC.out.2) j hj))
      have HVF := hide (gs_fin HPK.out HC.out)
      have HVV := hide (show ∀ j, j < l → gsV x y z l (k + 1) j = fop .quo .f32 (u j) rc from fun j hj => by rw [HEU.out j hj, HEC.out]; rfl)
      go_wp2_with fail
      refine (specAbove_any ra _).mono ?_
      rw [ga]
      rintro e wd ⟨rfl, q, hq⟩
      have HBd : Hid (Below w1.heap.size w1 wd) := by rw [hq]; exact bel_q HBc1.out _
      have HOd : Hid (OW wd wa.heap.size wb.heap.size G' l (fun j => .float .f32 (u j))) := by rw [hq]; exact HOc.out
      have hzd : wd.heap.size = wc.heap.size := by rw [hq]; rfl
      clear hq HBc HBc1 HOc
      go_wp2_with fail
      refine (specAbove_any rc _).mono ?_
      rw [gc]
      rintro e we ⟨rfl, q2, hq2⟩
      have HBe : Hid (Below w1.heap.size w1 we) := by rw [hq2]; exact bel_q HBd.out _
      have HOe : Hid (OW we wa.heap.size wb.heap.size G' l (fun j => .float .f32 (u j))) := by rw [hq2]; exact HOd.out
      have hze : we.heap.size = wd.heap.size := by rw [hq2]; rfl
      clear hq2 HBd HOd ga gc
      obtain ⟨g, hG, hg1, hg2, hg3⟩ := OW.at_ HOe.out (by omega)
      subst hG
      have hgw : wb.heap.size ≤ we.heap.size := by omega
      have hg0 : w1.heap.size ≤ g := by omega
      clear hza hzc hzd hze
      go_wp2_with (refine wpList_far _ rfl _ _ _ _ _ rfl (by decide) _ _ _ rfl rfl ?_; intro rg _ hrg)
      have HG := hide (show FS .f32 rg (grG x y z l k) from hrg.same.trans (.inl (by rw [HEC.out, HEA.out]; rfl)))
      clear hrg
      have HOM : Hid (OW we wa.heap.size wb.heap.size (some ⟨g, 0, none⟩) l (fun j => .float .f32 (mixG u (gsV x y z l (k + 1)) 0 j))) := HOe.out.congr fun j _ => by rw [mixG_zero]
      clear HOe
      go_loopw [11, 46] (fun _ i wi => ∃ j : Nat, j ≤ l ∧ i = .int .i64 (j : Int) ∧ Hid (OW wi wa.heap.size wb.heap.size (some ⟨g, 0, none⟩) l (fun p => .float .f32 (mixG u (gsV x y z l (k + 1)) j p))) ∧ Hid (Below w1.heap.size w1 wi) ∧ Hid (wb.heap.size ≤ wi.heap.size)) (fun _ i _ => l - (intOf i).toNat)
      case atStart => exact ⟨0, Nat.zero_le _, rfl, HOM.out, bel_q HBe.out _, hgw⟩
      case round =>
        clear HOM
        obtain ⟨j, hj, rfl, hO, hbi, hzi⟩ := hrel
        by_cases hjl : j < l
        · have hji : (j : Int) < (l : Int) := by omega
          obtain ⟨c0, f0⟩ := OW.cellAt hO.out hjl
          rw [mixG_at] at c0
          go_wp2_with (refine wpList_far _ rfl _ _ _ _ _ rfl (by decide) _ _ _ rfl rfl ?_; intro rq _ hrq)
          have HRQ := hide (show rq = gsV x y z l (k + 1) j from fs_fin (hrq.same.trans (.inl (HVV.out j hjl).symm)) (HVF.out j hjl))
          clear hrq
          go_roundw
          case rel => exact ⟨j + 1, by omega, by go_num, (OW.put hO.out hjl).congr (fun p _ => by rw [HRQ.out]; exact mixG_step p), (bel_q hbi.out _).setCell (by exact hg0) _, by show wb.heap.size ≤ _; simp; exact hzi.out⟩
          case measure => simp [intOf]; omega
        · obtain rfl : j = l := by omega
          have hji : ¬ (j : Int) < (j : Int) := by omega
          have hzo := hzi.out
          go_wp2_with fail
          go_roundw
          case rel => exact ⟨k + 1, _, _, _, by omega, by go_num, rfl, rfl, (fun i hi => by
            by_cases h : i < k
            · exact hgc.out i h
            · obtain rfl : i = k := by omega
              exact HC.out), (hO.out.wide (by omega) hzo).congr (fun p hp => by rw [mixG_all _ _ hp]), .inr HG.out, hbi.out⟩
          case measure => simp [intOf]; omega
    · obtain rfl : k = T := by omega
      have hpos : ¬ (0 : Int) < (k : Int) - k := by omega
      have HFN := hide (specFinL_any G l d (gsV x y z l k) wr (by unfold maxLen; omega) hO.out.sl)
      have HTF := hide (tru_yes (show ∀ j, j < l → ffin .f32 (gsV x y z l k j) = true from fun j hj => hd_fin (HPK.out.2.2.2.1 j hj)))
      have HGR := hide (show FS .f32 r (grG x y z l (k - 1)) from hr.out.resolve_left (by omega))
      go_wp2_with fail
      refine HFN.out.mono ?_
      rw [HTF.out]
      rintro e wa ⟨rfl, qa, hqa⟩
      have HBa : Hid (Below w.heap.size w wa) := by rw [hqa]; exact bel_q HBw.out _
      have HOa : Hid (OW wa w.heap.size wa.heap.size G l (fun j => .float .f32 (gsV x y z l k j))) := by rw [hqa]; exact hO.out.wide (by omega) (Nat.le_refl _)
      clear hqa hO HBw
      cases gf : ffin .f32 r
      · have HH := hide (show ¬ grP x l y l z l (k : Int) from fun h => by
          have h1 := h.2.2.2
          rw [show ((k : Int).toNat - 1) = k - 1 by omega, ← ffin_same HGR.out, gf] at h1; cases h1)
        go_wp2_with fail
        refine (spec7Fin_any r _).mono ?_
        rw [gf]
        rintro e wb ⟨rfl, q, hq⟩
        have HBb : Hid (Below w.heap.size w wb) := by rw [hq]; exact bel_q HBa.out _
        clear hq
        go_wp2
        go_ret3
        exact gaveg_no HH.out HBb.out
      · have HH := hide (show grP x l y l z l (k : Int) from ⟨HPP.out, by omega, fun i hi => hgc.out i (by omega), by rw [show ((k : Int).toNat - 1) = k - 1 by omega, ← ffin_same HGR.out]; exact gf⟩)
        go_wp2_with fail
        refine (spec7Fin_any r _).mono ?_
        rw [gf]
        rintro e wb ⟨rfl, q, hq⟩
        have HBb : Hid (Below w.heap.size w wb) := by rw [hq]; exact bel_q HBa.out _
        have HOb : Hid (OW wb w.heap.size wb.heap.size G l (fun j => .float .f32 (gsV x y z l k j))) := by rw [hq]; exact HOa.out
        clear hq
        go_wp2
        go_ret3
        exact gaveg_yes HH.out HGR.out HOb.out HBb.out
end Go.Proofs.Ytpbbedelapnnnaa
