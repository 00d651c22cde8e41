/- RunPeople, by the reference. -/
import Derived.Test.YtjebkagbknmdoaaNs9
import Derived.Test.YtjebkagbknmdoaaRp8
import Derived.ArgAppend
namespace Go.Proofs.Ytjebkagbknmdoaa
open Go.RowKit Go.Dues
set_option maxRecDepth 100000 in
set_option maxHeartbeats 16000000 in
theorem specRunPpl_any (A : Option Addr) (n ca : Nat) (x : Nat → Nat) (B : Option Addr) (m cb : Nat) (y : Nat → Nat) (C : Option Addr) (l cc : Nat) (z : Nat → Nat) (t : Int) (w : World) (hn : n ≤ maxLen) (hs : SL w A n (fun j => .float .f32 (x j))) (hm : m ≤ maxLen) (hs' : SL w B m (fun j => .float .f32 (y j))) (hl : l ≤ maxLen) (hs'' : SL w C l (fun j => .float .f32 (z j))) :
    Calls Try.prog 36 #[.agg #[.slice A n ca, .slice B m cb, .slice C l cc], .int .i64 t] w fun e w' => GaveP w w' e (rpP x n y m z l t) n n n (rpV x y z n t.toNat) y z := by
  obtain ⟨i0, hi, hi0, hi1, hi2⟩ := info_parts Try.infoF
  obtain ⟨W1, hW1⟩ : ∃ u, u = w.alloc (.cells #[.slice A n ca, .slice B m cb, .slice C l cc] 49) := ⟨_, rfl⟩
  obtain ⟨W, hW⟩ : ∃ u, u = W1.alloc (.cells #[.slice none 0 0, .slice none 0 0, .slice none 0 0] 49) := ⟨_, rfl⟩
  have z1 : W1.heap.size = w.heap.size + 1 := by rw [hW1]; simp
  have z2 : W.heap.size = w.heap.size + 2 := by rw [hW]; simp; omega
  have hB1 : Below w.heap.size w W1 := by rw [hW1]; exact (Below.refl _ _).alloc (Nat.le_refl _) _
  have hB2 : Below W1.heap.size W1 W := by rw [hW]; exact (Below.refl _ _).alloc (Nat.le_refl _) _
  have HBW : Hid (Below w.heap.size w W) := hB1.trans (hB2.mono (by omega))
  have HX : Hid (W.heap[w.heap.size]? = some (.cells #[.slice A n ca, .slice B m cb, .slice C l cc] 49)) := by
    refine blk_below hB2 (by omega) ?_
    rw [hW1]; exact blocks1 w _
  have HR : Hid (W.heap[w.heap.size + 1]? = some (.cells #[.slice none 0 0, .slice none 0 0, .slice none 0 0] 49)) := by
    rw [← z1, hW]; exact blocks1 W1 _
  have HS := hide (hs.below HBW.out)
  have HS' := hide (hs'.below HBW.out)
  have HS'' := hide (hs''.below HBW.out)
  have HW1 := hide hW1
  have HWW := hide hW
  have hz : w.heap.size + 2 ≤ W.heap.size := by omega
  have HV := hide (specPpl_any A n ca x B m cb y C l cc z w.heap.size W hn HS.out hm HS'.out hl HS''.out HX.out)
  unfold maxLen at hn hm hl
  clear hs hs' hs'' hW1 hW z1 z2 hB1 hB2
  by_cases hp : ppP x n y m z l
  rotate_left
  · have gt := True.intro
    have HT := hide (tru_no hp)
    have HH := hide (show ¬ rpP x n y m z l t from fun h => hp h.1)
    clear hp
    go_enter Try.func36, Try.ntmps36
    go_wp2_with fail
    rw [← HW1.out, ← HWW.out]
    clear HW1 HWW
    refine HV.out.mono ?_
    rw [HT.out]
    rintro e w1 ⟨rfl, qv, hq⟩
    have HB1 : Hid (Below w.heap.size w w1) := by rw [hq]; exact bel_q HBW.out _
    have HX1 : Hid (w1.heap[w.heap.size]? = some (.cells #[.slice A n ca, .slice B m cb, .slice C l cc] 49)) := by rw [hq]; exact HX.out
    have HR1 : Hid (w1.heap[w.heap.size + 1]? = some (.cells #[.slice none 0 0, .slice none 0 0, .slice none 0 0] 49)) := by rw [hq]; exact HR.out
    have HSa : Hid (SL w1 A n (fun j => .float .f32 (x j))) := by rw [hq]; exact HS.out
    have HSb : Hid (SL w1 B m (fun j => .float .f32 (y j))) := by rw [hq]; exact HS'.out
    have HSc : Hid (SL w1 C l (fun j => .float .f32 (z j))) := by rw [hq]; exact HS''.out
    have hz1 : w.heap.size + 2 ≤ w1.heap.size := by rw [hq]; exact hz
    clear hq
    have p0 := Joins.cell_of_block HR1.out 0
    have p1 := Joins.cell_of_block HR1.out 1
    have p2 := Joins.cell_of_block HR1.out 2
    have q0 := Joins.unfrozen_of_block HR1.out 0
    have q1 := Joins.unfrozen_of_block HR1.out 1
    have q2 := Joins.unfrozen_of_block HR1.out 2
    simp at p0 p1 p2 q0 q1 q2
    go_wp2
    have R := Joins.block_setCell (Joins.block_setCell (Joins.block_setCell HR1.out (i := 0) (.slice none 0 0)) (i := 1) (.slice none 0 0)) (i := 2) (.slice none 0 0)
    have k3 := Joins.cell_of_block R 0
    have k4 := Joins.cell_of_block R 1
    have k5 := Joins.cell_of_block R 2
    simp at k3 k4 k5
    refine bodyPost_ret (v := .tuple #[.agg #[.slice none 0 0, .slice none 0 0, .slice none 0 0], .bool false]) (by simp [results, Try.results36, go_sem, k3, k4, k5]) rfl (gavep_no HH.out ?_)
    exact ((HB1.out.setCell (by simp) _).setCell (by simp) _).setCell (by simp) _
  cases gt : inB t 0 64
  · have HT := hide (tru_yes hp)
    have HH := hide (show ¬ rpP x n y m z l t from fun h => by rw [inB_yes h.2.1] at gt; cases gt)
    clear hp
    go_enter Try.func36, Try.ntmps36
    go_wp2_with fail
    rw [← HW1.out, ← HWW.out]
    clear HW1 HWW
    refine HV.out.mono ?_
    rw [HT.out]
    rintro e w1 ⟨rfl, qv, hq⟩
    have HB1 : Hid (Below w.heap.size w w1) := by rw [hq]; exact bel_q HBW.out _
    have HX1 : Hid (w1.heap[w.heap.size]? = some (.cells #[.slice A n ca, .slice B m cb, .slice C l cc] 49)) := by rw [hq]; exact HX.out
    have HR1 : Hid (w1.heap[w.heap.size + 1]? = some (.cells #[.slice none 0 0, .slice none 0 0, .slice none 0 0] 49)) := by rw [hq]; exact HR.out
    have HSa : Hid (SL w1 A n (fun j => .float .f32 (x j))) := by rw [hq]; exact HS.out
    have HSb : Hid (SL w1 B m (fun j => .float .f32 (y j))) := by rw [hq]; exact HS'.out
    have HSc : Hid (SL w1 C l (fun j => .float .f32 (z j))) := by rw [hq]; exact HS''.out
    have hz1 : w.heap.size + 2 ≤ w1.heap.size := by rw [hq]; exact hz
    clear hq
    have p0 := Joins.cell_of_block HR1.out 0
    have p1 := Joins.cell_of_block HR1.out 1
    have p2 := Joins.cell_of_block HR1.out 2
    have q0 := Joins.unfrozen_of_block HR1.out 0
    have q1 := Joins.unfrozen_of_block HR1.out 1
    have q2 := Joins.unfrozen_of_block HR1.out 2
    simp at p0 p1 p2 q0 q1 q2
    go_wp2_with (go_at_call 92; refine (specIn_any _ _ _ _).mono ?_; rw [gt]; rintro e w' ⟨rfl, rfl⟩)
    have R := Joins.block_setCell (Joins.block_setCell (Joins.block_setCell HR1.out (i := 0) (.slice none 0 0)) (i := 1) (.slice none 0 0)) (i := 2) (.slice none 0 0)
    have k3 := Joins.cell_of_block R 0
    have k4 := Joins.cell_of_block R 1
    have k5 := Joins.cell_of_block R 2
    simp at k3 k4 k5
    refine bodyPost_ret (v := .tuple #[.agg #[.slice none 0 0, .slice none 0 0, .slice none 0 0], .bool false]) (by simp [results, Try.results36, go_sem, k3, k4, k5]) rfl (gavep_no HH.out ?_)
    exact ((HB1.out.setCell (by simp) _).setCell (by simp) _).setCell (by simp) _
  have HT := hide (tru_yes hp)
  have HPP := hide hp
  have n12 := hp.1.2
  have n2 := hp.1.1
  have ht := inB_iff.1 gt
  obtain ⟨T, rfl⟩ : ∃ T : Nat, t = (T : Int) := ⟨t.toNat, by omega⟩
  have hT : T ≤ 64 := by omega
  obtain rfl : m = n := hp.2.1
  obtain rfl : l = m := hp.2.2.1
  clear hp ht
  go_enter Try.func36, Try.ntmps36
  go_wp2_with fail
  rw [← HW1.out, ← HWW.out]
  clear HW1 HWW
  refine HV.out.mono ?_
  rw [HT.out]
  rintro e w1 ⟨rfl, qv, hq⟩
  have HB1 : Hid (Below w.heap.size w w1) := by rw [hq]; exact bel_q HBW.out _
  have HX1 : Hid (w1.heap[w.heap.size]? = some (.cells #[.slice A l ca, .slice B l cb, .slice C l cc] 49)) := by rw [hq]; exact HX.out
  have HR1 : Hid (w1.heap[w.heap.size + 1]? = some (.cells #[.slice none 0 0, .slice none 0 0, .slice none 0 0] 49)) := by rw [hq]; exact HR.out
  have HSa : Hid (SL w1 A l (fun j => .float .f32 (x j))) := by rw [hq]; exact HS.out
  have HSb : Hid (SL w1 B l (fun j => .float .f32 (y j))) := by rw [hq]; exact HS'.out
  have HSc : Hid (SL w1 C l (fun j => .float .f32 (z j))) := by rw [hq]; exact HS''.out
  have hz1 : w.heap.size + 2 ≤ w1.heap.size := by rw [hq]; exact hz
  clear hq
  clear HX HR HS HS' HS'' HV HBW
  obtain ⟨ba, oa, hA, hba, hca⟩ := HSa.out.at_ (by omega)
  have HCA := hide hca
  clear hca
  have HX1' := hide HX1.out
  have k0 := Joins.cell_of_block HX1.out 0
  have k1 := Joins.cell_of_block HX1.out 1
  have k2 := Joins.cell_of_block HX1.out 2
  simp at k0 k1 k2
  have HSX := hide (And.intro hba HCA.out)
  have HBR := hide (Below.refl w1.heap.size w1)
  rw [hA] at k0
  clear hA
  have ka := (((Below.refl w1.heap.size w1).alloc (Nat.le_refl _) (.cells #[] 62)).cell (p := ⟨w.heap.size, 0, none⟩) (by show w.heap.size < _; omega)).trans k0
  go_wp2_with (first | (go_at_call 92; refine (specIn_any _ _ _ _).mono ?_; rw [gt]; rintro e w' ⟨rfl, rfl⟩) | (at_builtin; refine wpList_append_grows _ rfl _ _ 45 rfl 62 i0 (.float .f32 0) 1 4 Try.underlying45 hi hi0 hi1 hi2 rfl (by decide) _ 0 0 [] rfl (fun h => by cases h) rfl (fun _ _ j u hj => by cases hj) ⟨ba, oa, none⟩ l ca ((List.range l).map fun j => .float .f32 (x j)) (by rfl) (by simp) (src_cells8 HSX.out (by repeat (first | exact HBR.out | refine Below.alloc ?_ (by first | omega | (simp; done) | (simp; omega)) _))) (one_cells8 _ _) (by omega) (by unfold maxLen; omega) (by omega) ?_; intro v2 w2 ho hg; rw [Nat.zero_add, List.nil_append] at ho; obtain ⟨G1, d1, rfl⟩ := own_shape ho; have HQ1 := hide (OW.of_owns ho (row_at8 l x)); have HB2 := hide (Below.grown (show Below w1.heap.size w1 _ from (by repeat (first | exact HBR.out | refine Below.alloc ?_ (by first | omega | (simp; done) | (simp; omega)) _))) hg (by first | omega | (simp; done) | (simp; omega)) (fun _ h => by cases h)); clear ho hg; have HX2 := hide (blk_below HB2.out (by omega) HX1.out); have HSb2 := hide (HSb.out.below HB2.out); have HSc2 := hide (HSc.out.below HB2.out); have m1 := Joins.cell_of_block HX2.out 1; have m2 := Joins.cell_of_block HX2.out 2; simp at m1 m2))
  refine (specOwn7_any w.heap.size B C l cb l cc G1 l d1 y z w2 m1 m2 (by have := HB2.out.size; omega) HSb2.out HSc2.out (by omega) n12 (by omega) n12).mono ?_
  rintro e w3 ⟨G2, d2, G3, d3, l1, u1, l2, u2, rfl, ho2, ho3, hl1, hl2, hd, hb⟩
  have zz := HB2.out.size
  have HQ1' := hide ((HQ1.out.below hb).wide (lo' := w1.heap.size) (hi' := w2.heap.size) (by first | omega | (simp; done) | (simp; omega)) (Nat.le_refl _))
  have HB3 := hide ((HB1.out.trans (HB2.out.mono HB1.out.size)).trans (hb.mono (by have := HB1.out.size; omega)))
  have HC3 := hide (HB2.out.trans (hb.mono zz))
  have HR3 := hide (blk_below HC3.out (by omega) HR1.out)
  have HO2 := hide ho2
  have HO3 := hide ho3
  have z3 := hb.size
  clear ho2 ho3 hb m1 m2 HX2 HSb2 HSc2 HQ1 HSX HBR k0 k1 k2 HX1' HX1 HCA HSa HSb HSc hba
  have HRN0 : Hid (RnS w1 (w3.alloc (.cells #[.slice G1 l d1, .slice G2 l d2, .slice G3 l d3] 49)) w3.heap.size l (rpV x y z l 0) y z) := by
    have hba : Below w3.heap.size w3 (w3.alloc (.cells #[.slice G1 l d1, .slice G2 l d2, .slice G3 l d3] 49)) := (Below.refl _ _).alloc (Nat.le_refl _) _
    have hsz := hba.size
    exact ⟨G1, d1, G2, d2, G3, d3, w1.heap.size, w2.heap.size, l1, u1, l2, u2, blocks1 w3 _, HQ1'.out.below hba, HO2.out.below hba, HO3.out.below hba, by omega, by omega, by omega, by omega, by omega, by omega, by omega, by omega, by omega, by omega, HC3.out.trans (hba.mono HC3.out.size)⟩
  clear HQ1' HO2 HO3 HC3 HB2 HR3 HB3
  go_wp2_with fail
  go_loopw [1, 5, 8] (fun i _ _ wr => ∃ k : Nat, k ≤ T ∧ i = .int .i64 ((T : Int) - k) ∧ Hid (∀ i, i < k → npP (rpV x y z l i) l y l z l) ∧ Hid (RnS w1 wr w3.heap.size l (rpV x y z l k) y z)) (fun i _ _ _ => (intOf i).toNat)
  case atStart => exact ⟨0, Nat.zero_le _, by simp, fun i hi => absurd hi (by omega), HRN0.out⟩
  case round =>
    obtain ⟨k, hk, rfl, hnp, hrn⟩ := hrel
    clear HRN0
    obtain ⟨E1, f1, E2, f2, E3, f3, b1', c1, b2', c2, b3, c3, hblk, o1, o2, o3, r1, r2, r3, s1, s2, s3, t1, t2, t3, hN1, hbel⟩ := hrn.out
    have HBK := hide hblk
    have HP1 := hide o1
    have HP2 := hide o2
    have HP3 := hide o3
    have HBL := hide hbel
    have HRr := hide (blk_below hbel (by omega) HR1.out)
    have HBw := hide (HB1.out.trans (hbel.mono HB1.out.size))
    have hzr := hbel.size
    have hNr : w3.heap.size < wr.heap.size := (Array.getElem?_eq_some_iff.1 hblk).1
    clear hrn hblk o1 o2 o3 hbel
    have b0 := Joins.cell_of_block HBK.out 0
    have b1 := Joins.cell_of_block HBK.out 1
    have b2 := Joins.cell_of_block HBK.out 2
    have ub0 := Joins.unfrozen_of_block HBK.out 0
    have ub1 := Joins.unfrozen_of_block HBK.out 1
    have ub2 := Joins.unfrozen_of_block HBK.out 2
    simp at b0 b1 b2
    (try simp at ub0 ub1 ub2)
    by_cases hlt : k < T
    · have hpos : (0 : Int) < (T : Int) - k := by omega
      go_wp2_with fail
      refine (specNextPplC_any E1 l f1 (rpV x y z l k) E2 l f2 y E3 l f3 z wr (by unfold maxLen; omega) HP1.out.sl (by unfold maxLen; omega) HP2.out.sl (by unfold maxLen; omega) HP3.out.sl).mono ?_
      rintro e v hg
      by_cases hnx : npP (rpV x y z l k) l y l z l
      · obtain ⟨I1, j1, I2, j2, I3, j3, l1', u1', l2', u2', l3', u3', rfl, p1, p2, p3, q1, q2, q3, v1, v2', v3, hb⟩ := gavep_yes hg hnx (fun j hj => hd_fin (hnx.2 j hj)) (fun j hj => shB_fin (HPP.out.2.2.2.2.1 j hj)) (fun j hj => hd_fin (HPP.out.2.2.2.2.2 j hj))
        have HBv := hide (HBL.out.trans (hb.mono hzr))
        have HZ := hide (blocks1 v (.cells #[.slice I1 l j1, .slice I2 l j2, .slice I3 l j3] 49))
        have hba : Below v.heap.size v (v.alloc (.cells #[.slice I1 l j1, .slice I2 l j2, .slice I3 l j3] 49)) := (Below.refl _ _).alloc (Nat.le_refl _) _
        have hsz := hba.size
        have hbz := hb.size
        have HKN : Hid ((v.alloc (.cells #[.slice I1 l j1, .slice I2 l j2, .slice I3 l j3] 49)).heap[w3.heap.size]? = some (.cells #[.slice E1 l f1, .slice E2 l f2, .slice E3 l f3] 49)) := blk_below hba (by omega) (blk_below hb hNr HBK.out)
        have HRN : Hid (RnS w1 (put3 (v.alloc (.cells #[.slice I1 l j1, .slice I2 l j2, .slice I3 l j3] 49)) w3.heap.size (.slice I1 l j1) (.slice I2 l j2) (.slice I3 l j3)) w3.heap.size l (rpV x y z l (k + 1)) y z) := by
          refine ⟨I1, j1, I2, j2, I3, j3, l1', u1', l2', u2', l3', u3', put3_block HKN.out, put3_ow (p1.below hba) (.inl (by omega)), put3_ow (p2.below hba) (.inl (by omega)), put3_ow (p3.below hba) (.inl (by omega)), ?_, ?_, ?_, v1, v2', v3, .inl (by omega), .inl (by omega), .inl (by omega), by omega, ?_⟩
          · rw [put3_size]; omega
          · rw [put3_size]; omega
          · rw [put3_size]; omega
          · exact put3_below (HBv.out.trans (hba.mono (by omega))) (by omega)
        have HNP := hide (show ∀ i, i < k + 1 → npP (rpV x y z l i) l y l z l from fun i hi => by
          by_cases h : i < k
          · exact hnp.out i h
          · obtain rfl : i = k := by omega
            exact hnx)
        clear hg hb p1 p2 p3 hba b0 b1 b2 ub0 ub1 ub2 hnx
        have a0 := Joins.cell_of_block HZ.out 0
        have a1 := Joins.cell_of_block HZ.out 1
        have a2 := Joins.cell_of_block HZ.out 2
        have ua0 := Joins.unfrozen_of_block HZ.out 0
        have ua1 := Joins.unfrozen_of_block HZ.out 1
        have ua2 := Joins.unfrozen_of_block HZ.out 2
        simp at a0 a1 a2
        (try simp at ua0 ua1 ua2)
        have n0 := Joins.cell_of_block HKN.out 0
        have n1 := Joins.cell_of_block HKN.out 1
        have n2 := Joins.cell_of_block HKN.out 2
        have un0 := Joins.unfrozen_of_block HKN.out 0
        have un1 := Joins.unfrozen_of_block HKN.out 1
        have un2 := Joins.unfrozen_of_block HKN.out 2
        simp at n0 n1 n2
        (try simp at un0 un1 un2)
        go_wp2_with fail
        go_roundw
        case rel => exact ⟨k + 1, by omega, by go_num, HNP.out, HRN.out⟩
        case measure => simp [intOf]; omega
      · obtain ⟨I1, j1, I2, j2, I3, j3, l1', u1', l2', u2', l3', u3', rfl, p1, p2, p3, q1, q2, q3, v1, v2', v3, hb⟩ := gavep_not hg hnx
        have HH := hide (show ¬ rpP x l y l z l (T : Int) from fun h => hnx (h.2.2 k (by omega)))
        have HBv := hide (HBw.out.trans (hb.mono HBw.out.size))
        have HZ := hide (blocks1 v (.cells #[.slice I1 0 j1, .slice I2 0 j2, .slice I3 0 j3] 49))
        have hba : Below v.heap.size v (v.alloc (.cells #[.slice I1 0 j1, .slice I2 0 j2, .slice I3 0 j3] 49)) := (Below.refl _ _).alloc (Nat.le_refl _) _
        have hbz := hb.size
        have HRz : Hid ((v.alloc (.cells #[.slice I1 0 j1, .slice I2 0 j2, .slice I3 0 j3] 49)).heap[w.heap.size + 1]? = some (.cells #[.slice none 0 0, .slice none 0 0, .slice none 0 0] 49)) := blk_below hba (by omega) (blk_below hb (by omega) HRr.out)
        have HBz := hide (HBv.out.trans (hba.mono HBv.out.size))
        clear hg hb p1 p2 p3 hba b0 b1 b2 ub0 ub1 ub2 hnx
        have a0 := Joins.cell_of_block HZ.out 0
        have a1 := Joins.cell_of_block HZ.out 1
        have a2 := Joins.cell_of_block HZ.out 2
        have ua0 := Joins.unfrozen_of_block HZ.out 0
        have ua1 := Joins.unfrozen_of_block HZ.out 1
        have ua2 := Joins.unfrozen_of_block HZ.out 2
        simp at a0 a1 a2
        (try simp at ua0 ua1 ua2)
        have n0 := Joins.cell_of_block HRz.out 0
        have n1 := Joins.cell_of_block HRz.out 1
        have n2 := Joins.cell_of_block HRz.out 2
        have un0 := Joins.unfrozen_of_block HRz.out 0
        have un1 := Joins.unfrozen_of_block HRz.out 1
        have un2 := Joins.unfrozen_of_block HRz.out 2
        simp at n0 n1 n2
        (try simp at un0 un1 un2)
        go_wp2_with fail
        have R := Joins.block_setCell (Joins.block_setCell (Joins.block_setCell HRz.out (i := 0) (.slice none 0 0)) (i := 1) (.slice none 0 0)) (i := 2) (.slice none 0 0)
        have k3 := Joins.cell_of_block R 0
        have k4 := Joins.cell_of_block R 1
        have k5 := Joins.cell_of_block R 2
        simp at k3 k4 k5
        refine bodyPost_ret (v := .tuple #[.agg #[.slice none 0 0, .slice none 0 0, .slice none 0 0], .bool false]) (by simp [results, Try.results36, go_sem, k3, k4, k5]) rfl (gavep_no HH.out ?_)
        exact ((HBz.out.setCell (by simp) _).setCell (by simp) _).setCell (by simp) _
    · obtain rfl : k = T := by omega
      have hpos : ¬ (0 : Int) < (k : Int) - k := by omega
      have HH := hide (show rpP x l y l z l (k : Int) from ⟨HPP.out, inB_iff.1 gt, fun i hi => hnp.out i (by omega)⟩)
      have n0 := Joins.cell_of_block HRr.out 0
      have n1 := Joins.cell_of_block HRr.out 1
      have n2 := Joins.cell_of_block HRr.out 2
      have un0 := Joins.unfrozen_of_block HRr.out 0
      have un1 := Joins.unfrozen_of_block HRr.out 1
      have un2 := Joins.unfrozen_of_block HRr.out 2
      simp at n0 n1 n2
      (try simp at un0 un1 un2)
      go_wp2_with fail
      have R := put3_block (a := .slice E1 l f1) (b := .slice E2 l f2) (c := .slice E3 l f3) HRr.out
      unfold put3 at R
      have k3 := Joins.cell_of_block R 0
      have k4 := Joins.cell_of_block R 1
      have k5 := Joins.cell_of_block R 2
      simp at k3 k4 k5
      have e1 := HP1.out
      have e2 := HP2.out
      have e3 := HP3.out
      have hw0 := HB1.out.size
      refine bodyPost_ret (v := .tuple #[.agg #[.slice E1 l f1, .slice E2 l f2, .slice E3 l f3], .bool true]) (by simp [results, Try.results36, go_sem, k3, k4, k5]) rfl ⟨E1, f1, rpV x y z l k, E2, f2, y, E3, f3, z, b1', c1, b2', c2, b3, c3, by rw [lenV_yes HH.out, tru_yes HH.out], ?_, ?_, ?_, fun j hj => FS.refl _ _, fun j hj => FS.refl _ _, fun j hj => FS.refl _ _, ?_, ?_, ?_, s1, s2, s3, trivial, ?_⟩
      · rw [lenV_yes HH.out]; exact put3_ow e1 (.inl (by omega))
      · rw [lenV_yes HH.out]; exact put3_ow e2 (.inl (by omega))
      · rw [lenV_yes HH.out]; exact put3_ow e3 (.inl (by omega))
      · refine ⟨by omega, by omega, ?_⟩
        simp
        omega
      · refine ⟨by omega, by omega, ?_⟩
        simp
        omega
      · refine ⟨by omega, by omega, ?_⟩
        simp
        omega
      · exact put3_below HBw.out (by omega)
end Go.Proofs.Ytjebkagbknmdoaa
