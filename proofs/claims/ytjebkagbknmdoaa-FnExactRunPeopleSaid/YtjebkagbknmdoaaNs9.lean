/- NextPeople, by the reference. -/
import Derived.Test.YtjebkagbknmdoaaNo8
import Derived.Test.YtjebkagbknmdoaaNx8
namespace Go.Proofs.Ytjebkagbknmdoaa
open Go.RowKit Go.Dues
set_option maxRecDepth 100000 in
set_option maxHeartbeats 16000000 in
theorem specNextPplC_any (A : Option Addr) (n ca : Nat) (x : Nat → Nat) (B : Option Addr) (m cb : Nat) (y : Nat → Nat) (C : Option Addr) (l cc : Nat) (z : Nat → Nat) (w : World) (hn : n ≤ maxLen) (hs : SL w A n (fun j => .float .f32 (x j))) (hm : m ≤ maxLen) (hs' : SL w B m (fun j => .float .f32 (y j))) (hl : l ≤ maxLen) (hs'' : SL w C l (fun j => .float .f32 (z j))) :
    Calls Try.prog 30 #[.agg #[.slice A n ca, .slice B m cb, .slice C l cc]] w fun e w' => GaveP w w' e (npP x n y m z l) n n n (nxV x y z n) y z := by
  obtain ⟨W1, hW1⟩ : ∃ u, u = w.alloc (.cells #[.slice A n ca, .slice B m cb, .slice C l cc] 49) := ⟨_, rfl⟩
  obtain ⟨W, hW⟩ : ∃ u, u = W1.alloc (.cells #[.slice none 0 0, .slice none 0 0, .slice none 0 0] 49) := ⟨_, rfl⟩
  have z1 : W1.heap.size = w.heap.size + 1 := by rw [hW1]; simp
  have z2 : W.heap.size = w.heap.size + 2 := by rw [hW]; simp; omega
  have hB1 : Below w.heap.size w W1 := by rw [hW1]; exact (Below.refl _ _).alloc (Nat.le_refl _) _
  have hB2 : Below W1.heap.size W1 W := by rw [hW]; exact (Below.refl _ _).alloc (Nat.le_refl _) _
  have HBW : Hid (Below w.heap.size w W) := hB1.trans (hB2.mono (by omega))
  have HX : Hid (W.heap[w.heap.size]? = some (.cells #[.slice A n ca, .slice B m cb, .slice C l cc] 49)) := by
    refine blk_below hB2 (by omega) ?_
    rw [hW1]; exact blocks1 w _
  have HR : Hid (W.heap[w.heap.size + 1]? = some (.cells #[.slice none 0 0, .slice none 0 0, .slice none 0 0] 49)) := by
    rw [← z1, hW]; exact blocks1 W1 _
  have HS := hide (hs.below HBW.out)
  have HS' := hide (hs'.below HBW.out)
  have HS'' := hide (hs''.below HBW.out)
  have HW1 := hide hW1
  have HWW := hide hW
  have hz : w.heap.size + 2 ≤ W.heap.size := by omega
  have HV := hide (specPpl_any A n ca x B m cb y C l cc z w.heap.size W hn HS.out hm HS'.out hl HS''.out HX.out)
  unfold maxLen at hn hm hl
  clear hs hs' hs'' hW1 hW z1 z2 hB1 hB2
  by_cases hp : ppP x n y m z l
  rotate_left
  · have HT := hide (tru_no hp)
    have HH := hide (show ¬ npP x n y m z l from fun h => hp h.1)
    clear hp
    go_enter Try.func30, Try.ntmps30
    go_wp2_with fail
    rw [← HW1.out, ← HWW.out]
    clear HW1 HWW
    refine HV.out.mono ?_
    rw [HT.out]
    rintro e w1 ⟨rfl, qv, hq⟩
    have HB1 : Hid (Below w.heap.size w w1) := by rw [hq]; exact bel_q HBW.out _
    have HR1 : Hid (w1.heap[w.heap.size + 1]? = some (.cells #[.slice none 0 0, .slice none 0 0, .slice none 0 0] 49)) := by rw [hq]; exact HR.out
    clear hq
    have p0 := Joins.cell_of_block HR1.out 0
    have p1 := Joins.cell_of_block HR1.out 1
    have p2 := Joins.cell_of_block HR1.out 2
    have q0 := Joins.unfrozen_of_block HR1.out 0
    have q1 := Joins.unfrozen_of_block HR1.out 1
    have q2 := Joins.unfrozen_of_block HR1.out 2
    simp at p0 p1 p2 q0 q1 q2
    go_wp2
    have R := Joins.block_setCell (Joins.block_setCell (Joins.block_setCell HR1.out (i := 0) (.slice none 0 0)) (i := 1) (.slice none 0 0)) (i := 2) (.slice none 0 0)
    have k3 := Joins.cell_of_block R 0
    have k4 := Joins.cell_of_block R 1
    have k5 := Joins.cell_of_block R 2
    simp at k3 k4 k5
    refine bodyPost_ret (v := .tuple #[.agg #[.slice none 0 0, .slice none 0 0, .slice none 0 0], .bool false]) (by simp [results, Try.results30, go_sem, k3, k4, k5]) rfl (gavep_no HH.out ?_)
    exact ((HB1.out.setCell (by simp) _).setCell (by simp) _).setCell (by simp) _
  have HT := hide (tru_yes hp)
  have HPP := hide hp
  have n12 := hp.1.2
  have n2 := hp.1.1
  obtain rfl : m = n := hp.2.1
  obtain rfl : l = m := hp.2.2.1
  clear hp
  go_enter Try.func30, Try.ntmps30
  go_wp2_with fail
  rw [← HW1.out, ← HWW.out]
  clear HW1 HWW
  refine HV.out.mono ?_
  rw [HT.out]
  rintro e w1 ⟨rfl, qv, hq⟩
  have HB1 : Hid (Below w.heap.size w w1) := by rw [hq]; exact bel_q HBW.out _
  have HX1 : Hid (w1.heap[w.heap.size]? = some (.cells #[.slice A l ca, .slice B l cb, .slice C l cc] 49)) := by rw [hq]; exact HX.out
  have HR1 : Hid (w1.heap[w.heap.size + 1]? = some (.cells #[.slice none 0 0, .slice none 0 0, .slice none 0 0] 49)) := by rw [hq]; exact HR.out
  have HSa : Hid (SL w1 A l (fun j => .float .f32 (x j))) := by rw [hq]; exact HS.out
  have HSb : Hid (SL w1 B l (fun j => .float .f32 (y j))) := by rw [hq]; exact HS'.out
  have HSc : Hid (SL w1 C l (fun j => .float .f32 (z j))) := by rw [hq]; exact HS''.out
  have hz1 : w.heap.size + 2 ≤ w1.heap.size := by rw [hq]; exact hz
  clear hq HX HR HS HS' HS'' HV HBW hz
  have k0 := Joins.cell_of_block HX1.out 0
  simp at k0
  go_wp2_with fail
  refine (specNext7_any w.heap.size _ A l ca x B cb y C cc z w1 n2 n12 HSa.out HSb.out HSc.out HX1.out).mono ?_
  rintro e w2 ⟨G, g, u, rfl, ho, hu, hb⟩
  have HB2 := hide (HB1.out.trans (hb.mono HB1.out.size))
  have HX2 := hide (blk_below hb (by omega) HX1.out)
  have HR2 := hide (blk_below hb (by omega) HR1.out)
  have HSb2 := hide (HSb.out.below hb)
  have HSc2 := hide (HSc.out.below hb)
  have HO2 := hide ho
  have HU := hide hu
  have hz2 := hb.size
  clear ho hu hb k0 HX1 HR1 HSa HSb HSc
  have k1 := Joins.cell_of_block HX2.out 1
  have k2 := Joins.cell_of_block HX2.out 2
  simp at k1 k2
  go_wp2_with fail
  refine (specOwn7_any w.heap.size B C l cb l cc G l g y z w2 k1 k2 (by omega) HSb2.out HSc2.out (by omega) n12 (by omega) n12).mono ?_
  rintro e w3 ⟨G2, d2, G3, d3, l1, u1, l2, u2, rfl, ho2, ho3, hl1, hl2, hd, hb⟩
  have HB3 := hide (HB2.out.trans (hb.mono HB2.out.size))
  have HR3 := hide (blk_below hb (by omega) HR2.out)
  have HO3 := hide (HO2.out.below hb)
  have HP2 := hide ho2
  have HP3 := hide ho3
  have hz3 := hb.size
  clear ho2 ho3 hb k1 k2 HX2 HR2 HSb2 HSc2 HO2
  obtain ⟨W5, hW5⟩ : ∃ v, v = w3.alloc (.cells #[.slice G l g, .slice G2 l d2, .slice G3 l d3] 49) := ⟨_, rfl⟩
  have hb5 : Below w3.heap.size w3 W5 := by rw [hW5]; exact (Below.refl _ _).alloc (Nat.le_refl _) _
  have HN5 : Hid (W5.heap[w3.heap.size]? = some (.cells #[.slice G l g, .slice G2 l d2, .slice G3 l d3] 49)) := by rw [hW5]; exact blocks1 w3 _
  have hz5 : w3.heap.size + 1 ≤ W5.heap.size := by rw [hW5]; simp
  have HB5 := hide (HB3.out.trans (hb5.mono HB3.out.size))
  have HR5 := hide (blk_below hb5 (by omega) HR3.out)
  have HO5 := hide (HO3.out.below hb5)
  have HP25 := hide (HP2.out.below hb5)
  have HP35 := hide (HP3.out.below hb5)
  have HW5 := hide hW5
  clear hW5 hb5 HR3 HO3 HP2 HP3
  have HV5 := hide (specPpl_any G l g u G2 l d2 y G3 l d3 z w3.heap.size W5 (by unfold maxLen; omega) HO5.out.sl (by unfold maxLen; omega) HP25.out.sl (by unfold maxLen; omega) HP35.out.sl HN5.out)
  go_wp2_with fail
  rw [← HW5.out]
  clear HW5
  refine HV5.out.mono ?_
  rintro e w6 ⟨rfl, q6, hq6⟩
  have HB6 : Hid (Below w.heap.size w w6) := by rw [hq6]; exact bel_q HB5.out _
  have HN6 : Hid (w6.heap[w3.heap.size]? = some (.cells #[.slice G l g, .slice G2 l d2, .slice G3 l d3] 49)) := by rw [hq6]; exact HN5.out
  have HR6 : Hid (w6.heap[w.heap.size + 1]? = some (.cells #[.slice none 0 0, .slice none 0 0, .slice none 0 0] 49)) := by rw [hq6]; exact HR5.out
  have HO6 : Hid (OW w6 w1.heap.size w2.heap.size G l (fun j => .float .f32 (u j))) := by rw [hq6]; exact HO5.out
  have HP26 : Hid (OW w6 l1 u1 G2 l (fun j => .float .f32 (y j))) := by rw [hq6]; exact HP25.out
  have HP36 : Hid (OW w6 l2 u2 G3 l (fun j => .float .f32 (z j))) := by rw [hq6]; exact HP35.out
  have hz6 : w3.heap.size + 1 ≤ w6.heap.size := by rw [hq6]; exact hz5
  clear hq6 HV5 HN5 HR5 HO5 HP25 HP35
  have n0 := Joins.cell_of_block HN6.out 0
  have n1 := Joins.cell_of_block HN6.out 1
  have n2' := Joins.cell_of_block HN6.out 2
  simp at n0 n1 n2'
  have HIFF := hide (np_pp (u := u) HPP.out HU.out)
  by_cases hpv : ppP u l y l z l
  rotate_left
  · have HH := hide (show ¬ npP x l y l z l from fun h => hpv (HIFF.out.2 h))
    rw [tru_no hpv]
    clear hpv n0 n1 n2'
    have p0 := Joins.cell_of_block HR6.out 0
    have p1 := Joins.cell_of_block HR6.out 1
    have p2 := Joins.cell_of_block HR6.out 2
    have q0 := Joins.unfrozen_of_block HR6.out 0
    have q1 := Joins.unfrozen_of_block HR6.out 1
    have q2 := Joins.unfrozen_of_block HR6.out 2
    simp at p0 p1 p2 q0 q1 q2
    go_wp2
    have R := Joins.block_setCell (Joins.block_setCell (Joins.block_setCell HR6.out (i := 0) (.slice none 0 0)) (i := 1) (.slice none 0 0)) (i := 2) (.slice none 0 0)
    have k3 := Joins.cell_of_block R 0
    have k4 := Joins.cell_of_block R 1
    have k5 := Joins.cell_of_block R 2
    simp at k3 k4 k5
    refine bodyPost_ret (v := .tuple #[.agg #[.slice none 0 0, .slice none 0 0, .slice none 0 0], .bool false]) (by simp [results, Try.results30, go_sem, k3, k4, k5]) rfl (gavep_no HH.out ?_)
    exact ((HB6.out.setCell (by simp) _).setCell (by simp) _).setCell (by simp) _
  · have HH := hide (HIFF.out.1 hpv)
    rw [tru_yes hpv]
    clear hpv
    have p0 := Joins.cell_of_block HR6.out 0
    have p1 := Joins.cell_of_block HR6.out 1
    have p2 := Joins.cell_of_block HR6.out 2
    have q0 := Joins.unfrozen_of_block HR6.out 0
    have q1 := Joins.unfrozen_of_block HR6.out 1
    have q2 := Joins.unfrozen_of_block HR6.out 2
    simp at p0 p1 p2 q0 q1 q2
    go_wp2
    have R := Joins.block_setCell (Joins.block_setCell (Joins.block_setCell HR6.out (i := 0) (.slice G l g)) (i := 1) (.slice G2 l d2)) (i := 2) (.slice G3 l d3)
    have k3 := Joins.cell_of_block R 0
    have k4 := Joins.cell_of_block R 1
    have k5 := Joins.cell_of_block R 2
    simp at k3 k4 k5
    have e1 := HO6.out
    have e2 := HP26.out
    have e3 := HP36.out
    have g1 : w.heap.size + 1 < w1.heap.size := by omega
    have g2 : w.heap.size + 1 < l1 := by omega
    have g3 : w.heap.size + 1 < l2 := by omega
    refine bodyPost_ret (v := .tuple #[.agg #[.slice G l g, .slice G2 l d2, .slice G3 l d3], .bool true]) (by simp [results, Try.results30, go_sem, k3, k4, k5]) rfl ⟨G, g, u, G2, d2, y, G3, d3, z, w1.heap.size, w2.heap.size, l1, u1, l2, u2, by rw [lenV_yes HH.out, tru_yes HH.out], ?_, ?_, ?_, ?_, ?_, ?_, ?_, ?_, ?_, ?_, ?_, ?_, trivial, ?_⟩
    · rw [lenV_yes HH.out]
      exact ((e1.setCell (.inl g1)).setCell (.inl g1)).setCell (.inl g1)
    · rw [lenV_yes HH.out]
      exact ((e2.setCell (.inl g2)).setCell (.inl g2)).setCell (.inl g2)
    · rw [lenV_yes HH.out]
      exact ((e3.setCell (.inl g3)).setCell (.inl g3)).setCell (.inl g3)
    · rw [lenV_yes HH.out]
      exact HU.out
    · rw [lenV_yes HH.out]
      exact fun j hj => FS.refl _ _
    · rw [lenV_yes HH.out]
      exact fun j hj => FS.refl _ _
    · refine ⟨by omega, by omega, ?_⟩
      simp
      omega
    · refine ⟨by omega, by omega, ?_⟩
      simp
      omega
    · refine ⟨by omega, by omega, ?_⟩
      simp
      omega
    · omega
    · omega
    · omega
    · exact ((HB6.out.setCell (by simp) _).setCell (by simp) _).setCell (by simp) _
end Go.Proofs.Ytjebkagbknmdoaa
