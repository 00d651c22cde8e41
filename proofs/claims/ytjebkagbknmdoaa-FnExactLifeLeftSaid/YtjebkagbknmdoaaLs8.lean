/- LifeLeft, by the reference. -/
import Derived.Test.YtjebkagbknmdoaaLl8
import Derived.Test.YtjebkagbknmdoaaFr
import Derived.RegionTactic
namespace Go.Proofs.Ytjebkagbknmdoaa
open Go.RowKit Go.Dues
attribute [local go_sem] run_store_float
set_option maxRecDepth 100000 in
set_option maxHeartbeats 8000000 in
theorem specLife_any (A : Option Addr) (n _n : Nat) (x : Nat → Nat) (B : Option Addr) (m _m : Nat) (y : Nat → Nat) (C : Option Addr) (l _l : Nat) (z : Nat → Nat) (w : World) (hn : n ≤ maxLen) (hs : SL w A n (fun j => .float .f32 (x j))) (hm : m ≤ maxLen) (hs' : SL w B m (fun j => .float .f32 (y j))) (hl : l ≤ maxLen) (hs'' : SL w C l (fun j => .float .f32 (z j))) :
    Calls Try.prog 38 #[.agg #[.slice A n n, .slice B m m, .slice C l l]] w fun e w' => GaveF w w' e (llP x n y m z l) n (llV y n) := by
  obtain ⟨i0, hi, iz0, iz1, iz2⟩ := info_parts Try.infoF
  obtain ⟨W, hW⟩ : ∃ u, u = w.alloc (.cells #[.slice A n n, .slice B m m, .slice C l l] 49) := ⟨_, rfl⟩
  have HBW : Hid (Below w.heap.size w W) := by rw [hW]; exact (Below.refl w.heap.size w).alloc (Nat.le_refl _) _
  have HBX : Hid (W.heap[w.heap.size]? = some (.cells #[.slice A n n, .slice B m m, .slice C l l] 49)) := by rw [hW]; exact blocks1 w _
  have hzW : w.heap.size < W.heap.size := (Array.getElem?_eq_some_iff.1 HBX.out).1
  have HS := hide (hs.below HBW.out)
  have HS' := hide (hs'.below HBW.out)
  have HS'' := hide (hs''.below HBW.out)
  have HWW := hide hW
  clear hs hs' hs'' hW
  have HV := hide (specPpl_any A n n x B m m y C l l z w.heap.size W hn HS.out hm HS'.out hl HS''.out HBX.out)
  unfold maxLen at hn hm hl
  by_cases hp : ppP x n y m z l
  rotate_left
  · have HT := hide (tru_no hp)
    have HH := hide (show ¬ llP x n y m z l from fun h => hp h.1)
    clear hp
    go_enter Try.func38, Try.ntmps38
    go_wp2_with fail
    rw [← HWW.out]
    refine HV.out.mono ?_
    rw [HT.out]
    rintro e w1 ⟨rfl, q1, hq⟩
    have HB1 : Hid (Below w.heap.size w w1) := by rw [hq]; exact bel_q HBW.out _
    have HX1 : Hid (w1.heap[w.heap.size]? = some (.cells #[.slice A n n, .slice B m m, .slice C l l] 49)) := by rw [hq]; exact HBX.out
    have HSb : Hid (SL w1 B m (fun j => .float .f32 (y j))) := by rw [hq]; exact HS'.out
    have hz1 : w.heap.size < w1.heap.size := (Array.getElem?_eq_some_iff.1 HX1.out).1
    have k0 := Joins.cell_of_block HX1.out 0
    have k1 := Joins.cell_of_block HX1.out 1
    have k2 := Joins.cell_of_block HX1.out 2
    simp at k0 k1 k2
    clear hq
    go_wp2
    go_ret2
    exact gavef_no HH.out HB1.out
  have HT := hide (tru_yes hp)
  have HPP := hide hp
  have n12 := hp.1.2
  have n2 := hp.1.1
  obtain rfl : m = n := hp.2.1
  have hsh := hp.2.2.2.2.1 (m - 1) (by omega)
  clear hp
  cases gl : ltO (y (m - 1))
  · have HH := hide (show ¬ llP x m y m z l from fun h => by rw [h.2] at gl; cases gl)
    have g2 : (FloatKind.f32.format.order (y (m - 1)) 1065353216 == some .lt) = false := gl
    go_enter Try.func38, Try.ntmps38
    go_wp2_with fail
    rw [← HWW.out]
    refine HV.out.mono ?_
    rw [HT.out]
    rintro e w1 ⟨rfl, q1, hq⟩
    have HB1 : Hid (Below w.heap.size w w1) := by rw [hq]; exact bel_q HBW.out _
    have HX1 : Hid (w1.heap[w.heap.size]? = some (.cells #[.slice A m m, .slice B m m, .slice C l l] 49)) := by rw [hq]; exact HBX.out
    have HSb : Hid (SL w1 B m (fun j => .float .f32 (y j))) := by rw [hq]; exact HS'.out
    have hz1 : w.heap.size < w1.heap.size := (Array.getElem?_eq_some_iff.1 HX1.out).1
    have k0 := Joins.cell_of_block HX1.out 0
    have k1 := Joins.cell_of_block HX1.out 1
    have k2 := Joins.cell_of_block HX1.out 2
    simp at k0 k1 k2
    clear hq
    obtain ⟨b, off, hBe, hb, hcy⟩ := (cells_f HSb.out).out (m - 1) (by omega)
    subst hBe
    have i1 : (m : Int) - 1 < (m : Int) := by omega
    have i2 : ((m : Int) - 1).toNat = m - 1 := by omega
    have i3 : 0 ≤ (m : Int) - 1 := by omega
    go_wp2
    go_ret2
    exact gavef_no HH.out HB1.out
  have g2 : (FloatKind.f32.format.order (y (m - 1)) 1065353216 == some .lt) = true := gl
  have HH := hide (show llP x m y m z l from ⟨HPP.out, gl⟩)
  clear gl
  go_enter Try.func38, Try.ntmps38
  go_wp2_with fail
  rw [← HWW.out]
  refine HV.out.mono ?_
  rw [HT.out]
  rintro e w1 ⟨rfl, q1, hq⟩
  have HB1 : Hid (Below w.heap.size w w1) := by rw [hq]; exact bel_q HBW.out _
  have HX1 : Hid (w1.heap[w.heap.size]? = some (.cells #[.slice A m m, .slice B m m, .slice C l l] 49)) := by rw [hq]; exact HBX.out
  have HSb : Hid (SL w1 B m (fun j => .float .f32 (y j))) := by rw [hq]; exact HS'.out
  have hz1 : w.heap.size < w1.heap.size := (Array.getElem?_eq_some_iff.1 HX1.out).1
  have k0 := Joins.cell_of_block HX1.out 0
  have k1 := Joins.cell_of_block HX1.out 1
  have k2 := Joins.cell_of_block HX1.out 2
  simp at k0 k1 k2
  clear hq
  obtain ⟨b, off, hBe, hb, hcy⟩ := HSb.out.at_ (by omega)
  subst hBe
  have HCY := hide hcy
  have hc1 := hcy (m - 1) (by omega)
  clear hcy
  have i1 : (m : Int) - 1 < (m : Int) := by omega
  have i2 : ((m : Int) - 1).toNat = m - 1 := by omega
  have i3 : 0 ≤ (m : Int) - 1 := by omega
  go_wp2_with (first
    | (at_make; refine wpList_make_full _ rfl _ _ 45 rfl w1.heap.size 62 i0 (.float .f32 0) 1 Try.underlying45 hi iz0 iz1 _ _ _ _ m rfl rfl rfl rfl (by rw [iz2]; omega) (by unfold maxLen; omega) (Nat.le_refl _) ?_; (
      intro w2 hown hgrow
      have hb2 : Below w1.heap.size w1 w2 := (Below.refl _ _).grown hgrow (Nat.le_refl _) (fun k h => by cases h)
      have HX2 := hide (blk_below hb2 hz1 HX1.out)
      have HB2 := hide (HB1.out.trans (hb2.mono HB1.out.size))
      have HGG := hide (show w1.heap.size < w2.heap.size from own_lt hown)
      have HL2 := hide hb2
      obtain ⟨xs0, hown0⟩ : ∃ xs0 : List Value, w2.ownsRow w1.heap.size 62 1 (.slice (some ⟨w1.heap.size, 0, none⟩) m m) m xs0 := ⟨_, hown⟩
      have HLX := hide (show xs0.length = m by have := hown0.1; omega)
      obtain ⟨u0, hu0⟩ : ∃ u, xs0[m - 1]? = some u := ⟨xs0[m - 1]'(by have := HLX.out; omega), List.getElem?_eq_getElem _⟩
      have hold : w2.cell? ⟨w1.heap.size, m - 1, none⟩ = some u0 := (hown0.cellAt (m - 1) (by omega)).trans hu0
      have hfr := hown0.frozenAt (m - 1)
      have HST := fun q u => hide (World.ownsRow.stored (w := w2.drewN q) hown0 (m - 1) (.float .f32 u))
      clear hown0 hown hgrow hb2 hu0 k0 k1 k2
      obtain ⟨g, hg⟩ : ∃ g, w1.heap.size = g := ⟨_, rfl⟩
      rw [hg] at HL2 HGG hold hfr HST hz1
      have HG := hide hg
      clear hg
      rw [HG.out]))
    | (refine wpList_far _ rfl _ _ _ _ _ rfl (by decide) _ _ _ rfl rfl ?_; intro _ _ _))
  have f1 := ‹FR .f32 _ (fop .sub .f32 1065353216 (y (m - 1)))›
  have f2 := ‹FR .f32 _ (fop .quo .f32 (y (m - 1)) _)›
  have HF := hide (ll_first f1 f2)
  clear f1 f2
  have hadd := fun (w : World) (t : TypeId) (x y : Nat) => run_far_eq (P := Try.prog) .add (by decide) w t .f32 x y
  have hmul := fun (w : World) (t : TypeId) (x y : Nat) => run_far_eq (P := Try.prog) .mul (by decide) w t .f32 x y
  go_loopw [7] (fun i wr => ∃ (j : Nat) (xs : List Value), j + 1 ≤ m ∧ i = .int .i64 ((j : Int) - 1) ∧ wr.ownsRow g 62 1 (.slice (some ⟨g, 0, none⟩) m m) m xs ∧ Hid (FEnd xs j m (llV y m)) ∧ Below g w1 wr) (fun i _ => (intOf i + 1).toNat)
  case atStart =>
    refine ⟨m - 1, _, by omega, by congr 1; omega, (HST _ _).out.1, ?_, (bel_q HL2.out _).setCell (by exact Nat.le_refl _) _⟩
    refine fend_step HLX.out (by omega) (fun j h1 h2 => absurd h2 (by omega)) ?_
    show FS .f32 _ (llS y m (m - 1 - (m - 1)))
    rw [Nat.sub_self]
    exact HF.out
  case round =>
    clear hold hfr HST HF HL2 HLX hc1
    obtain ⟨j, xs, hjm, rfl, hown, hxs, hbel⟩ := hrel
    have HXr := hide (blk_below (hbel.mono (by omega)) hz1 HX1.out)
    rcases j with _ | j
    · obtain ⟨u, hu1, hu2⟩ := frow_fun (xs := xs) (k := m) (V := llV y m) (fun j hj => hxs.out j (by omega) hj)
      have HO := hide hown
      have HBEL := hide hbel
      have HZ1 := hide hu1
      have HZ2 := hide hu2
      have HFN := hide (specFinL_any (some ⟨g, 0, none⟩) m m u wr (by unfold maxLen; omega) (OW.of_owns hown hu1).sl)
      have HTF := hide (tru_yes (show ∀ j, j < m → ffin .f32 (u j) = true from fun j hj => by rw [ffin_same (hu2 j hj)]; exact ll_fin HH.out (by omega)))
      clear hown hbel hu1 hu2
      have hm1 : ((0 : Nat) : Int) - 1 = -1 := rfl
      go_wp2_with fail
      refine HFN.out.mono ?_
      rw [HTF.out]
      rintro e w' ⟨rfl, q, rfl⟩
      go_wp2
      go_ret2
      exact gavef_yes HH.out (by have h := OW.of_owns (w := wr.drewN q) HO.out HZ1.out; exact h.wide (by have := HB1.out.size; have := HG.out; omega) (Nat.le_refl _)) HZ2.out (bel_q (HB1.out.trans (HBEL.out.mono (by have := HB1.out.size; have := HG.out; omega))) _)
    · have hm1 : ((j + 1 : Nat) : Int) - 1 = (j : Int) := by omega
      have hjn : j < m := by omega
      have hji : (j : Int) < (m : Int) := by omega
      have hjk : (j : Int) + 1 < (m : Int) := by omega
      have hjt : ((j : Int) + 1).toNat = j + 1 := by omega
      have hcj := (hbel.cell (p := ⟨b, off + j, none⟩) (by show b < g; have := HG.out; omega)).trans (HCY.out j hjn)
      obtain ⟨v, hv, hvs⟩ := hxs.out (j + 1) (by omega) (by omega)
      have hnx : wr.cell? ⟨g, j + 1, none⟩ = some (.float .f32 v) := (hown.cellAt (j + 1) (by omega)).trans hv
      have HLX := hide (show xs.length = m by have := hown.1; omega)
      obtain ⟨u0, hu0⟩ : ∃ u, xs[j]? = some u := ⟨xs[j]'(by have := HLX.out; omega), List.getElem?_eq_getElem _⟩
      have hold : wr.cell? ⟨g, j, none⟩ = some u0 := (hown.cellAt j (by omega)).trans hu0
      have hfr := hown.frozenAt j
      have HST := fun q u => hide (World.ownsRow.stored (w := wr.drewN q) hown j (.float .f32 u))
      have HBEL := hide hbel
      have HVS := hide hvs
      have k0 := Joins.cell_of_block HXr.out 0
      have k1 := Joins.cell_of_block HXr.out 1
      have k2 := Joins.cell_of_block HXr.out 2
      simp at k0 k1 k2
      clear hown hbel hu0 hv hvs
      rw [hm1]
      go_wp2
      go_region
      all_goals
        go_wp2
        go_roundw
        case rel =>
          have e1 : llV y m j = fop .mul .f32 (y j) (fop .add .f32 1065353216 (llV y m (j + 1))) := by
            show llS y m (m - 1 - j) = _
            rw [show m - 1 - j = (m - 1 - (j + 1)) + 1 by omega]
            show fop .mul .f32 (y (m - 2 - (m - 1 - (j + 1)))) _ = _
            rw [show m - 2 - (m - 1 - (j + 1)) = j by omega]
            rfl
          exact ⟨j, _, by omega, rfl, (HST _ _).out.1, fend_step HLX.out hjn hxs.out (by rw [e1]; exact (fv_same _ _ _ _ _).same.trans (.inl (fop_same (FS.refl _ _) ((fv_same _ _ _ _ _).same.trans (.inl (fop_same (FS.refl _ _) HVS.out)))))), (bel_q HBEL.out _).setCell (by exact Nat.le_refl _) _⟩
        case measure => first | (simp [intOf]; done) | (simp [intOf]; omega)
end Go.Proofs.Ytjebkagbknmdoaa
