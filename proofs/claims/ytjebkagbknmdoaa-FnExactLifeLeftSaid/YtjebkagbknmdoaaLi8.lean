/- LifeLeft, by the program. -/
import Derived.Test.YtjebkagbknmdoaaLl8
import Derived.Test.YtjebkagbknmdoaaFr
import Derived.Test.YtjebkagbknmdoaaLa8
import Derived.RegionTactic
import Derived.Lib.QuietBelow
namespace Go.Proofs.Ytjebkagbknmdoaa
open Go.RowKit Go.Dues
attribute [local go_sem] run_store_float
set_option maxRecDepth 100000 in
set_option maxHeartbeats 8000000 in
theorem implLife7_any (A : Option Addr) (n _n : Nat) (x : Nat → Nat) (B : Option Addr) (m _m : Nat) (y : Nat → Nat) (C : Option Addr) (l _l : Nat) (z : Nat → Nat) (w : World) (hn : n ≤ maxLen) (hs : SL w A n (fun j => .float .f32 (x j))) (hm : m ≤ maxLen) (hs' : SL w B m (fun j => .float .f32 (y j))) (hl : l ≤ maxLen) (hs'' : SL w C l (fun j => .float .f32 (z j))) :
    Calls Try.prog 39 #[.agg #[.slice A n n, .slice B m m, .slice C l l]] w fun e w' => GaveF w w' e (llP x n y m z l) n (llV y n) := by
  obtain ⟨i0, hi, iz0, iz1, iz2⟩ := info_parts Try.infoF
  obtain ⟨W, hW⟩ : ∃ u, u = w.alloc (.cells #[.slice A n n, .slice B m m, .slice C l l] 49) := ⟨_, rfl⟩
  have HBW : Hid (Below w.heap.size w W) := by rw [hW]; exact (Below.refl w.heap.size w).alloc (Nat.le_refl _) _
  have HBX : Hid (W.heap[w.heap.size]? = some (.cells #[.slice A n n, .slice B m m, .slice C l l] 49)) := by rw [hW]; exact blocks1 w _
  have hzW : w.heap.size < W.heap.size := (Array.getElem?_eq_some_iff.1 HBX.out).1
  have HS := hide (hs.below HBW.out)
  have HS' := hide (hs'.below HBW.out)
  have HS'' := hide (hs''.below HBW.out)
  have HWW := hide hW
  clear hs hs' hs'' hW
  have HVP := fun d os => hide (implValidPpl_any A n n x B m m y C l l z (Go.Sort.grow (redrawn W d) os) hn (HS.out.below (below_regrown W d os)) hm (HS'.out.below (below_regrown W d os)) hl (HS''.out.below (below_regrown W d os)))
  have HLA := fun w => hide (lastAge8_any A n n x B m m y C l l z w hn)
  unfold maxLen at hn hm hl
  have k0 := Joins.cell_of_block HBX.out 0
  have k1 := Joins.cell_of_block HBX.out 1
  have k2 := Joins.cell_of_block HBX.out 2
  simp at k0 k1 k2
  have K0 := cell_regrown k0
  have K1 := cell_regrown k1
  have K2 := cell_regrown k2
  by_cases hp : ppP x n y m z l
  rotate_left
  · have HT := hide (tru_no hp)
    have HH := hide (show ¬ llP x n y m z l from fun h => hp h.1)
    clear hp
    go_enter Try.func39, Try.ntmps39
    go_wp2_with fail
    rw [← HWW.out]
    clear HWW
    refine wp_region_quiet_below (by kernel_rfl) (by kernel_rfl) ?_
    repeat (first | go_big_quiet_step (first | exact Calls.regrown_of (ret_eq8 (HVP _ _).out HT.out) | exact Calls.regrown_of (HLA _).out) | quiet_step (first | exact Calls.regrown_of (ret_eq8 (HVP _ _).out HT.out) | exact Calls.regrown_of (HLA _).out))
    refine wpQuiet_nil ?_
    intro w1 hw'
    obtain ⟨⟨dq, osq⟩, hw1⟩ := hw'
    replace hw1 : w1 = Go.Sort.grow (redrawn W dq) osq := hw1
    have hb1 : Below W.heap.size W w1 := by rw [hw1]; exact below_regrown W dq osq
    have HB1 := hide (HBW.out.trans (hb1.mono HBW.out.size))
    have HX1 := hide (blk_below hb1 hzW HBX.out)
    have hz1 : w.heap.size < w1.heap.size := Nat.lt_of_lt_of_le hzW hb1.size
    have HSb1 := hide (HS'.out.below hb1)
    clear hw1 hb1 K0 K1 K2 HVP k0 k1 k2
    go_wp2
    go_ret2
    exact gavef_no HH.out HB1.out
  have HT := hide (tru_yes hp)
  have HPP := hide hp
  have n12 := hp.1.2
  have n2 := hp.1.1
  obtain rfl : m = n := hp.2.1
  have hsh := hp.2.2.2.2.1 (m - 1) (by omega)
  have heq := lt_eq hsh
  clear hp hsh
  obtain ⟨b, off, hBe, hb, hcy⟩ := HS'.out.at_ (by omega)
  subst hBe
  have HCY := hide hcy
  have hc1 := hcy (m - 1) (by omega)
  have HC1 := cell_regrown hc1
  have HBB := hide hb
  clear hcy hb hc1
  have i1 : (m : Int) - 1 < (m : Int) := by omega
  have i2 : ((m : Int) - 1).toNat = m - 1 := by omega
  have i3 : 0 ≤ (m : Int) - 1 := by omega
  cases gl : ltO (y (m - 1))
  · have HH := hide (show ¬ llP x m y m z l from fun h => by rw [h.2] at gl; cases gl)
    rw [gl] at heq
    have g2 : (FloatKind.f32.format.order (y (m - 1)) 1065353216 == some .eq) = true := heq
    clear heq gl
    go_enter Try.func39, Try.ntmps39
    go_wp2_with fail
    rw [← HWW.out]
    clear HWW
    refine wp_region_quiet_below (by kernel_rfl) (by kernel_rfl) ?_
    repeat (first | go_big_quiet_step (first | exact Calls.regrown_of (ret_eq8 (HVP _ _).out HT.out) | exact Calls.regrown_of (HLA _).out) | quiet_step (first | exact Calls.regrown_of (ret_eq8 (HVP _ _).out HT.out) | exact Calls.regrown_of (HLA _).out))
    refine wpQuiet_nil ?_
    intro w1 hw'
    obtain ⟨⟨dq, osq⟩, hw1⟩ := hw'
    replace hw1 : w1 = Go.Sort.grow (redrawn W dq) osq := hw1
    have hb1 : Below W.heap.size W w1 := by rw [hw1]; exact below_regrown W dq osq
    have HB1 := hide (HBW.out.trans (hb1.mono HBW.out.size))
    have HX1 := hide (blk_below hb1 hzW HBX.out)
    have hz1 : w.heap.size < w1.heap.size := Nat.lt_of_lt_of_le hzW hb1.size
    have HSb1 := hide (HS'.out.below hb1)
    clear hw1 hb1 K0 K1 K2 HVP k0 k1 k2
    go_wp2
    go_ret2
    exact gavef_no HH.out HB1.out
  have HH := hide (show llP x m y m z l from ⟨HPP.out, gl⟩)
  rw [gl] at heq
  have g2 : (FloatKind.f32.format.order (y (m - 1)) 1065353216 == some .eq) = false := heq
  clear heq gl
  go_enter Try.func39, Try.ntmps39
  go_wp2_with fail
  rw [← HWW.out]
  clear HWW
  refine wp_region_quiet_below (by kernel_rfl) (by kernel_rfl) ?_
  repeat (first | go_big_quiet_step (first | exact Calls.regrown_of (ret_eq8 (HVP _ _).out HT.out) | exact Calls.regrown_of (HLA _).out) | quiet_step (first | exact Calls.regrown_of (ret_eq8 (HVP _ _).out HT.out) | exact Calls.regrown_of (HLA _).out))
  refine wpQuiet_nil ?_
  intro w1 hw'
  obtain ⟨⟨dq, osq⟩, hw1⟩ := hw'
  replace hw1 : w1 = Go.Sort.grow (redrawn W dq) osq := hw1
  have hb1 : Below W.heap.size W w1 := by rw [hw1]; exact below_regrown W dq osq
  have HB1 := hide (HBW.out.trans (hb1.mono HBW.out.size))
  have HX1 := hide (blk_below hb1 hzW HBX.out)
  have hz1 : w.heap.size < w1.heap.size := Nat.lt_of_lt_of_le hzW hb1.size
  have HSb1 := hide (HS'.out.below hb1)
  clear hw1 hb1 K0 K1 K2 HVP k0 k1 k2
  clear HC1
  have hz1' := HB1.out.size
  have k0 := Joins.cell_of_block HX1.out 0
  have k1 := Joins.cell_of_block HX1.out 1
  have k2 := Joins.cell_of_block HX1.out 2
  simp at k0 k1 k2
  go_wp2_with fail
  refine (HLA _).out.mono ?_
  rintro e w2 ⟨rfl, hb2⟩
  have HB2 := hide (HB1.out.trans (hb2.mono HB1.out.size))
  have HX2 := hide (blk_below hb2 hz1 HX1.out)
  have hz2 : w.heap.size < w2.heap.size := Nat.lt_of_lt_of_le hz1 hb2.size
  have HSb2 := hide (HSb1.out.below hb2)
  have hz12 := hb2.size
  clear k0 k1 k2 hb2 HX1 HSb1 HBX HCY HBB HS' HS'' HS
  have k0 := Joins.cell_of_block HX2.out 0
  have k1 := Joins.cell_of_block HX2.out 1
  have k2 := Joins.cell_of_block HX2.out 2
  simp at k0 k1 k2
  obtain ⟨b', off', hBe, hb', hcy⟩ := HSb2.out.at_ (by omega)
  injection hBe with hBe
  injection hBe with hBe hBo
  subst hBe hBo
  have HCY := hide hcy
  have HBB := hide hb'
  have hc1 := hcy (m - 1) (by omega)
  clear hcy hb'
  have hsub := fun (w : World) (t : TypeId) (x y : Nat) => run_far_eq (P := Try.prog) .sub (by decide) w t .f32 x y
  have hquo := fun (w : World) (t : TypeId) (x y : Nat) => run_far_eq (P := Try.prog) .quo (by decide) w t .f32 x y
  have hadd := fun (w : World) (t : TypeId) (x y : Nat) => run_far_eq (P := Try.prog) .add (by decide) w t .f32 x y
  have hmul := fun (w : World) (t : TypeId) (x y : Nat) => run_far_eq (P := Try.prog) .mul (by decide) w t .f32 x y
  go_wp2_with (at_make; refine wpList_make_full _ rfl _ _ 45 rfl w2.heap.size 62 i0 (.float .f32 0) 1 Try.underlying45 hi iz0 iz1 _ _ _ _ m rfl rfl rfl rfl (by rw [iz2]; omega) (by unfold maxLen; omega) (Nat.le_refl _) ?_; intro w3 hown hgrow)
  have hb3 : Below w2.heap.size w2 w3 := (Below.refl _ _).grown hgrow (Nat.le_refl _) (fun k h => by cases h)
  have HX3 := hide (blk_below hb3 hz2 HX2.out)
  have HGG := hide (show w2.heap.size < w3.heap.size from own_lt hown)
  have HL3 := hide hb3
  have hc3 := (hb3.cell (p := ⟨b, off + (m - 1), none⟩) HBB.out).trans hc1
  obtain ⟨xs0, hown0⟩ : ∃ xs0 : List Value, w3.ownsRow w2.heap.size 62 1 (.slice (some ⟨w2.heap.size, 0, none⟩) m m) m xs0 := ⟨_, hown⟩
  have HLX := hide (show xs0.length = m by have := hown0.1; omega)
  obtain ⟨u0, hu0⟩ : ∃ u, xs0[m - 1]? = some u := ⟨xs0[m - 1]'(by have := HLX.out; omega), List.getElem?_eq_getElem _⟩
  have hold : w3.cell? ⟨w2.heap.size, m - 1, none⟩ = some u0 := (hown0.cellAt (m - 1) (by omega)).trans hu0
  have hfr := hown0.frozenAt (m - 1)
  have HST := fun q u => hide (World.ownsRow.stored (w := w3.drewN q) hown0 (m - 1) (.float .f32 u))
  clear hown0 hown hgrow hb3 hu0 k0 k1 k2 hc1
  have k0 := Joins.cell_of_block HX3.out 0
  have k1 := Joins.cell_of_block HX3.out 1
  have k2 := Joins.cell_of_block HX3.out 2
  simp at k0 k1 k2
  obtain ⟨g, hg⟩ : ∃ g, w2.heap.size = g := ⟨_, rfl⟩
  rw [hg] at HL3 HGG hold hfr HST hz2
  have HG := hide hg
  clear hg
  rw [HG.out]
  have HF := fun u v => hide (show FS .f32 (fv .quo .f32 (y (m - 1)) (fv .sub .f32 1065353216 (y (m - 1)) u) v) (llS y m 0) from ll_first (fv_same _ _ _ _ _) (fv_same _ _ _ _ _))
  go_region
  all_goals
    clear k0 k1 k2
    go_wp2
    go_loopw [6] (fun i wr => ∃ (j : Nat) (xs : List Value), j + 1 ≤ m ∧ i = .int .i64 ((j : Int) - 1) ∧ wr.ownsRow g 62 1 (.slice (some ⟨g, 0, none⟩) m m) m xs ∧ Hid (FEnd xs j m (llV y m)) ∧ Below g w2 wr) (fun i _ => (intOf i + 1).toNat)
    case atStart =>
      refine ⟨m - 1, _, by omega, by congr 1; omega, (HST _ _).out.1, ?_, (bel_q HL3.out _).setCell (by exact Nat.le_refl _) _⟩
      refine fend_step HLX.out (by omega) (fun j h1 h2 => absurd h2 (by omega)) ?_
      show FS .f32 _ (llS y m (m - 1 - (m - 1)))
      rw [Nat.sub_self]
      exact (HF _ _).out
    case round =>
      clear hold hfr HST HF HL3 HLX hc3 HX3
      obtain ⟨j, xs, hjm, rfl, hown, hxs, hbel⟩ := hrel
      have HXr := hide (blk_below (hbel.mono (by omega)) hz2 HX2.out)
      rcases j with _ | j
      · obtain ⟨u, hu1, hu2⟩ := frow_fun (xs := xs) (k := m) (V := llV y m) (fun j hj => hxs.out j (by omega) hj)
        have HO := hide hown
        have HBEL := hide hbel
        have HZ1 := hide hu1
        have HZ2 := hide hu2
        clear hown hbel hu1 hu2
        have hm1 : ((0 : Nat) : Int) - 1 = -1 := rfl
        go_wp2
        go_ret2
        exact gavef_yes HH.out (by have h := OW.of_owns HO.out HZ1.out; exact h.wide (by have := HB2.out.size; have := HG.out; omega) (Nat.le_refl _)) HZ2.out (HB2.out.trans (HBEL.out.mono (by have := HB2.out.size; have := HG.out; omega)))
      · have hm1 : ((j + 1 : Nat) : Int) - 1 = (j : Int) := by omega
        have hjn : j < m := by omega
        have hji : (j : Int) < (m : Int) := by omega
        have hjk : (j : Int) + 1 < (m : Int) := by omega
        have hjt : ((j : Int) + 1).toNat = j + 1 := by omega
        have hcj := (hbel.cell (p := ⟨b, off + j, none⟩) (by show b < g; have := HG.out; have := HBB.out; omega)).trans (HCY.out j hjn)
        obtain ⟨v, hv, hvs⟩ := hxs.out (j + 1) (by omega) (by omega)
        have hnx : wr.cell? ⟨g, j + 1, none⟩ = some (.float .f32 v) := (hown.cellAt (j + 1) (by omega)).trans hv
        have HLX := hide (show xs.length = m by have := hown.1; omega)
        obtain ⟨u0, hu0⟩ : ∃ u, xs[j]? = some u := ⟨xs[j]'(by have := HLX.out; omega), List.getElem?_eq_getElem _⟩
        have hold : wr.cell? ⟨g, j, none⟩ = some u0 := (hown.cellAt j (by omega)).trans hu0
        have hfr := hown.frozenAt j
        have HST := fun q u => hide (World.ownsRow.stored (w := wr.drewN q) hown j (.float .f32 u))
        have HBEL := hide hbel
        have HVS := hide hvs
        have k0 := Joins.cell_of_block HXr.out 0
        have k1 := Joins.cell_of_block HXr.out 1
        have k2 := Joins.cell_of_block HXr.out 2
        simp at k0 k1 k2
        clear hown hbel hu0 hv hvs
        rw [hm1]
        go_wp2
        go_region
        all_goals
          go_wp2
          go_roundw
          case rel =>
            have e1 : llV y m j = fop .mul .f32 (y j) (fop .add .f32 1065353216 (llV y m (j + 1))) := by
              show llS y m (m - 1 - j) = _
              rw [show m - 1 - j = (m - 1 - (j + 1)) + 1 by omega]
              show fop .mul .f32 (y (m - 2 - (m - 1 - (j + 1)))) _ = _
              rw [show m - 2 - (m - 1 - (j + 1)) = j by omega]
              rfl
            exact ⟨j, _, by omega, rfl, (HST _ _).out.1, fend_step HLX.out hjn hxs.out (by rw [e1]; exact (fv_same _ _ _ _ _).same.trans (.inl (fop_same (FS.refl _ _) ((fv_same _ _ _ _ _).same.trans (.inl (fop_same (FS.refl _ _) HVS.out)))))), (bel_q HBEL.out _).setCell (by exact Nat.le_refl _) _⟩
          case measure => first | (simp [intOf]; done) | (simp [intOf]; omega)
end Go.Proofs.Ytjebkagbknmdoaa
