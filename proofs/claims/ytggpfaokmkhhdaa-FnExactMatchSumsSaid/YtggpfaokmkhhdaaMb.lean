/- MatchSums by the program. -/
import Derived.Test.YtggpfaokmkhhdaaMa
namespace Go.Proofs.Ytggpfaokmkhhdaa
open Go.RowKit Go.Dues
theorem ml_map {l : List Nat} {j : Nat} (h : j < l.length) : (l.map fun j => Value.int .i64 (j : Nat))[j]? = some (.int .i64 (ml l j)) := by
  rw [List.getElem?_map, List.getElem?_eq_getElem h]
  unfold ml
  rw [List.getElem?_eq_getElem h]
  rfl
set_option maxRecDepth 100000 in
set_option maxHeartbeats 16000000 in
theorem implMatch_any (A : Option Addr) (na ca : Nat) (x : Nat → Int) (A1 : Option Addr) (nb cb : Nat) (y : Nat → Int) (w : World) (hna : na ≤ 1048576) (hs : SL w A na (fun j => .int .i64 (x j))) (hnb : nb ≤ 1048576) (hs1 : SL w A1 nb (fun j => .int .i64 (y j))) :
    Calls Try.prog 28 #[.slice A na ca, .slice A1 nb cb] w fun e w' => Gave2d w w' e (msP x y na nb) (msA x y nb na).length (msL (msM x y nb na) nb).length (ml (msA x y nb na)) (ml (msL (msM x y nb na) nb)) := by
  obtain ⟨i0, hi, hz0, hz1, hz2⟩ := info_parts Try.info64
  obtain ⟨w0, hw0⟩ : ∃ u : World, u = w.alloc (.cells #[.slice A1 nb cb] 22) := ⟨_, rfl⟩
  have hB0 : Below w.heap.size w w0 := by rw [hw0]; exact (Below.refl w.heap.size w).alloc (Nat.le_refl _) _
  have hbx : w0.heap[w.heap.size]? = some (.cells #[.slice A1 nb cb] 22 (0, 0)) := by rw [hw0]; exact blocks1 w _
  have hz00 : w0.heap.size = w.heap.size + 1 := by rw [hw0]; simp
  have H1 := hide (areAll_isBalance A na ca x 0 64 w0 (by unfold maxLen; omega) (hs.below hB0))
  have H2 := fun w1 (hb : Below w0.heap.size w0 w1) => hide (areAll_isBalance A1 nb cb y 0 64 w1 (by unfold maxLen; omega) ((hs1.below hB0).below hb))
  have HB0 := hide hB0
  have HBX := hide hbx
  have HSA := hide (hs.below hB0)
  have HSB := hide (hs1.below hB0)
  have HW0 := hide hw0
  clear hs hs1 hB0 hbx hw0
  by_cases p1 : allP x na 0 64 (-1000000000) 1000000000
  rotate_left
  · have HT1 := hide (tru_no p1)
    have HH := hide (show ¬ msP x y na nb from fun h => p1 h.1)
    clear p1
    go_enter Try.func28, Try.ntmps28
    go_wp2_with fail
    rw [← HW0.out]
    refine H1.out.mono ?_
    rw [HT1.out]
    rintro e w1 ⟨rfl, hb1⟩
    have HB1 := hide (HB0.out.trans (hb1.mono (by omega)))
    clear hb1
    go_wp2
    go_ret3
    exact gave2d_no HH.out HB1.out
  have HT1 := hide (tru_yes p1)
  by_cases p2 : allP y nb 0 64 (-1000000000) 1000000000
  rotate_left
  · have HT2 := hide (tru_no p2)
    have HH := hide (show ¬ msP x y na nb from fun h => p2 h.2)
    clear p1 p2
    go_enter Try.func28, Try.ntmps28
    go_wp2_with fail
    rw [← HW0.out]
    refine H1.out.mono ?_
    rw [HT1.out]
    rintro e w1 ⟨rfl, hb1⟩
    have HB1 := hide hb1
    have kb := Joins.cell_of_block (blk_below hb1 (by omega) HBX.out) 0
    simp at kb
    have H2' := H2 w1 hb1
    clear hb1 H2
    go_wp2_with fail
    refine H2'.out.mono ?_
    rw [HT2.out]
    rintro e w2 ⟨rfl, hb2⟩
    have HB2 := hide (HB0.out.trans ((HB1.out.trans (hb2.mono HB1.out.size)).mono (by omega)))
    clear hb2 kb
    go_wp2
    go_ret3
    exact gave2d_no HH.out HB2.out
  have HT2 := hide (tru_yes p2)
  have HH := hide (show msP x y na nb from ⟨p1, p2⟩)
  have na64 : na ≤ 64 := by have := p1.1.2; omega
  have nb64 : nb ≤ 64 := by have := p2.1.2; omega
  clear p1 p2
  go_enter Try.func28, Try.ntmps28
  go_wp2_with fail
  rw [← HW0.out]
  refine H1.out.mono ?_
  rw [HT1.out]
  rintro e w1 ⟨rfl, hb1⟩
  have HB1 := hide hb1
  have kb := Joins.cell_of_block (blk_below hb1 (by omega) HBX.out) 0
  simp at kb
  have H2' := H2 w1 hb1
  clear hb1 H2
  go_wp2_with fail
  refine H2'.out.mono ?_
  rw [HT2.out]
  rintro e w2 ⟨rfl, hb2⟩
  have HB2 := hide (HB1.out.trans (hb2.mono HB1.out.size))
  have HBW := hide (HB0.out.trans (HB2.out.mono (by omega)))
  have hw2 := HB2.out.size
  have HBOX : Hid (w2.heap[w.heap.size]? = some (.cells #[.slice A1 nb cb] 22 (0, 0))) := blk_below HB2.out (by omega) HBX.out
  have kb2 := Joins.cell_of_block HBOX.out 0
  simp at kb2
  have HCA := cells_a (HSA.out.below HB2.out)
  have HSB2 := hide (HSB.out.below HB2.out)
  clear hb2 kb H2'
  have hpb : w.heap.size < w2.heap.size := by omega
  obtain ⟨PB, hPB⟩ : ∃ PB, w.heap.size = PB := ⟨_, rfl⟩
  rw [hPB] at HBOX hpb kb2
  have HPB := hide hPB
  clear hPB
  rw [HPB.out]
  go_wp2
  go_loopw [8, 9, 23] (fun v _ i wr => ∃ (k : Nat), k ≤ nb ∧ i = .int .i64 k ∧ wr.ownsRow w2.heap.size 2 1 v k ((List.range k).map fun j => Value.int .i64 (j : Nat)) ∧ Below w2.heap.size w2 wr) (fun _ _ i _ => nb - (intOf i).toNat)
  case atStart => exact ⟨0, Nat.zero_le _, rfl, World.ownsRow_nil _ _ _ _, Below.refl _ _⟩
  case round =>
    obtain ⟨k, hk, rfl, hown, hbel⟩ := hrel
    by_cases hlt : k < nb
    · have hki : (k : Int) < (nb : Int) := by omega
      have HBEL := hide hbel
      have hsz := hbel.size
      clear hbel
      go_wp2_with (at_builtin; refine wpList_append_own_at _ rfl _ _ 22 rfl w2.heap.size 2 i0 (.int .i64 0) 1 8 Try.underlying22 hi hz0 hz1 hz2 rfl (by decide) _ _ _ rfl (by exact (World.ownsRow.alloc (w := wr) hown _)) ⟨_, 0, none⟩ 1 1 [.int .i64 (k : Nat)] rfl rfl (cell_one_new _ _ _) (by intro u hu; simp at hu; subst hu; rfl) (by unfold maxLen; omega) (by omega) (by simp; omega) ?_)
      intro v' w3 hown' hgrow _ _
      have HON := hide (show w3.ownsRow w2.heap.size 2 1 v' (k + 1) ((List.range (k + 1)).map fun j => Value.int .i64 (j : Nat)) by rw [List.range_succ, List.map_append]; exact hown')
      have HBN := hide ((HBEL.out.alloc HBEL.out.size (.cells #[.int .i64 (k : Nat)] 2)).grown hgrow (by simp; omega) (fun j hj => (hown.lt j hj).1))
      clear hgrow hown' hown
      go_wp2
      go_roundw
      case rel => exact ⟨k + 1, by omega, by go_num, HON.out, HBN.out⟩
      case measure => simp [intOf]; omega
    · obtain rfl : nb = k := by omega
      obtain ⟨GB0, dB0, rfl⟩ := own_shape hown
      have HOB := hide hown
      have HBEL0 := hide hbel
      clear hown hbel
      go_wp2
      have HOB0 : Hid (wr.ownsRow w2.heap.size 2 1 (.slice GB0 nb dB0) (msL (msM x y nb 0) nb).length ((msL (msM x y nb 0) nb).map fun j => Value.int .i64 (j : Nat))) := by
        have e : msL (msM x y nb 0) nb = List.range nb := msL_zero nb
        rw [e, List.length_range]
        exact HOB.out
      clear HOB
      go_loopw [7, 8, 10, 11, 12, 33] (fun v u _ _ _ i wr => ∃ (k : Nat) (xs : List Value), k ≤ na ∧ i = .int .i64 k ∧ wr.ownsRow w2.heap.size 2 1 v (msA x y nb k).length xs ∧ wr.ownsRow w2.heap.size 2 1 u (msL (msM x y nb k) nb).length ((msL (msM x y nb k) nb).map fun j => Value.int .i64 (j : Nat)) ∧ Hid (Apart v.ownBlock u.ownBlock) ∧ Hid (∀ j, j < (msA x y nb k).length → xs[j]? = some (.int .i64 (ml (msA x y nb k) j))) ∧ Below w2.heap.size w2 wr) (fun _ _ _ _ _ i _ => na - (intOf i).toNat)
      case atStart => exact ⟨0, [], Nat.zero_le _, rfl, World.ownsRow_nil _ _ _ _, HOB0.out, .inl rfl, fun j hj => absurd hj (by show ¬ j < 0; omega), HBEL0.out⟩
      case round =>
        clear HOB0 HBEL0
        obtain ⟨k, xs, hk, rfl, hown, hownB, hap, hxs, hbel⟩ := hrel
        by_cases hlt : k < na
        · have hki : (k : Int) < (na : Int) := by omega
          obtain ⟨ba, offa, hAe, hba, hcka⟩ := HCA.out k hlt
          subst hAe
          have hcx := (hbel.cell (p := ⟨ba, offa + k, none⟩) hba).trans hcka
          obtain ⟨s, hsx⟩ : ∃ s, x k = s := ⟨_, rfl⟩
          rw [hsx] at hcx
          have HSX := hide hsx
          obtain ⟨LA, hLA⟩ : ∃ LA, msA x y nb k = LA := ⟨_, rfl⟩
          rw [hLA] at hown hxs
          have HLA := hide hLA
          have hLn : LA.length ≤ k := by rw [← hLA]; exact msA_len x y nb k
          obtain ⟨LB, hLB⟩ : ∃ LB, msL (msM x y nb k) nb = LB := ⟨_, rfl⟩
          rw [hLB] at hownB
          have HLB := hide hLB
          have hLBn : LB.length ≤ nb := by rw [← hLB]; exact msL_len _ _
          have HLBM := hide (show ∀ j, j < LB.length → 0 ≤ ml LB j ∧ ml LB j < nb from fun j hj => by
            have hm : LB[j]?.getD 0 ∈ LB := by rw [List.getElem?_eq_getElem hj, Option.getD_some]; exact List.getElem_mem hj
            have := (msL_mem.1 (by rw [hLB]; exact hm : LB[j]?.getD 0 ∈ msL (msM x y nb k) nb)).1
            unfold ml
            omega)
          obtain ⟨GB, dB, rfl⟩ := own_shape hownB
          obtain ⟨GA, dA, rfl⟩ := own_shape hown
          have hsz := hbel.size
          have HBEL := hide (hbel.alloc hsz (.cells #[.int .i64 s] 2))
          have HOA := hide (hown.alloc (w := wr) (.cells #[.int .i64 s] 2))
          have HOB := hide (hownB.alloc (w := wr) (.cells #[.int .i64 s] 2))
          have HAPX := hide hap.out
          have HIX := hide (idxMs_any GB LB.length dB (ml LB) PB wr.heap.size A1 nb cb y s (wr.alloc (.cells #[.int .i64 s] 2)) (by omega) HLBM.out (OW.of_owns HOB.out (fun j hj => ml_map hj)).sl (HSB2.out.below HBEL.out) (blk_below HBEL.out hpb HBOX.out) (blocks1 wr _))
          clear hown hownB hap hbel hsx hLA hLB hcka
          go_wp2_with fail
          refine HIX.out.mono ?_
          rintro e D ⟨r, rfl, hr, q, hD⟩
          have HOA : Hid (D.ownsRow w2.heap.size 2 1 (.slice GA LA.length dA) LA.length xs) := by rw [hD]; exact HOA.out
          have HOB : Hid (D.ownsRow w2.heap.size 2 1 (.slice GB LB.length dB) LB.length (LB.map fun j => Value.int .i64 (j : Nat))) := by rw [hD]; exact HOB.out
          have HBEL : Hid (Below w2.heap.size w2 D) := by rw [hD]; exact bel_q HBEL.out q
          have hszD : w2.heap.size ≤ D.heap.size := HBEL.out.size
          clear hD
          rcases hr with ⟨rfl, hno⟩ | ⟨p, rfl, hpl, hpy, hpn⟩
          · obtain ⟨e1, e2, _⟩ := ms_none (x := x) (y := y) (nb := nb) (i := k) (by
              rw [HLB.out, HSX.out]
              intro j hj
              obtain ⟨i, hi', rfl⟩ := List.getElem_of_mem hj
              have := hno i hi'
              unfold ml at this
              rw [List.getElem?_eq_getElem hi'] at this
              simpa using this)
            have HE1 := hide e1
            have HE2 := hide (show msA x y nb (k + 1) = LA ++ [k] by rw [e2, HLA.out])
            have HLX := hide (show xs.length = LA.length by have := HOA.out.1; omega)
            have hown := HOA.out
            have hownB := HOB.out
            have hap := HAPX
            clear e1 e2 hno HOA HOB HIX
            go_wp2_with (at_builtin; refine wpList_append_own_at _ rfl _ _ 22 rfl w2.heap.size 2 i0 (.int .i64 0) 1 8 Try.underlying22 hi hz0 hz1 hz2 rfl (by decide) _ _ _ rfl (by exact (World.ownsRow.alloc (w := D) hown _)) ⟨_, 0, none⟩ 1 1 [.int .i64 (k : Nat)] rfl rfl (cell_one_new _ _ _) (by intro u hu; simp at hu; subst hu; rfl) (by unfold maxLen; omega) (by omega) (by simp; omega) ?_)
            intro v' w3 hown1 hgrow1 _ hat1
            have HON := hide hown1
            have HOB1 := hide (World.ownsRow.kept (hownB.alloc (w := D) _) hgrow1 hap.out.symm.ne)
            have HAP1 := hide (hap.out.step (s := D.heap.size + 1) (fun k' hk' => by have := (hownB.lt k' hk').2; omega) (by simpa using hat1))
            have HB1 := hide ((HBEL.out.alloc HBEL.out.size _).grown hgrow1 (by simp; omega) (fun j hj => (hown.lt j hj).1))
            clear hat1 hgrow1 hown hownB hown1 hap
            go_wp2
            go_roundw
            case rel => exact ⟨k + 1, _, by omega, by go_num, by rw [HE2.out, List.length_append]; exact HON.out, by rw [HE1.out, HLB.out]; exact HOB1.out, HAP1.out, by
              rw [HE2.out, List.length_append]
              exact own_step HLX.out (fun j hj => by rw [hxs.out j hj]; unfold ml; rw [getD_app_left hj]) (by unfold ml; rw [List.getElem?_append_right (Nat.le_refl _), Nat.sub_self]; rfl), HB1.out⟩
            case measure => simp [intOf]; omega
          · obtain ⟨e1, e2⟩ := ms_some (x := x) (y := y) (nb := nb) (i := k) (p := p) (by rw [HLB.out]; exact hpl) (by
              rw [HLB.out, HSX.out]
              have := hpy
              unfold ml at this
              simpa using this) (by
              intro j hj
              rw [HLB.out, HSX.out]
              have := hpn j hj
              unfold ml at this
              simpa using this)
            rw [HLB.out] at e2
            have HE1 := hide (show msA x y nb (k + 1) = LA by rw [e1, HLA.out])
            have HE2 := hide e2
            obtain ⟨g, c2, hGe⟩ := Joins.ownsRow_form HOB.out (by omega)
            injection hGe with hGe hGe2 hGe3
            subst hGe hGe3
            obtain ⟨gl, gl2⟩ := HOB.out.lt g rfl
            have hcap : LB.length ≤ dB ∧ dB ≤ 9223372036854775807 := by
              rcases HOB.out.2 with ⟨h', _⟩ | ⟨g', cap', cur, h', _, hg, h5, h6, _⟩
              · cases h'
              · simp only [Value.slice.injEq, Option.some.injEq, Addr.mk.injEq, and_true, true_and] at h'
                obtain ⟨rfl, rfl⟩ := h'
                exact ⟨h5, by unfold maxLen at h6; omega⟩
            have HD := hide (delOwn_any g dB LB.length p (LB.map fun (j : Nat) => (j : Int)) D w2.heap.size (by simp) (by rw [List.map_map]; exact HOB.out) hpl (by omega) hcap.2 hcap.1)
            have hpi : (p : Int) < 64 := by omega
            have HNE := hide (show (Value.slice GA LA.length dA).ownBlock ≠ some g from by
              intro h
              rcases HAPX with h1 | h1 | h1
              · rw [h1] at h; cases h
              · simp [Value.ownBlock] at h1
              · exact h1 h)
            clear e1 e2 hpy hpn HIX hcap
            go_wp2_with fail
            refine HD.out.mono ?_
            rintro e D2 ⟨rfl, q2, vs, hvl, hD2, hvt⟩
            have HS1 := hide (own_shrink (m := LB.length - 1) (own_setCells vs 0 (D.drewN q2) _ HOB.out (by omega)) (by omega))
            have HOB1 : Hid (D2.ownsRow w2.heap.size 2 1 (.slice (some ⟨g, 0, none⟩) (LB.length - 1) dB) (msL (msM x y nb (k + 1)) nb).length ((msL (msM x y nb (k + 1)) nb).map fun j => Value.int .i64 (j : Nat))) := by
              rw [hD2]
              have h := HS1.out
              rw [List.take_zero, List.nil_append, Nat.zero_add, List.drop_of_length_le (by simp; omega), List.append_nil, hvt] at h
              have el : (msL (msM x y nb (k + 1)) nb).length = LB.length - 1 := by rw [HE2.out]; simp; omega
              rw [el, HE2.out]
              rw [← List.map_take, ← List.map_drop, ← List.map_append, List.map_map] at h
              exact h
            have HOA1 : Hid (D2.ownsRow w2.heap.size 2 1 (.slice GA LA.length dA) LA.length xs) := by rw [hD2]; exact own_setCells_any (w := D.drewN q2) HOA.out HNE.out vs 0
            have HB1 : Hid (Below w2.heap.size w2 D2) := by rw [hD2]; exact bel_setCells gl vs 0 _ (bel_q HBEL.out q2)
            have HAP1 : Hid (Apart (Value.slice GA LA.length dA).ownBlock (Value.slice (some ⟨g, 0, none⟩) (LB.length - 1) dB).ownBlock) := HAPX
            clear hvt hvl HS1 HD HOA HOB hD2
            go_wp2
            go_roundw
            case rel => exact ⟨k + 1, xs, by omega, by go_num, by rw [HE1.out]; exact HOA1.out, HOB1.out, HAP1.out, by rw [HE1.out]; exact hxs.out, HB1.out⟩
            case measure => simp [intOf]; omega
        · obtain rfl : na = k := by omega
          obtain ⟨GA, dA, rfl⟩ := own_shape hown
          obtain ⟨GB, dB, rfl⟩ := own_shape hownB
          have HO1 := hide ((OW.of_owns (f := fun j => .int .i64 (ml (msA x y nb na) j)) hown hxs.out).wide HBW.out.size (Nat.le_refl _))
          have HO2 := hide ((OW.of_owns (f := fun j => .int .i64 (ml (msL (msM x y nb na) nb) j)) hownB (fun j hj => ml_map hj)).wide HBW.out.size (Nat.le_refl _))
          have HNE := hide (show (msA x y nb na).length ≠ 0 → (msL (msM x y nb na) nb).length ≠ 0 → GA ≠ GB from fun h1 _ => apart_ne2 hown hownB hap.out h1)
          have HBEL := hide (HBW.out.trans (hbel.mono HBW.out.size))
          clear hown hownB hbel
          go_wp2
          go_ret3
          exact gave2d_yes HH.out HO1.out HO2.out HNE.out HBEL.out
end Go.Proofs.Ytggpfaokmkhhdaa
