/- MixScale, by the program. -/
import Derived.Test.YtpgpnkaemgigdabGv
import Derived.Deep.RegionHeld3
namespace Go.Proofs.Ytpgpnkaemgigdab
open Go.RowKit Go.Dues
def GaveS (w w' : World) (e : Ending) (p : Prop) (n n' : Nat) (x y : Nat → Int) : Prop :=
  ∃ G d G' d', e = .returned (.tuple #[.agg #[.slice G (lenV p n) d, .slice G' (lenV p n') d'], .bool (tru p)]) ∧ OW2 w' w.heap.size w'.heap.size G (lenV p n) x G' (lenV p n') y ∧ Below w.heap.size w w'
theorem gave_no {w w' : World} {p : Prop} {n n' : Nat} {x y : Nat → Int} (h : ¬ p) (hb : Below w.heap.size w w') : GaveS w w' (.returned (.tuple #[.agg #[.slice none 0 0, .slice none 0 0], .bool false])) p n n' x y := by
  refine ⟨none, 0, none, 0, ?_, ?_, hb⟩
  · rw [lenV_no h, lenV_no h, tru_no h]
  · rw [lenV_no h, lenV_no h]; exact OW2.none_ _ _ _ _ _
theorem gave_yes {w w' : World} {p : Prop} {n n' d d' : Nat} {x y : Nat → Int} {G G' : Option Addr} (h : p) (ho : OW2 w' w.heap.size w'.heap.size G n x G' n' y) (hb : Below w.heap.size w w') : GaveS w w' (.returned (.tuple #[.agg #[.slice G n d, .slice G' n' d'], .bool true])) p n n' x y := by
  refine ⟨G, d, G', d', ?_, ?_, hb⟩
  · rw [lenV_yes h, lenV_yes h, tru_yes h]
  · rw [lenV_yes h, lenV_yes h]; exact ho
def mixP (x y : Nat → Int) (n n' : Nat) (v : Int) : Prop := Val x y n n' ∧ (0 ≤ v ∧ v ≤ 20000) ∧ Val x (fun j => y j * v / 10000) n n'

set_option maxHeartbeats 2000000 in
theorem implMix_any (A A' : Option Addr) (n c n' c' : Nat) (x y : Nat → Int) (v : Int) (w : World) (hn : n ≤ maxLen) (hn' : n' ≤ maxLen) (hs : SL w A n (fun j => .int .i64 (x j))) (hs' : SL w A' n' (fun j => .int .i64 (y j))) :
    Calls Try.prog 19 #[.agg #[.slice A n c, .slice A' n' c'], .int .i64 v] w fun e w' => GaveS w w' e (mixP x y n n' v) n n' x (fun j => y j * v / 10000) := by
  obtain ⟨w0, hw0⟩ : ∃ u, u = ((w.alloc (.cells #[.slice A n c, .slice A' n' c'] 28)).alloc (.cells #[.int .i64 v] 2)).alloc (.cells #[.slice none 0 0, .slice none 0 0] 28) := ⟨_, rfl⟩
  have HB0 : Hid (Below w.heap.size w w0) := by rw [hw0]; exact (((Below.refl w.heap.size w).alloc (Nat.le_refl _) _).alloc (by simp) _).alloc (by simp; omega) _
  have HX0 : Hid (w0.heap[w.heap.size]? = some (.cells #[.slice A n c, .slice A' n' c'] 28)) := by rw [hw0]; exact (blocks3 w _ _ _).1
  have HV0 : Hid (w0.heap[w.heap.size + 1]? = some (.cells #[.int .i64 v] 2)) := by rw [hw0]; exact (blocks3 w _ _ _).2.1
  have HR0 : Hid (w0.heap[w.heap.size + 1 + 1]? = some (.cells #[.slice none 0 0, .slice none 0 0] 28)) := by rw [hw0]; exact (blocks3 w _ _ _).2.2
  have hz0 : w.heap.size + 3 ≤ w0.heap.size := by rw [hw0]; simp
  have HS := hide hs
  have HS' := hide hs'
  have HI := hide (implValid_any A A' n c n' c' x y _ hn hn' (HS.out.below HB0.out) (HS'.out.below HB0.out))
  clear hs hs'
  have HW := hide hw0
  clear hw0
  by_cases hv : Val x y n n'
  · have HT := hide (tru_yes hv)
    by_cases hr : 0 ≤ v ∧ v ≤ 20000
    · have r1 : ¬ v < 0 := by omega
      have r2 : ¬ 20000 < v := by omega
      have HV := hide hv
      have HN := hide hv.1
      have hn2 := hv.n1
      have hn3 := hv.n8
      clear hv
      go_enter Try.func19, Try.ntmps19
      go_wp2_with fail
      rw [← HW.out]
      clear HW
      refine HI.out.mono ?_
      rw [HT.out]
      rintro e w1 ⟨rfl, hb⟩
      have hz1 := hb.size
      have HX1 := hide (blk_below hb (by omega) HX0.out)
      have HV1 := hide (blk_below hb (by omega) HV0.out)
      have HR1 := hide (blk_below hb (by omega) HR0.out)
      have HB1 := hide (HB0.out.trans (hb.mono HB0.out.size))
      have k1 := Joins.cell_of_block HV1.out 0
      have k2 := Joins.cell_of_block HX1.out 0
      have k3 := Joins.cell_of_block HX1.out 1
      simp at k1 k2 k3
      clear hb
      go_wp2_with fail
      refine (each_mix (w.heap.size + 1) v A' n' c' y _ (by have := HN.out; omega) HV1.out hr (fun j hj => HV.out.rate j (by have := HN.out; omega)) (HS'.out.below HB1.out)).mono ?_
      rintro e w2 ⟨G', d', rfl, ho, hb⟩
      have hz2 := hb.size
      have HO2 := hide ho
      have HX2 := hide (blk_below hb (by omega) HX1.out)
      have HR2 := hide (blk_below hb (by omega) HR1.out)
      have HB2 := hide (HB1.out.trans (hb.mono HB1.out.size))
      have k4 := Joins.cell_of_block HX2.out 0
      have k5 := Joins.cell_of_block HX2.out 1
      simp at k4 k5
      clear hb ho k1 k2 k3
      go_wp2_with fail
      refine (clone_any A n c x _ (by omega) (by omega) (HS.out.below HB2.out)).mono ?_
      rintro e w3 ⟨G, d, rfl, ho, hb⟩
      have hz3 := hb.size
      have HP3 := hide ho
      have HO3 := hide (HO2.out.below hb)
      have HR3 := hide (blk_below hb (by omega) HR2.out)
      have HB3 := hide (HB2.out.trans (hb.mono HB2.out.size))
      clear hb ho k4 k5
      by_cases hm : Val x (fun j => y j * v / 10000) n n'
      · have HM := hide (show mixP x y n n' v from ⟨HV.out, hr, hm⟩)
        have HD := hide (made_yes G G' n d n' d' x (fun j => y j * v / 10000) w3 hn hn' HP3.out.sl HO3.out.sl hm)
        clear hm
        go_wp2_with fail
        refine HD.out.mono ?_
        rintro e w4 ⟨rfl, hb⟩
        have hz4 := hb.size
        have HP4 := hide (HP3.out.below hb)
        have HO4 := hide (HO3.out.below hb)
        have HR4 := hide (blk_below hb (by omega) HR3.out)
        have HB4 := hide (HB3.out.trans (hb.mono HB3.out.size))
        have R := Joins.block_setCell (Joins.block_setCell HR4.out (i := 0) (.slice G n d)) (i := 1) (.slice G' n' d')
        have k0 := Joins.cell_of_block R 0
        have k1 := Joins.cell_of_block R 1
        have f0 := Joins.unfrozen_of_block HR4.out 0
        have f1 := Joins.unfrozen_of_block HR4.out 1
        have q0 := Joins.cell_of_block HR4.out 0
        have q1 := Joins.cell_of_block HR4.out 1
        simp at k0 k1 f0 f1 q0 q1
        clear hb R
        go_wp2
        refine bodyPost_ret (v := .tuple #[.agg #[.slice G n d, .slice G' n' d'], .bool true]) (by simp [results, Try.results19, go_sem, k0, k1]) rfl (gave_yes HM.out ?_ ?_)
        · exact ow2_of ((HP4.out.setCell (.inl (by simp; omega))).setCell (.inl (by simp; omega))) ((HO4.out.setCell (.inl (by simp; omega))).setCell (.inl (by simp; omega))) (by omega) (by omega) (by simp; omega) (by omega) (by simp; omega)
        · exact (HB4.out.setCell (by simp; omega) _).setCell (by simp; omega) _
      · have HM := hide (show ¬ mixP x y n n' v from fun h => hm h.2.2)
        have HD := hide (made_no G G' n d n' d' x (fun j => y j * v / 10000) w3 hn hn' HP3.out.sl HO3.out.sl hm)
        clear hm
        go_wp2_with fail
        refine HD.out.mono ?_
        rintro e w4 ⟨rfl, hb⟩
        have hz4 := hb.size
        have HR4 := hide (blk_below hb (by omega) HR3.out)
        have HB4 := hide (HB3.out.trans (hb.mono HB3.out.size))
        have f0 := Joins.unfrozen_of_block HR4.out 0
        have f1 := Joins.unfrozen_of_block HR4.out 1
        have q0 := Joins.cell_of_block HR4.out 0
        have q1 := Joins.cell_of_block HR4.out 1
        simp at f0 f1 q0 q1
        clear hb
        go_wp2
        refine bodyPost_ret (v := .tuple #[.agg #[.slice none 0 0, .slice none 0 0], .bool false]) (by simp [results, Try.results19, go_sem, q0, q1]) rfl (gave_no HM.out ?_)
        exact (HB4.out.setCell (by simp; omega) _).setCell (by simp; omega) _
    · have HM := hide (show ¬ mixP x y n n' v from fun h => hr h.2.1)
      by_cases h0 : v < 0
      · clear hv
        go_enter Try.func19, Try.ntmps19
        go_wp2_with fail
        rw [← HW.out]
        clear HW
        refine HI.out.mono ?_
        rw [HT.out]
        rintro e w1 ⟨rfl, hb⟩
        have hz1 := hb.size
        have HV1 := hide (blk_below hb (by omega) HV0.out)
        have HR1 := hide (blk_below hb (by omega) HR0.out)
        have HB1 := hide (HB0.out.trans (hb.mono HB0.out.size))
        have k1 := Joins.cell_of_block HV1.out 0
        have f0 := Joins.unfrozen_of_block HR1.out 0
        have f1 := Joins.unfrozen_of_block HR1.out 1
        have q0 := Joins.cell_of_block HR1.out 0
        have q1 := Joins.cell_of_block HR1.out 1
        simp at k1 f0 f1 q0 q1
        clear hb
        go_wp2
        refine bodyPost_ret (v := .tuple #[.agg #[.slice none 0 0, .slice none 0 0], .bool false]) (by simp [results, Try.results19, go_sem, q0, q1]) rfl (gave_no HM.out ?_)
        exact (HB1.out.setCell (by simp; omega) _).setCell (by simp; omega) _
      · have h1 : 20000 < v := by omega
        clear hv
        go_enter Try.func19, Try.ntmps19
        go_wp2_with fail
        rw [← HW.out]
        clear HW
        refine HI.out.mono ?_
        rw [HT.out]
        rintro e w1 ⟨rfl, hb⟩
        have hz1 := hb.size
        have HV1 := hide (blk_below hb (by omega) HV0.out)
        have HR1 := hide (blk_below hb (by omega) HR0.out)
        have HB1 := hide (HB0.out.trans (hb.mono HB0.out.size))
        have k1 := Joins.cell_of_block HV1.out 0
        have f0 := Joins.unfrozen_of_block HR1.out 0
        have f1 := Joins.unfrozen_of_block HR1.out 1
        have q0 := Joins.cell_of_block HR1.out 0
        have q1 := Joins.cell_of_block HR1.out 1
        simp at k1 f0 f1 q0 q1
        clear hb
        go_wp2
        refine bodyPost_ret (v := .tuple #[.agg #[.slice none 0 0, .slice none 0 0], .bool false]) (by simp [results, Try.results19, go_sem, q0, q1]) rfl (gave_no HM.out ?_)
        exact (HB1.out.setCell (by simp; omega) _).setCell (by simp; omega) _
  · have HM := hide (show ¬ mixP x y n n' v from fun h => hv h.1)
    have HT := hide (tru_no hv)
    clear hv
    go_enter Try.func19, Try.ntmps19
    go_wp2_with fail
    rw [← HW.out]
    clear HW
    refine HI.out.mono ?_
    rw [HT.out]
    rintro e w1 ⟨rfl, hb⟩
    have hz1 := hb.size
    have HV1 := hide (blk_below hb (by omega) HV0.out)
    have HR1 := hide (blk_below hb (by omega) HR0.out)
    have HB1 := hide (HB0.out.trans (hb.mono HB0.out.size))
    have k1 := Joins.cell_of_block HV1.out 0
    have f0 := Joins.unfrozen_of_block HR1.out 0
    have f1 := Joins.unfrozen_of_block HR1.out 1
    have q0 := Joins.cell_of_block HR1.out 0
    have q1 := Joins.cell_of_block HR1.out 1
    simp at k1 f0 f1 q0 q1
    clear hb
    go_wp2
    refine bodyPost_ret (v := .tuple #[.agg #[.slice none 0 0, .slice none 0 0], .bool false]) (by simp [results, Try.results19, go_sem, q0, q1]) rfl (gave_no HM.out ?_)
    exact (HB1.out.setCell (by simp; omega) _).setCell (by simp; omega) _
end Go.Proofs.Ytpgpnkaemgigdab
