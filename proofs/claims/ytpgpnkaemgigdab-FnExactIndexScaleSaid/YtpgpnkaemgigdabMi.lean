/- IndexScale, by the program and the reference. -/
import Derived.Test.YtpgpnkaemgigdabMz
import Derived.Test.YtpgpnkaemgigdabEx
import Derived.Deep.RegionHeld3
import Derived.BigRegion
namespace Go.Proofs.Ytpgpnkaemgigdab
open Go.RowKit Go.Dues
def idxP (x y : Nat → Int) (n n' : Nat) (u v : Int) : Prop := Val x y n n' ∧ ((-5000) ≤ u ∧ u ≤ 10000) ∧ (1 ≤ v ∧ v ≤ 1000000) ∧ Val (fun j => v * rnd (x j * (10000 + u)) (10000 * v) 1) y n n'
set_option maxRecDepth 100000 in
set_option maxHeartbeats 2000000 in
theorem implIdx_any (A A' : Option Addr) (n c n' c' : Nat) (x y : Nat → Int) (u v : Int) (w : World) (hn : n ≤ maxLen) (hn' : n' ≤ maxLen) (hs : SL w A n (fun j => .int .i64 (x j))) (hs' : SL w A' n' (fun j => .int .i64 (y j))) :
    Calls Try.prog 25 #[.agg #[.slice A n c, .slice A' n' c'], .int .i64 u, .int .i64 v] w fun e w' => GaveS w w' e (idxP x y n n' u v) n n' (fun j => v * rnd (x j * (10000 + u)) (10000 * v) 1) y := by
  obtain ⟨w0, hw0⟩ : ∃ W_ : World, W_ = (((w.alloc (.cells #[.slice A n c, .slice A' n' c'] 28)).alloc (.cells #[.int .i64 u] 2)).alloc (.cells #[.int .i64 v] 2)).alloc (.cells #[.slice none 0 0, .slice none 0 0] 28) := ⟨_, rfl⟩
  have HB0 : Hid (Below w.heap.size w w0) := by rw [hw0]; exact ((((Below.refl w.heap.size w).alloc (Nat.le_refl _) _).alloc (by first | omega | (simp; done) | (simp; omega)) _).alloc (by first | omega | (simp; done) | (simp; omega)) _).alloc (by first | omega | (simp; done) | (simp; omega)) _
  have HX0 : Hid (w0.heap[w.heap.size]? = some (.cells #[.slice A n c, .slice A' n' c'] 28)) := by rw [hw0]; exact new_keep _ _ (by first | omega | (simp; done) | (simp; omega)) (blocks3 w _ _ _).1
  have HU0 : Hid (w0.heap[w.heap.size + 1]? = some (.cells #[.int .i64 u] 2)) := by rw [hw0]; exact new_keep _ _ (by first | omega | (simp; done) | (simp; omega)) (blocks3 w _ _ _).2.1
  have HV0 : Hid (w0.heap[w.heap.size + 1 + 1]? = some (.cells #[.int .i64 v] 2)) := by rw [hw0]; exact new_keep _ _ (by first | omega | (simp; done) | (simp; omega)) (blocks3 w _ _ _).2.2
  have HR0 : Hid (w0.heap[w.heap.size + 1 + 1 + 1]? = some (.cells #[.slice none 0 0, .slice none 0 0] 28)) := by
    rw [hw0]; have h3 := new_at (((w.alloc (.cells #[.slice A n c, .slice A' n' c'] 28)).alloc (.cells #[.int .i64 u] 2)).alloc (.cells #[.int .i64 v] 2)) (.cells #[.slice none 0 0, .slice none 0 0] 28); have e3 : (((w.alloc (.cells #[.slice A n c, .slice A' n' c'] 28)).alloc (.cells #[.int .i64 u] 2)).alloc (.cells #[.int .i64 v] 2)).heap.size = w.heap.size + 1 + 1 + 1 := by simp
    rw [e3] at h3; exact h3
  have hz0 : w.heap.size + 4 ≤ w0.heap.size := by rw [hw0]; simp
  have HS := hide hs
  have HS' := hide hs'
  have HI := hide (implValid_any A A' n c n' c' x y _ hn hn' (HS.out.below HB0.out) (HS'.out.below HB0.out))
  clear hs hs'
  have HW := hide hw0
  clear hw0
  by_cases hv : Val x y n n'
  · have HT := hide (tru_yes hv)
    by_cases hu : ((-5000) ≤ u ∧ u ≤ 10000)
    · by_cases hr : (1 ≤ v ∧ v ≤ 1000000)
      · have r1 : ¬ u < (-5000) := by omega
        have r2 : ¬ 10000 < u := by omega
        have r3 : ¬ v < 1 := by omega
        have r4 : ¬ 1000000 < v := by omega
        have HV := hide hv
        have HR := hide (And.intro hu hr)
        have HN := hide hv.1
        have hn2 := hv.n1
        have hn3 := hv.n8
        clear hv hu hr
        go_enter Try.func25, Try.ntmps25
        go_wp2_with fail
        rw [← HW.out]
        clear HW
        refine HI.out.mono ?_
        rw [HT.out]
        rintro e w1 ⟨rfl, hb⟩
        have hz1 := hb.size
        have HX1 := hide (blk_below hb (by omega) HX0.out)
        have HU1 := hide (blk_below hb (by omega) HU0.out)
        have HV1 := hide (blk_below hb (by omega) HV0.out)
        have HR1 := hide (blk_below hb (by omega) HR0.out)
        have HB1 := hide (HB0.out.trans (hb.mono HB0.out.size))
        have k0 := Joins.cell_of_block HU1.out 0
        have k1 := Joins.cell_of_block HV1.out 0
        have k2 := Joins.cell_of_block HX1.out 0
        have k3 := Joins.cell_of_block HX1.out 1
        simp at k0 k1 k2 k3
        clear hb
        go_wp2_with fail
        refine (each_index (w.heap.size + 1) u (w.heap.size + 1 + 1) v A n c x _ hn3 HU1.out HV1.out HR.out.1 HR.out.2 HV.out.amt (HS.out.below HB1.out)).mono ?_
        rintro e w2 ⟨G, d, rfl, ho, hb⟩
        have hz2 := hb.size
        have HO2 := hide ho
        have HX2 := hide (blk_below hb (by omega) HX1.out)
        have HR2 := hide (blk_below hb (by omega) HR1.out)
        have HB2 := hide (HB1.out.trans (hb.mono HB1.out.size))
        have k4 := Joins.cell_of_block HX2.out 0
        have k5 := Joins.cell_of_block HX2.out 1
        simp at k4 k5
        clear hb ho k0 k1 k2 k3
        go_wp2_with fail
        refine (clone_any A' n' c' y _ (by have := HN.out; omega) (by have := HN.out; omega) (HS'.out.below HB2.out)).mono ?_
        rintro e w3 ⟨G', d', rfl, ho, hb⟩
        have hz3 := hb.size
        have HP3 := hide ho
        have HO3 := hide (HO2.out.below hb)
        have HR3 := hide (blk_below hb (by omega) HR2.out)
        have HB3 := hide (HB2.out.trans (hb.mono HB2.out.size))
        clear hb ho k4 k5
        by_cases hm : Val (fun j => v * rnd (x j * (10000 + u)) (10000 * v) 1) y n n'
        · have HM := hide (show idxP x y n n' u v from ⟨HV.out, HR.out.1, HR.out.2, hm⟩)
          have HD := hide (made_yes G G' n d n' d' (fun j => v * rnd (x j * (10000 + u)) (10000 * v) 1) y w3 hn hn' HO3.out.sl HP3.out.sl hm)
          clear hm
          go_wp2_with fail
          refine HD.out.mono ?_
          rintro e w4 ⟨rfl, hb⟩
          have hz4 := hb.size
          have HO4 := hide (HO3.out.below hb)
          have HP4 := hide (HP3.out.below hb)
          have HR4 := hide (blk_below hb (by omega) HR3.out)
          have HB4 := hide (HB3.out.trans (hb.mono HB3.out.size))
          have R := Joins.block_setCell (Joins.block_setCell HR4.out (i := 0) (.slice G n d)) (i := 1) (.slice G' n' d')
          have k0 := Joins.cell_of_block R 0
          have k1 := Joins.cell_of_block R 1
          have f0 := Joins.unfrozen_of_block HR4.out 0
          have f1 := Joins.unfrozen_of_block HR4.out 1
          have q0 := Joins.cell_of_block HR4.out 0
          have q1 := Joins.cell_of_block HR4.out 1
          simp at k0 k1 f0 f1 q0 q1
          clear hb R
          go_wp2
          refine bodyPost_ret (v := .tuple #[.agg #[.slice G n d, .slice G' n' d'], .bool true]) (by simp [results, Try.results25, go_sem, k0, k1]) rfl (gave_yes HM.out ?_ ?_)
          · exact ow2_of ((HO4.out.setCell (.inl (by first | omega | (simp; done) | (simp; omega)))).setCell (.inl (by first | omega | (simp; done) | (simp; omega)))) ((HP4.out.setCell (.inl (by first | omega | (simp; done) | (simp; omega)))).setCell (.inl (by first | omega | (simp; done) | (simp; omega)))) (.inl (by first | omega | (simp; done) | (simp; omega))) (by first | omega | (simp; done) | (simp; omega)) (by first | omega | (simp; done) | (simp; omega)) (by first | omega | (simp; done) | (simp; omega)) (by first | omega | (simp; done) | (simp; omega))
          · exact (HB4.out.setCell (by first | omega | (simp; done) | (simp; omega)) _).setCell (by first | omega | (simp; done) | (simp; omega)) _
        · have HM := hide (show ¬ idxP x y n n' u v from fun h => hm h.2.2.2)
          have HD := hide (made_no G G' n d n' d' (fun j => v * rnd (x j * (10000 + u)) (10000 * v) 1) y w3 hn hn' HO3.out.sl HP3.out.sl hm)
          clear hm
          go_wp2_with fail
          refine HD.out.mono ?_
          rintro e w4 ⟨rfl, hb⟩
          have hz4 := hb.size
          have HO4 := hide (HO3.out.below hb)
          have HP4 := hide (HP3.out.below hb)
          have HR4 := hide (blk_below hb (by omega) HR3.out)
          have HB4 := hide (HB3.out.trans (hb.mono HB3.out.size))
          have R := Joins.block_setCell (Joins.block_setCell HR4.out (i := 0) (.slice G n d)) (i := 1) (.slice G' n' d')
          have k0 := Joins.cell_of_block R 0
          have k1 := Joins.cell_of_block R 1
          have f0 := Joins.unfrozen_of_block HR4.out 0
          have f1 := Joins.unfrozen_of_block HR4.out 1
          have q0 := Joins.cell_of_block HR4.out 0
          have q1 := Joins.cell_of_block HR4.out 1
          simp at k0 k1 f0 f1 q0 q1
          clear hb R
          go_wp2
          refine bodyPost_ret (v := .tuple #[.agg #[.slice none 0 0, .slice none 0 0], .bool false]) (by simp [results, Try.results25, go_sem, q0, q1]) rfl (gave_no HM.out ?_)
          exact (HB4.out.setCell (by first | omega | (simp; done) | (simp; omega)) _).setCell (by first | omega | (simp; done) | (simp; omega)) _
      · have HM := hide (show ¬ idxP x y n n' u v from fun h => hr h.2.2.1)
        have r1 : ¬ u < (-5000) := by omega
        have r2 : ¬ 10000 < u := by omega
        by_cases h0 : v < 1
        · clear hv
          go_enter Try.func25, Try.ntmps25
          go_wp2_with fail
          rw [← HW.out]
          clear HW
          refine HI.out.mono ?_
          rw [HT.out]
          rintro e w1 ⟨rfl, hb⟩
          have hz1 := hb.size
          have HU1 := hide (blk_below hb (by omega) HU0.out)
          have HV1 := hide (blk_below hb (by omega) HV0.out)
          have HR1 := hide (blk_below hb (by omega) HR0.out)
          have HB1 := hide (HB0.out.trans (hb.mono HB0.out.size))
          have k0 := Joins.cell_of_block HU1.out 0
          have k1 := Joins.cell_of_block HV1.out 0
          have f0 := Joins.unfrozen_of_block HR1.out 0
          have f1 := Joins.unfrozen_of_block HR1.out 1
          have q0 := Joins.cell_of_block HR1.out 0
          have q1 := Joins.cell_of_block HR1.out 1
          simp at k0 k1 f0 f1 q0 q1
          clear hb
          go_wp2
          refine bodyPost_ret (v := .tuple #[.agg #[.slice none 0 0, .slice none 0 0], .bool false]) (by simp [results, Try.results25, go_sem, q0, q1]) rfl (gave_no HM.out ?_)
          exact (HB1.out.setCell (by first | omega | (simp; done) | (simp; omega)) _).setCell (by first | omega | (simp; done) | (simp; omega)) _
        · have h1 : 1000000 < v := by omega
          clear hv
          go_enter Try.func25, Try.ntmps25
          go_wp2_with fail
          rw [← HW.out]
          clear HW
          refine HI.out.mono ?_
          rw [HT.out]
          rintro e w1 ⟨rfl, hb⟩
          have hz1 := hb.size
          have HU1 := hide (blk_below hb (by omega) HU0.out)
          have HV1 := hide (blk_below hb (by omega) HV0.out)
          have HR1 := hide (blk_below hb (by omega) HR0.out)
          have HB1 := hide (HB0.out.trans (hb.mono HB0.out.size))
          have k0 := Joins.cell_of_block HU1.out 0
          have k1 := Joins.cell_of_block HV1.out 0
          have f0 := Joins.unfrozen_of_block HR1.out 0
          have f1 := Joins.unfrozen_of_block HR1.out 1
          have q0 := Joins.cell_of_block HR1.out 0
          have q1 := Joins.cell_of_block HR1.out 1
          simp at k0 k1 f0 f1 q0 q1
          clear hb
          go_wp2
          refine bodyPost_ret (v := .tuple #[.agg #[.slice none 0 0, .slice none 0 0], .bool false]) (by simp [results, Try.results25, go_sem, q0, q1]) rfl (gave_no HM.out ?_)
          exact (HB1.out.setCell (by first | omega | (simp; done) | (simp; omega)) _).setCell (by first | omega | (simp; done) | (simp; omega)) _
    · have HM := hide (show ¬ idxP x y n n' u v from fun h => hu h.2.1)
      by_cases h0 : u < (-5000)
      · clear hv
        go_enter Try.func25, Try.ntmps25
        go_wp2_with fail
        rw [← HW.out]
        clear HW
        refine HI.out.mono ?_
        rw [HT.out]
        rintro e w1 ⟨rfl, hb⟩
        have hz1 := hb.size
        have HU1 := hide (blk_below hb (by omega) HU0.out)
        have HV1 := hide (blk_below hb (by omega) HV0.out)
        have HR1 := hide (blk_below hb (by omega) HR0.out)
        have HB1 := hide (HB0.out.trans (hb.mono HB0.out.size))
        have k0 := Joins.cell_of_block HU1.out 0
        have k1 := Joins.cell_of_block HV1.out 0
        have f0 := Joins.unfrozen_of_block HR1.out 0
        have f1 := Joins.unfrozen_of_block HR1.out 1
        have q0 := Joins.cell_of_block HR1.out 0
        have q1 := Joins.cell_of_block HR1.out 1
        simp at k0 k1 f0 f1 q0 q1
        clear hb
        go_wp2
        refine bodyPost_ret (v := .tuple #[.agg #[.slice none 0 0, .slice none 0 0], .bool false]) (by simp [results, Try.results25, go_sem, q0, q1]) rfl (gave_no HM.out ?_)
        exact (HB1.out.setCell (by first | omega | (simp; done) | (simp; omega)) _).setCell (by first | omega | (simp; done) | (simp; omega)) _
      · have h1 : 10000 < u := by omega
        clear hv
        go_enter Try.func25, Try.ntmps25
        go_wp2_with fail
        rw [← HW.out]
        clear HW
        refine HI.out.mono ?_
        rw [HT.out]
        rintro e w1 ⟨rfl, hb⟩
        have hz1 := hb.size
        have HU1 := hide (blk_below hb (by omega) HU0.out)
        have HV1 := hide (blk_below hb (by omega) HV0.out)
        have HR1 := hide (blk_below hb (by omega) HR0.out)
        have HB1 := hide (HB0.out.trans (hb.mono HB0.out.size))
        have k0 := Joins.cell_of_block HU1.out 0
        have k1 := Joins.cell_of_block HV1.out 0
        have f0 := Joins.unfrozen_of_block HR1.out 0
        have f1 := Joins.unfrozen_of_block HR1.out 1
        have q0 := Joins.cell_of_block HR1.out 0
        have q1 := Joins.cell_of_block HR1.out 1
        simp at k0 k1 f0 f1 q0 q1
        clear hb
        go_wp2
        refine bodyPost_ret (v := .tuple #[.agg #[.slice none 0 0, .slice none 0 0], .bool false]) (by simp [results, Try.results25, go_sem, q0, q1]) rfl (gave_no HM.out ?_)
        exact (HB1.out.setCell (by first | omega | (simp; done) | (simp; omega)) _).setCell (by first | omega | (simp; done) | (simp; omega)) _
  · have HM := hide (show ¬ idxP x y n n' u v from fun h => hv h.1)
    have HT := hide (tru_no hv)
    clear hv
    go_enter Try.func25, Try.ntmps25
    go_wp2_with fail
    rw [← HW.out]
    clear HW
    refine HI.out.mono ?_
    rw [HT.out]
    rintro e w1 ⟨rfl, hb⟩
    have hz1 := hb.size
    have HU1 := hide (blk_below hb (by omega) HU0.out)
    have HV1 := hide (blk_below hb (by omega) HV0.out)
    have HR1 := hide (blk_below hb (by omega) HR0.out)
    have HB1 := hide (HB0.out.trans (hb.mono HB0.out.size))
    have k0 := Joins.cell_of_block HU1.out 0
    have k1 := Joins.cell_of_block HV1.out 0
    have f0 := Joins.unfrozen_of_block HR1.out 0
    have f1 := Joins.unfrozen_of_block HR1.out 1
    have q0 := Joins.cell_of_block HR1.out 0
    have q1 := Joins.cell_of_block HR1.out 1
    simp at k0 k1 f0 f1 q0 q1
    clear hb
    go_wp2
    refine bodyPost_ret (v := .tuple #[.agg #[.slice none 0 0, .slice none 0 0], .bool false]) (by simp [results, Try.results25, go_sem, q0, q1]) rfl (gave_no HM.out ?_)
    exact (HB1.out.setCell (by first | omega | (simp; done) | (simp; omega)) _).setCell (by first | omega | (simp; done) | (simp; omega)) _

set_option maxRecDepth 100000 in
set_option maxHeartbeats 4000000 in
theorem specIdx_any (A A' : Option Addr) (n c n' c' : Nat) (x y : Nat → Int) (u v : Int) (w : World) (hn : n ≤ maxLen) (hn' : n' ≤ maxLen) (hs : SL w A n (fun j => .int .i64 (x j))) (hs' : SL w A' n' (fun j => .int .i64 (y j))) :
    Calls Try.prog 24 #[.agg #[.slice A n c, .slice A' n' c'], .int .i64 u, .int .i64 v] w fun e w' => GaveS w w' e (idxP x y n n' u v) n n' (fun j => v * rnd (x j * (10000 + u)) (10000 * v) 1) y := by
  obtain ⟨w0, hw0⟩ : ∃ W_ : World, W_ = (w.alloc (.cells #[.slice A n c, .slice A' n' c'] 28)).alloc (.cells #[.slice none 0 0, .slice none 0 0] 28) := ⟨_, rfl⟩
  have HB0 : Hid (Below w.heap.size w w0) := by rw [hw0]; exact ((Below.refl w.heap.size w).alloc (Nat.le_refl _) _).alloc (by simp) _
  have HX0 : Hid (w0.heap[w.heap.size]? = some (.cells #[.slice A n c, .slice A' n' c'] 28)) := by rw [hw0]; exact (blocks2 w _ _).1
  have HR0 : Hid (w0.heap[w.heap.size + 1]? = some (.cells #[.slice none 0 0, .slice none 0 0] 28)) := by rw [hw0]; exact (blocks2 w _ _).2
  have hz0 : w.heap.size + 2 ≤ w0.heap.size := by rw [hw0]; simp
  have HS := hide hs
  have HS' := hide hs'
  have c0 := Joins.cell_of_block HX0.out 0
  have c1 := Joins.cell_of_block HX0.out 1
  simp at c0 c1
  have HI := hide (specIs_any w.heap.size A A' n c n' c' x y w0 hn hn' c0 c1 (HS.out.below HB0.out) (HS'.out.below HB0.out))
  clear hs hs' c0 c1
  have HW := hide hw0
  clear hw0
  by_cases hv : Val x y n n'
  · have HT := hide (tru_yes hv)
    by_cases hu : ((-5000) ≤ u ∧ u ≤ 10000)
    · by_cases hr : (1 ≤ v ∧ v ≤ 1000000)
      · have HR := hide (And.intro hu hr)
        have HV := hide hv
        have HN := hide hv.1
        have hn2 := hv.n1
        have hn3 := hv.n8
        clear hv hu hr
        go_enter Try.func24, Try.ntmps24
        go_wp2_with fail
        rw [← HW.out]
        clear HW
        refine HI.out.mono ?_
        rw [HT.out]
        rintro e w1 ⟨rfl, q, hq⟩
        have hb : Below w0.heap.size w0 w1 := by rw [hq]; exact bel_drewN (Below.refl _ _) _
        clear hq
        have hz1 := hb.size
        have HX1 := hide (blk_below hb (by omega) HX0.out)
        have HR1 := hide (blk_below hb (by omega) HR0.out)
        have HB1 := hide (HB0.out.trans (hb.mono HB0.out.size))
        clear hb
        go_wp2_with fail
        refine (specIn_yes _ _ _ _ HR.out.1).mono ?_
        rintro e w' ⟨rfl, rfl⟩
        go_wp2_with fail
        refine (specIn_yes _ _ _ _ HR.out.2).mono ?_
        rintro e w' ⟨rfl, rfl⟩
        have k2 := Joins.cell_of_block HX1.out 0
        have k3 := Joins.cell_of_block HX1.out 1
        simp at k2 k3
        go_wp2_with fail
        refine (specOwn_any w.heap.size A A' n c n' c' x y w1 k2 k3 (by omega) (HS.out.below HB1.out) (HS'.out.below HB1.out) (by omega) (by omega) (by have := HN.out; omega) (by have := HN.out; omega)).mono ?_
        rintro e w2 ⟨G, d, G', d', rfl, ho, hb⟩
        have hz2 := hb.size
        have HR2 := hide (blk_below hb (by omega) HR1.out)
        have HB2 := hide (HB1.out.trans (hb.mono HB1.out.size))
        obtain ⟨lo1, hi1, lo2, hi2, s1, s2, b1, b2, b3, b4, hd⟩ := ho.split hz2
        clear hb ho k2 k3
        obtain ⟨w3, hw3⟩ : ∃ W_ : World, W_ = w2.alloc (.cells #[.slice G n d, .slice G' n' d'] 28) := ⟨_, rfl⟩
        have hb : Below w2.heap.size w2 w3 := by rw [hw3]; exact (Below.refl _ _).alloc (Nat.le_refl _) _
        have HT3 : Hid (w3.heap[w2.heap.size]? = some (.cells #[.slice G n d, .slice G' n' d'] 28)) := by rw [hw3]; exact blocks1 w2 _
        have hz3 : w2.heap.size + 1 ≤ w3.heap.size := by rw [hw3]; simp
        have HG3 := hide (s1.below hb)
        have HH3 := hide (s2.below hb)
        have HR3 := hide (blk_below hb (by omega) HR2.out)
        have HB3 := hide (HB2.out.trans (hb.mono HB2.out.size))
        have HW := hide hw3
        clear hb hw3 s1 s2
        rcases HG3.out with h0 | ⟨g, cs, t, rfl, hlo, hhi, hb, hc⟩
        · omega
        have HBK := hide hb
        have HC := hide hc
        clear hb hc
        go_wp2_with fail
        rw [← HW.out]
        clear HW
        go_loopw [9] (fun i wr => ∃ (j : Nat) (ds : Array Value), j ≤ n ∧ i = .int .i64 j ∧ Hid (wr.heap[g]? = some (.cells ds t (0, 0))) ∧ Hid (∀ p, p < n → ds[p]? = some (.int .i64 (if p < j then v * rnd (x p * (10000 + u)) (10000 * v) 1 else x p))) ∧ Hid (Within lo1 hi1 w3 wr)) (fun i _ => n - (intOf i).toNat)
        case atStart => exact ⟨0, cs, Nat.zero_le _, rfl, HBK, fun p hp => by rw [if_neg (by omega)]; exact HC.out p hp, Within.refl _ _ _⟩
        case round =>
          obtain ⟨j, ds, hj, rfl, hb, hc, hw⟩ := hrel
          have HT4 := hide ((hw.out.block w2.heap.size (.inr (by omega))).trans HT3.out)
          have k2 := Joins.cell_of_block HT4.out 0
          have k3 := Joins.cell_of_block HT4.out 1
          simp at k2 k3
          by_cases hlt : j < n
          · have hx := hc.out j hlt
            rw [if_neg (by omega)] at hx
            have c1 := (Joins.cell_of_block hb.out j).trans hx
            have c2 := Joins.unfrozen_of_block hb.out j
            have HU := hide hx
            have HLT := hide hlt
            have xb := HV.out.amt j hlt
            obtain ⟨⟨u0, u1⟩, v0, v1⟩ := HR.out
            obtain ⟨m0, m1⟩ := mul_bd (a := x j) (b := 10000 + u) (M := 1000000000000) (N := 20000) xb.1 xb.2 (by omega) (by omega)
            obtain ⟨i0, i1⟩ := idx_bd m0 m1 ⟨v0, v1⟩
            rw [Int.mul_comm] at i0 i1
            obtain ⟨x0, x1⟩ := xb
            have HQ := hide (fun W => specRound_any (x j * (10000 + u)) (10000 * v) 1 W m0 (by omega) (by omega) (by omega) (by omega))
            have HW1 := hide (Go.IntWalk.i64_in (10000 + u) (by omega))
            have HW2 := hide (Go.IntWalk.i64_in (x j * (10000 + u)) (by omega))
            have HW3 := hide (Go.IntWalk.i64_in (10000 * v) (by omega))
            have HW4 := hide (Go.IntWalk.i64_in (v * rnd (x j * (10000 + u)) (10000 * v) 1) (by omega))
            clear hx
            go_wp2
            go_region_with ((go_at_call 49; rw [HW1.out, HW2.out, HW3.out]; refine (HQ.out _).mono ?_; rintro e w' ⟨rfl, rfl⟩))
            all_goals
              go_wp2
              (try rw [HW4.out])
              go_roundw
              case rel =>
                refine ⟨j + 1, ds.setIfInBounds j (.int .i64 (v * rnd (x j * (10000 + u)) (10000 * v) 1)), (by have := HLT.out; omega), by go_num, Joins.block_setCell hb.out _, ?_, (hw.out.set (p := ⟨g, j, none⟩) hlo hhi).drewN 1⟩
                intro p hp
                by_cases hpj : p = j
                · subst hpj
                  have hl := (Array.getElem?_eq_some_iff.1 HU.out).1
                  rw [if_pos (by omega)]
                  simp [hl]
                · rw [Array.getElem?_setIfInBounds_ne (Ne.symm hpj), hc.out p hp]
                  by_cases hp2 : p < j
                  · rw [if_pos hp2, if_pos (by omega)]
                  · rw [if_neg hp2, if_neg (by omega)]
              case measure => simp [intOf]; omega
          · obtain rfl : j = n := by omega
            obtain ⟨w4, rfl⟩ := named_world hw
            have HH4 := hide (HH3.out.within hw.out (by omega))
            have HG4 : Hid (OW w4 lo1 hi1 (some ⟨g, 0, none⟩) j (fun p => .int .i64 (v * rnd (x p * (10000 + u)) (10000 * v) 1))) := hide (.inr ⟨g, ds, t, rfl, hlo, hhi, hb.out, fun p hp => by have := hc.out p hp; rwa [if_pos hp] at this⟩)
            have hz4 : w4.heap.size = w3.heap.size := hw.out.size
            have HR4 := hide ((hw.out.block (w.heap.size + 1) (.inl (by omega))).trans HR3.out)
            have HB4 := hide (HB3.out.trans (hw.out.bel (by omega)))
            by_cases hm : Val (fun j => v * rnd (x j * (10000 + u)) (10000 * v) 1) y j n'
            · have HM := hide (show idxP x y j n' u v from ⟨HV.out, HR.out.1, HR.out.2, hm⟩)
              have HD := hide (give_yes (some ⟨g, 0, none⟩) G' j d n' d' (fun j => v * rnd (x j * (10000 + u)) (10000 * v) 1) y w4 hn hn' HG4.out.sl HH4.out.sl hm)
              clear hm
              go_wp2_with fail
              refine HD.out.mono ?_
              rintro e w5 ⟨rfl, hb⟩
              have hz5 := hb.size
              have HP5 := hide (HG4.out.below hb)
              have HO5 := hide (HH4.out.below hb)
              have HR5 := hide (blk_below hb (by omega) HR4.out)
              have HB5 := hide (HB4.out.trans (hb.mono HB4.out.size))
              have R := Joins.block_setCell (Joins.block_setCell HR5.out (i := 0) (.slice (some ⟨g, 0, none⟩) j d)) (i := 1) (.slice G' n' d')
              have k0 := Joins.cell_of_block R 0
              have k1 := Joins.cell_of_block R 1
              have f0 := Joins.unfrozen_of_block HR5.out 0
              have f1 := Joins.unfrozen_of_block HR5.out 1
              have q0 := Joins.cell_of_block HR5.out 0
              have q1 := Joins.cell_of_block HR5.out 1
              simp at k0 k1 f0 f1 q0 q1
              clear hb R
              go_wp2
              refine bodyPost_ret (v := .tuple #[.agg #[.slice (some ⟨g, 0, none⟩) j d, .slice G' n' d'], .bool true]) (by simp [results, Try.results24, go_sem, k0, k1]) rfl (gave_yes HM.out ?_ ?_)
              · exact ow2_of ((HP5.out.setCell (.inl (by first | omega | (simp; done) | (simp; omega)))).setCell (.inl (by first | omega | (simp; done) | (simp; omega)))) ((HO5.out.setCell (.inl (by first | omega | (simp; done) | (simp; omega)))).setCell (.inl (by first | omega | (simp; done) | (simp; omega)))) hd (by first | omega | (simp; done) | (simp; omega)) (by first | omega | (simp; done) | (simp; omega)) (by first | omega | (simp; done) | (simp; omega)) (by first | omega | (simp; done) | (simp; omega))
              · exact (HB5.out.setCell (by first | omega | (simp; done) | (simp; omega)) _).setCell (by first | omega | (simp; done) | (simp; omega)) _
            · have HM := hide (show ¬ idxP x y j n' u v from fun h => hm h.2.2.2)
              have HD := hide (give_no (some ⟨g, 0, none⟩) G' j d n' d' (fun j => v * rnd (x j * (10000 + u)) (10000 * v) 1) y w4 hn hn' HG4.out.sl HH4.out.sl hm)
              clear hm
              go_wp2_with fail
              refine HD.out.mono ?_
              rintro e w5 ⟨rfl, hb⟩
              have hz5 := hb.size
              have HP5 := hide (HG4.out.below hb)
              have HO5 := hide (HH4.out.below hb)
              have HR5 := hide (blk_below hb (by omega) HR4.out)
              have HB5 := hide (HB4.out.trans (hb.mono HB4.out.size))
              have R := Joins.block_setCell (Joins.block_setCell HR5.out (i := 0) (.slice (some ⟨g, 0, none⟩) j d)) (i := 1) (.slice G' n' d')
              have k0 := Joins.cell_of_block R 0
              have k1 := Joins.cell_of_block R 1
              have f0 := Joins.unfrozen_of_block HR5.out 0
              have f1 := Joins.unfrozen_of_block HR5.out 1
              have q0 := Joins.cell_of_block HR5.out 0
              have q1 := Joins.cell_of_block HR5.out 1
              simp at k0 k1 f0 f1 q0 q1
              clear hb R
              go_wp2
              refine bodyPost_ret (v := .tuple #[.agg #[.slice none 0 0, .slice none 0 0], .bool false]) (by simp [results, Try.results24, go_sem, q0, q1]) rfl (gave_no HM.out ?_)
              exact (HB5.out.setCell (by first | omega | (simp; done) | (simp; omega)) _).setCell (by first | omega | (simp; done) | (simp; omega)) _
      · have HM := hide (show ¬ idxP x y n n' u v from fun h => hr h.2.2.1)
        clear hv
        go_enter Try.func24, Try.ntmps24
        go_wp2_with fail
        rw [← HW.out]
        clear HW
        refine HI.out.mono ?_
        rw [HT.out]
        rintro e w1 ⟨rfl, q, hq⟩
        have hb : Below w0.heap.size w0 w1 := by rw [hq]; exact bel_drewN (Below.refl _ _) _
        clear hq
        have hz1 := hb.size
        have HR1 := hide (blk_below hb (by omega) HR0.out)
        have HB1 := hide (HB0.out.trans (hb.mono HB0.out.size))
        have f0 := Joins.unfrozen_of_block HR1.out 0
        have f1 := Joins.unfrozen_of_block HR1.out 1
        have q0 := Joins.cell_of_block HR1.out 0
        have q1 := Joins.cell_of_block HR1.out 1
        simp at f0 f1 q0 q1
        clear hb
        go_wp2_with fail
        refine (specIn_yes _ _ _ _ hu).mono ?_
        rintro e w' ⟨rfl, rfl⟩
        go_wp2_with fail
        refine (specIn_no _ _ _ _ hr).mono ?_
        rintro e w' ⟨rfl, rfl⟩
        go_wp2
        refine bodyPost_ret (v := .tuple #[.agg #[.slice none 0 0, .slice none 0 0], .bool false]) (by simp [results, Try.results24, go_sem, q0, q1]) rfl (gave_no HM.out ?_)
        exact (HB1.out.setCell (by first | omega | (simp; done) | (simp; omega)) _).setCell (by first | omega | (simp; done) | (simp; omega)) _
    · have HM := hide (show ¬ idxP x y n n' u v from fun h => hu h.2.1)
      clear hv
      go_enter Try.func24, Try.ntmps24
      go_wp2_with fail
      rw [← HW.out]
      clear HW
      refine HI.out.mono ?_
      rw [HT.out]
      rintro e w1 ⟨rfl, q, hq⟩
      have hb : Below w0.heap.size w0 w1 := by rw [hq]; exact bel_drewN (Below.refl _ _) _
      clear hq
      have hz1 := hb.size
      have HR1 := hide (blk_below hb (by omega) HR0.out)
      have HB1 := hide (HB0.out.trans (hb.mono HB0.out.size))
      have f0 := Joins.unfrozen_of_block HR1.out 0
      have f1 := Joins.unfrozen_of_block HR1.out 1
      have q0 := Joins.cell_of_block HR1.out 0
      have q1 := Joins.cell_of_block HR1.out 1
      simp at f0 f1 q0 q1
      clear hb
      go_wp2_with fail
      refine (specIn_no _ _ _ _ hu).mono ?_
      rintro e w' ⟨rfl, rfl⟩
      go_wp2
      refine bodyPost_ret (v := .tuple #[.agg #[.slice none 0 0, .slice none 0 0], .bool false]) (by simp [results, Try.results24, go_sem, q0, q1]) rfl (gave_no HM.out ?_)
      exact (HB1.out.setCell (by first | omega | (simp; done) | (simp; omega)) _).setCell (by first | omega | (simp; done) | (simp; omega)) _
  · have HM := hide (show ¬ idxP x y n n' u v from fun h => hv h.1)
    have HT := hide (tru_no hv)
    clear hv
    go_enter Try.func24, Try.ntmps24
    go_wp2_with fail
    rw [← HW.out]
    clear HW
    refine HI.out.mono ?_
    rw [HT.out]
    rintro e w1 ⟨rfl, q, hq⟩
    have hb : Below w0.heap.size w0 w1 := by rw [hq]; exact bel_drewN (Below.refl _ _) _
    clear hq
    have hz1 := hb.size
    have HR1 := hide (blk_below hb (by omega) HR0.out)
    have HB1 := hide (HB0.out.trans (hb.mono HB0.out.size))
    have f0 := Joins.unfrozen_of_block HR1.out 0
    have f1 := Joins.unfrozen_of_block HR1.out 1
    have q0 := Joins.cell_of_block HR1.out 0
    have q1 := Joins.cell_of_block HR1.out 1
    simp at f0 f1 q0 q1
    clear hb
    go_wp2
    refine bodyPost_ret (v := .tuple #[.agg #[.slice none 0 0, .slice none 0 0], .bool false]) (by simp [results, Try.results24, go_sem, q0, q1]) rfl (gave_no HM.out ?_)
    exact (HB1.out.setCell (by first | omega | (simp; done) | (simp; omega)) _).setCell (by first | omega | (simp; done) | (simp; omega)) _
end Go.Proofs.Ytpgpnkaemgigdab
