/- PeopleRate, by both. -/
import Derived.Test.YtelcknddbikgaabS7
import Derived.Deep.RegionHeld3
namespace Go.Proofs.Ytelcknddbikgaab
open Go.RowKit Go.Dues
def prV (x : Nat → Nat) (n : Nat) (k o : Int) (s : Nat) : Nat := fop .mul .f32 s (fop .quo .f32 (suV x o ((n : Int) - 1)) (suV x k (o - 1)))
def prP (x : Nat → Nat) (n : Nat) (y : Nat → Nat) (m : Nat) (z : Nat → Nat) (l : Nat) (k o : Int) (s : Nat) : Prop := suP x n y m z l k (o - 1) ∧ suP x n y m z l o ((n : Int) - 1) ∧ gtB (suV x k (o - 1)) 0 = true ∧ ffin .f32 s = true ∧ ffin .f32 (prV x n k o s) = true
theorem od_fin {x : Nat} (h : ffin .f32 x = true) : ∃ c, od x 0 = some c := by
  obtain ⟨s, m, e, hr⟩ := ffin_number h
  have h0 : FloatKind.f32.format.read 0 = .number false 0 (-149) := by decide +kernel
  unfold od Ieee.Format.order
  rw [hr, h0]
  exact ⟨_, rfl⟩
theorem le_gt {x : Nat} (h : ffin .f32 x = true) : (FloatKind.f32.format.order x 0 == some .lt || FloatKind.f32.format.order x 0 == some .eq) = !(gtB x 0) := by
  obtain ⟨c, hc⟩ := od_fin h
  have hc2 : FloatKind.f32.format.order x 0 = some c := hc
  unfold gtB
  rw [hc, hc2]
  cases c <;> rfl
theorem pr_step {x : Nat → Nat} {n : Nat} {k o : Int} {s r1 r2 a b : Nat} (h1 : FS .f32 r1 (suV x k (o - 1))) (h2 : FS .f32 r2 (suV x o ((n : Int) - 1))) (ha : FR .f32 a (fop .quo .f32 r2 r1)) (hb : FR .f32 b (fop .mul .f32 s a)) : FS .f32 b (prV x n k o s) := by
  refine hb.same.trans (.inl ?_)
  show _ = fop .mul .f32 s (fop .quo .f32 (suV x o ((n : Int) - 1)) (suV x k (o - 1)))
  exact fop_same (FS.refl _ _) (ha.same.trans (.inl (fop_same h2 h1)))
set_option maxRecDepth 100000 in
set_option maxHeartbeats 8000000 in
theorem specRate7_any (A : Option Addr) (n _n : Nat) (x : Nat → Nat) (B : Option Addr) (m _m : Nat) (y : Nat → Nat) (C : Option Addr) (l _l : Nat) (z : Nat → Nat) (k o : Int) (s : Nat) (w : World) (hn : n ≤ maxLen) (hs : SL w A n (fun j => .float .f32 (x j))) (hm : m ≤ maxLen) (hs' : SL w B m (fun j => .float .f32 (y j))) (hl : l ≤ maxLen) (hs'' : SL w C l (fun j => .float .f32 (z j))) (hk : -9223372036854775808 ≤ k ∧ k ≤ 9223372036854775807) (ho : -9223372036854775808 ≤ o ∧ o ≤ 9223372036854775807) :
    Calls Try.prog 29 #[.agg #[.slice A n n, .slice B m m, .slice C l l], .int .i64 k, .int .i64 o, .float .f32 s] w fun e w' => GaveV w w' e (prP x n y m z l k o s) (prV x n k o s) := by
  obtain ⟨W, hW⟩ : ∃ u, u = w.alloc (.cells #[.slice A n n, .slice B m m, .slice C l l] 26) := ⟨_, rfl⟩
  have HBW : Hid (Below w.heap.size w W) := by rw [hW]; exact (Below.refl w.heap.size w).alloc (Nat.le_refl _) _
  have HBX : Hid (W.heap[w.heap.size]? = some (.cells #[.slice A n n, .slice B m m, .slice C l l] 26)) := by rw [hW]; exact blocks1 w _
  have hzW : w.heap.size < W.heap.size := (Array.getElem?_eq_some_iff.1 HBX.out).1
  have HS := hide (hs.below HBW.out)
  have HS' := hide (hs'.below HBW.out)
  have HS'' := hide (hs''.below HBW.out)
  have HWW := hide hW
  clear hs hs' hs'' hW
  have HV := hide (specPpl_any A n n x B m m y C l l z w.heap.size W hn HS.out hm HS'.out hl HS''.out HBX.out)
  have HSU := fun (F T : Int) (w : World) hs hs' hs'' => hide (specSumP_any A n n x B m m y C l l z F T w hn hs hm hs' hl hs'')
  unfold maxLen at hn hm hl
  by_cases hp : ppP x n y m z l
  rotate_left
  · have HT := hide (tru_no hp)
    have HH := hide (show ¬ prP x n y m z l k o s from fun h => hp h.1.1)
    clear hp
    go_enter Try.func29, Try.ntmps29
    go_wp2_with fail
    rw [← HWW.out]
    refine HV.out.mono ?_
    rw [HT.out]
    rintro e w1 ⟨rfl, q1, hq⟩
    have HB1 : Hid (Below w.heap.size w w1) := by rw [hq]; exact bel_q HBW.out _
    have HX1 : Hid (w1.heap[w.heap.size]? = some (.cells #[.slice A n n, .slice B m m, .slice C l l] 26)) := by rw [hq]; exact HBX.out
    have HSa : Hid (SL w1 A n (fun j => .float .f32 (x j))) := by rw [hq]; exact HS.out
    have HSb : Hid (SL w1 B m (fun j => .float .f32 (y j))) := by rw [hq]; exact HS'.out
    have HSc : Hid (SL w1 C l (fun j => .float .f32 (z j))) := by rw [hq]; exact HS''.out
    have hz1 : w.heap.size < w1.heap.size := (Array.getElem?_eq_some_iff.1 HX1.out).1
    have k0 := Joins.cell_of_block HX1.out 0
    have k1 := Joins.cell_of_block HX1.out 1
    have k2 := Joins.cell_of_block HX1.out 2
    simp at k0 k1 k2
    clear hq
    go_wp2
    go_ret2
    exact gavev_no HH.out HB1.out
  have HT := hide (tru_yes hp)
  have HPP := hide hp
  have n12 := hp.1.2
  have n2 := hp.1.1
  clear hp
  cases g1 : ffin .f32 s
  · have HH := hide (show ¬ prP x n y m z l k o s from fun h => by rw [h.2.2.2.1] at g1; cases g1)
    go_enter Try.func29, Try.ntmps29
    go_wp2_with fail
    rw [← HWW.out]
    refine HV.out.mono ?_
    rw [HT.out]
    rintro e w1 ⟨rfl, q1, hq⟩
    have HB1 : Hid (Below w.heap.size w w1) := by rw [hq]; exact bel_q HBW.out _
    have HX1 : Hid (w1.heap[w.heap.size]? = some (.cells #[.slice A n n, .slice B m m, .slice C l l] 26)) := by rw [hq]; exact HBX.out
    have HSa : Hid (SL w1 A n (fun j => .float .f32 (x j))) := by rw [hq]; exact HS.out
    have HSb : Hid (SL w1 B m (fun j => .float .f32 (y j))) := by rw [hq]; exact HS'.out
    have HSc : Hid (SL w1 C l (fun j => .float .f32 (z j))) := by rw [hq]; exact HS''.out
    have hz1 : w.heap.size < w1.heap.size := (Array.getElem?_eq_some_iff.1 HX1.out).1
    have k0 := Joins.cell_of_block HX1.out 0
    have k1 := Joins.cell_of_block HX1.out 1
    have k2 := Joins.cell_of_block HX1.out 2
    simp at k0 k1 k2
    clear hq
    go_wp2_with fail
    refine (spec7Fin_any _ _).mono ?_
    rw [g1]
    rintro e w2 ⟨rfl, q2, hq⟩
    have HB2 : Hid (Below w.heap.size w w2) := by rw [hq]; exact bel_q HB1.out _
    have HX2 : Hid (w2.heap[w.heap.size]? = some (.cells #[.slice A n n, .slice B m m, .slice C l l] 26)) := by rw [hq]; exact HX1.out
    have HSa2 : Hid (SL w2 A n (fun j => .float .f32 (x j))) := by rw [hq]; exact HSa.out
    have HSb2 : Hid (SL w2 B m (fun j => .float .f32 (y j))) := by rw [hq]; exact HSb.out
    have HSc2 : Hid (SL w2 C l (fun j => .float .f32 (z j))) := by rw [hq]; exact HSc.out
    clear k0 k1 k2
    have k0 := Joins.cell_of_block HX2.out 0
    have k1 := Joins.cell_of_block HX2.out 1
    have k2 := Joins.cell_of_block HX2.out 2
    simp at k0 k1 k2
    clear hq
    go_wp2
    go_ret2
    exact gavev_no HH.out HB2.out

  cases g2 : inB o 1 ((n : Int) - 1)
  · have HH := hide (show ¬ prP x n y m z l k o s from fun h => by
      have a1 := h.1.2.1; have a2 := h.2.1.2.1
      rw [inB_yes (by omega)] at g2; cases g2)
    go_enter Try.func29, Try.ntmps29
    go_wp2_with fail
    rw [← HWW.out]
    refine HV.out.mono ?_
    rw [HT.out]
    rintro e w1 ⟨rfl, q1, hq⟩
    have HB1 : Hid (Below w.heap.size w w1) := by rw [hq]; exact bel_q HBW.out _
    have HX1 : Hid (w1.heap[w.heap.size]? = some (.cells #[.slice A n n, .slice B m m, .slice C l l] 26)) := by rw [hq]; exact HBX.out
    have HSa : Hid (SL w1 A n (fun j => .float .f32 (x j))) := by rw [hq]; exact HS.out
    have HSb : Hid (SL w1 B m (fun j => .float .f32 (y j))) := by rw [hq]; exact HS'.out
    have HSc : Hid (SL w1 C l (fun j => .float .f32 (z j))) := by rw [hq]; exact HS''.out
    have hz1 : w.heap.size < w1.heap.size := (Array.getElem?_eq_some_iff.1 HX1.out).1
    have k0 := Joins.cell_of_block HX1.out 0
    have k1 := Joins.cell_of_block HX1.out 1
    have k2 := Joins.cell_of_block HX1.out 2
    simp at k0 k1 k2
    clear hq
    go_wp2_with fail
    refine (spec7Fin_any _ _).mono ?_
    rw [g1]
    rintro e w2 ⟨rfl, q2, hq⟩
    have HB2 : Hid (Below w.heap.size w w2) := by rw [hq]; exact bel_q HB1.out _
    have HX2 : Hid (w2.heap[w.heap.size]? = some (.cells #[.slice A n n, .slice B m m, .slice C l l] 26)) := by rw [hq]; exact HX1.out
    have HSa2 : Hid (SL w2 A n (fun j => .float .f32 (x j))) := by rw [hq]; exact HSa.out
    have HSb2 : Hid (SL w2 B m (fun j => .float .f32 (y j))) := by rw [hq]; exact HSb.out
    have HSc2 : Hid (SL w2 C l (fun j => .float .f32 (z j))) := by rw [hq]; exact HSc.out
    clear k0 k1 k2
    have k0 := Joins.cell_of_block HX2.out 0
    have k1 := Joins.cell_of_block HX2.out 1
    have k2 := Joins.cell_of_block HX2.out 2
    simp at k0 k1 k2
    clear hq
    go_wp2_with (go_at_call 72; refine (specIn_any _ _ _ _ ).mono ?_; rintro e w' ⟨rfl, rfl⟩)
    go_ret2
    exact gavev_no HH.out HB2.out

  have HO := hide (inB_iff.1 g2)
  cases g3 : inB k 0 (o - 1)
  · have HH := hide (show ¬ prP x n y m z l k o s from fun h => by rw [inB_yes h.1.2.1] at g3; cases g3)
    obtain ⟨o0, o1⟩ := HO.out
    go_enter Try.func29, Try.ntmps29
    go_wp2_with fail
    rw [← HWW.out]
    refine HV.out.mono ?_
    rw [HT.out]
    rintro e w1 ⟨rfl, q1, hq⟩
    have HB1 : Hid (Below w.heap.size w w1) := by rw [hq]; exact bel_q HBW.out _
    have HX1 : Hid (w1.heap[w.heap.size]? = some (.cells #[.slice A n n, .slice B m m, .slice C l l] 26)) := by rw [hq]; exact HBX.out
    have HSa : Hid (SL w1 A n (fun j => .float .f32 (x j))) := by rw [hq]; exact HS.out
    have HSb : Hid (SL w1 B m (fun j => .float .f32 (y j))) := by rw [hq]; exact HS'.out
    have HSc : Hid (SL w1 C l (fun j => .float .f32 (z j))) := by rw [hq]; exact HS''.out
    have hz1 : w.heap.size < w1.heap.size := (Array.getElem?_eq_some_iff.1 HX1.out).1
    have k0 := Joins.cell_of_block HX1.out 0
    have k1 := Joins.cell_of_block HX1.out 1
    have k2 := Joins.cell_of_block HX1.out 2
    simp at k0 k1 k2
    clear hq
    go_wp2_with fail
    refine (spec7Fin_any _ _).mono ?_
    rw [g1]
    rintro e w2 ⟨rfl, q2, hq⟩
    have HB2 : Hid (Below w.heap.size w w2) := by rw [hq]; exact bel_q HB1.out _
    have HX2 : Hid (w2.heap[w.heap.size]? = some (.cells #[.slice A n n, .slice B m m, .slice C l l] 26)) := by rw [hq]; exact HX1.out
    have HSa2 : Hid (SL w2 A n (fun j => .float .f32 (x j))) := by rw [hq]; exact HSa.out
    have HSb2 : Hid (SL w2 B m (fun j => .float .f32 (y j))) := by rw [hq]; exact HSb.out
    have HSc2 : Hid (SL w2 C l (fun j => .float .f32 (z j))) := by rw [hq]; exact HSc.out
    clear k0 k1 k2
    have k0 := Joins.cell_of_block HX2.out 0
    have k1 := Joins.cell_of_block HX2.out 1
    have k2 := Joins.cell_of_block HX2.out 2
    simp at k0 k1 k2
    clear hq
    go_wp2_with (go_at_call 72; refine (specIn_any _ _ _ _ ).mono ?_; rintro e w' ⟨rfl, rfl⟩)
    go_ret2
    exact gavev_no HH.out HB2.out

  obtain ⟨o0, o1⟩ := HO.out
  have HFS := hide g1
  go_enter Try.func29, Try.ntmps29
  go_wp2_with fail
  rw [← HWW.out]
  refine HV.out.mono ?_
  rw [HT.out]
  rintro e w1 ⟨rfl, q1, hq⟩
  have HB1 : Hid (Below w.heap.size w w1) := by rw [hq]; exact bel_q HBW.out _
  have HX1 : Hid (w1.heap[w.heap.size]? = some (.cells #[.slice A n n, .slice B m m, .slice C l l] 26)) := by rw [hq]; exact HBX.out
  have HSa : Hid (SL w1 A n (fun j => .float .f32 (x j))) := by rw [hq]; exact HS.out
  have HSb : Hid (SL w1 B m (fun j => .float .f32 (y j))) := by rw [hq]; exact HS'.out
  have HSc : Hid (SL w1 C l (fun j => .float .f32 (z j))) := by rw [hq]; exact HS''.out
  have hz1 : w.heap.size < w1.heap.size := (Array.getElem?_eq_some_iff.1 HX1.out).1
  have k0 := Joins.cell_of_block HX1.out 0
  have k1 := Joins.cell_of_block HX1.out 1
  have k2 := Joins.cell_of_block HX1.out 2
  simp at k0 k1 k2
  clear hq
  go_wp2_with fail
  refine (spec7Fin_any _ _).mono ?_
  rw [g1]
  rintro e w2 ⟨rfl, q2, hq⟩
  have HB2 : Hid (Below w.heap.size w w2) := by rw [hq]; exact bel_q HB1.out _
  have HX2 : Hid (w2.heap[w.heap.size]? = some (.cells #[.slice A n n, .slice B m m, .slice C l l] 26)) := by rw [hq]; exact HX1.out
  have HSa2 : Hid (SL w2 A n (fun j => .float .f32 (x j))) := by rw [hq]; exact HSa.out
  have HSb2 : Hid (SL w2 B m (fun j => .float .f32 (y j))) := by rw [hq]; exact HSb.out
  have HSc2 : Hid (SL w2 C l (fun j => .float .f32 (z j))) := by rw [hq]; exact HSc.out
  clear k0 k1 k2
  have k0 := Joins.cell_of_block HX2.out 0
  have k1 := Joins.cell_of_block HX2.out 1
  have k2 := Joins.cell_of_block HX2.out 2
  simp at k0 k1 k2
  clear hq
  have hz2 : w.heap.size < w2.heap.size := (Array.getElem?_eq_some_iff.1 HX2.out).1
  go_wp2_with (go_at_call 72; refine (specIn_any _ _ _ _ ).mono ?_; rintro e w' ⟨rfl, rfl⟩)
  clear g1 g2 g3
  refine (HSU k (o - 1) _ HSa2.out HSb2.out HSc2.out).out.mono ?_
  rintro e w3 ⟨r1, rfl, hr1, hb⟩
  have HR1 := hide hr1
  clear hr1
  have HB3 := hide (HB2.out.trans (hb.mono HB2.out.size))
  have HX3 := hide (blk_below hb hz2 HX2.out)
  have hz3 : w.heap.size < w3.heap.size := Nat.lt_of_lt_of_le hz2 hb.size
  have HSa3 := hide (HSa2.out.below hb)
  have HSb3 := hide (HSb2.out.below hb)
  have HSc3 := hide (HSc2.out.below hb)
  clear k0 k1 k2
  have k0 := Joins.cell_of_block HX3.out 0
  have k1 := Joins.cell_of_block HX3.out 1
  have k2 := Joins.cell_of_block HX3.out 2
  simp at k0 k1 k2
  clear hb
  go_wp2_with fail
  refine (HSU o ((n : Int) - 1) _ HSa3.out HSb3.out HSc3.out).out.mono ?_
  rintro e w4 ⟨r2, rfl, hr2, hb⟩
  have HR2 := hide hr2
  clear hr2
  have HB4 := hide (HB3.out.trans (hb.mono HB3.out.size))
  have HX4 := hide (blk_below hb hz3 HX3.out)
  have hz4 : w.heap.size < w4.heap.size := Nat.lt_of_lt_of_le hz3 hb.size
  have HSa4 := hide (HSa3.out.below hb)
  have HSb4 := hide (HSb3.out.below hb)
  have HSc4 := hide (HSc3.out.below hb)
  clear k0 k1 k2
  have k0 := Joins.cell_of_block HX4.out 0
  have k1 := Joins.cell_of_block HX4.out 1
  have k2 := Joins.cell_of_block HX4.out 2
  simp at k0 k1 k2
  clear hb
  by_cases p1 : suP x n y m z l k (o - 1)
  rotate_left
  · have HH := hide (show ¬ prP x n y m z l k o s from fun h => p1 h.1)
    rw [tru_no p1]
    clear p1
    go_wp2
    go_ret2
    exact gavev_no HH.out HB4.out
  by_cases p2 : suP x n y m z l o ((n : Int) - 1)
  rotate_left
  · have HH := hide (show ¬ prP x n y m z l k o s from fun h => p2 h.2.1)
    rw [tru_yes p1, tru_no p2]
    clear p1 p2
    go_wp2
    go_ret2
    exact gavev_no HH.out HB4.out
  rw [tru_yes p1, tru_yes p2]
  rw [ifF_yes p1] at HR1
  rw [ifF_yes p2] at HR2
  have HP1 := hide p1
  have HP2 := hide p2
  clear p1 p2
  cases hg : (FloatKind.f32.format.order r1 0 == some .gt)
  · have HH := hide (show ¬ prP x n y m z l k o s from fun h => by
      have h3 := h.2.2.1
      unfold gtB at h3
      rw [← od_same HR1.out] at h3
      have h4 : (FloatKind.f32.format.order r1 0 == some .gt) = true := h3
      rw [hg] at h4; cases h4)
    go_wp2
    go_ret2
    exact gavev_no HH.out HB4.out
  have HGT := hide (show gtB (suV x k (o - 1)) 0 = true by
    unfold gtB
    rw [← od_same HR1.out]
    exact hg)
  have HH := hide (show prP x n y m z l k o s ↔ ffin .f32 (prV x n k o s) = true from ⟨fun h => h.2.2.2.2, fun h => ⟨HP1.out, HP2.out, HGT.out, HFS.out, h⟩⟩)
  go_wp2_with (refine wpList_far _ rfl _ _ _ _ _ rfl (by decide) _ _ _ rfl rfl ?_; intro _ _ _)
  have f1 := ‹FR .f32 _ (fop .quo .f32 r2 r1)›
  have f2 := ‹FR .f32 _ (fop .mul .f32 s _)›
  have HV2 := hide (pr_step HR1.out HR2.out f1 f2)
  refine (specNum_any _ _).mono ?_
  rintro e w5 ⟨rfl, q5, rfl⟩
  go_wp2
  go_ret2
  exact gavev_num HV2.out HH.out (by first | exact bel_q HB4.out _ | exact bel_q (bel_q HB4.out _) _ | exact bel_q (bel_q (bel_q HB4.out _) _) _)
theorem lastAge_any (A : Option Addr) (n _n : Nat) (x : Nat → Nat) (B : Option Addr) (m _m : Nat) (y : Nat → Nat) (C : Option Addr) (l _l : Nat) (z : Nat → Nat) (w : World) (hn : n ≤ maxLen) :
    Calls Try.prog 69 #[.agg #[.slice A n n, .slice B m m, .slice C l l]] w fun e w' => e = .returned (.int .i64 ((n : Int) - 1)) ∧ Below w.heap.size w w' := by
  unfold maxLen at hn
  have HBE := hide ((Below.refl w.heap.size w).alloc (Nat.le_refl _) (.cells #[.slice A n n, .slice B m m, .slice C l l] 26))
  go_enter Try.func69, Try.ntmps69
  go_wp2
  go_ret
  exact ⟨rfl, HBE.out⟩
set_option maxRecDepth 100000 in
set_option maxHeartbeats 8000000 in
theorem implRate7_any (A : Option Addr) (n _n : Nat) (x : Nat → Nat) (B : Option Addr) (m _m : Nat) (y : Nat → Nat) (C : Option Addr) (l _l : Nat) (z : Nat → Nat) (k o : Int) (s : Nat) (w : World) (hn : n ≤ maxLen) (hs : SL w A n (fun j => .float .f32 (x j))) (hm : m ≤ maxLen) (hs' : SL w B m (fun j => .float .f32 (y j))) (hl : l ≤ maxLen) (hs'' : SL w C l (fun j => .float .f32 (z j))) (hk : -9223372036854775808 ≤ k ∧ k ≤ 9223372036854775807) (ho : -9223372036854775808 ≤ o ∧ o ≤ 9223372036854775807) :
    Calls Try.prog 30 #[.agg #[.slice A n n, .slice B m m, .slice C l l], .int .i64 k, .int .i64 o, .float .f32 s] w fun e w' => GaveV w w' e (prP x n y m z l k o s) (prV x n k o s) := by
  obtain ⟨W, hW⟩ : ∃ u, u = w.alloc (.cells #[.slice A n n, .slice B m m, .slice C l l] 26) := ⟨_, rfl⟩
  have HBW : Hid (Below w.heap.size w W) := by rw [hW]; exact (Below.refl w.heap.size w).alloc (Nat.le_refl _) _
  have HBX : Hid (W.heap[w.heap.size]? = some (.cells #[.slice A n n, .slice B m m, .slice C l l] 26)) := by rw [hW]; exact blocks1 w _
  have hzW : w.heap.size < W.heap.size := (Array.getElem?_eq_some_iff.1 HBX.out).1
  have HS := hide (hs.below HBW.out)
  have HS' := hide (hs'.below HBW.out)
  have HS'' := hide (hs''.below HBW.out)
  have HWW := hide hW
  clear hs hs' hs'' hW
  have HSU := fun (F T : Int) (w : World) hs hs' hs'' => hide (implSumP_any A n n x B m m y C l l z F T w hn hs hm hs' hl hs'')
  have HLA := fun w => hide (lastAge_any A n n x B m m y C l l z w hn)
  unfold maxLen at hn hm hl
  have k0 := Joins.cell_of_block HBX.out 0
  have k1 := Joins.cell_of_block HBX.out 1
  have k2 := Joins.cell_of_block HBX.out 2
  simp at k0 k1 k2
  go_enter Try.func30, Try.ntmps30
  go_wp2_with fail
  rw [← HWW.out]
  clear HWW
  go_region_held3 (fun w' => w'.cell? ⟨w.heap.size, 0, none⟩ = some (.slice A n n) ∧ w'.cell? ⟨w.heap.size, 1, none⟩ = some (.slice B m m) ∧ w'.cell? ⟨w.heap.size, 2, none⟩ = some (.slice C l l)) ((first | exact ⟨k0, k1, k2⟩ | exact ⟨k0q, k1q, k2q⟩ | exact ⟨k0r, k1r, k2r⟩)) (first
    | (go_at_call 69; refine (HLA _).out.mono ?_; rintro e w1 ⟨rfl, hb⟩; replace hb : Below W.heap.size W w1 := ⟨hb.os, hb.tape, hb.output, hb.size, hb.block⟩; have HB1 := hide (HBW.out.trans (hb.mono HBW.out.size)); have HX1 := hide (blk_below hb hzW HBX.out); have hz1 : w.heap.size < w1.heap.size := Nat.lt_of_lt_of_le hzW hb.size; have HSa1 := hide (HS.out.below hb); have HSb1 := hide (HS'.out.below hb); have HSc1 := hide (HS''.out.below hb); have k0q := Joins.cell_of_block HX1.out 0; have k1q := Joins.cell_of_block HX1.out 1; have k2q := Joins.cell_of_block HX1.out 2; simp at k0q k1q k2q; clear hb)
    | (go_at_call 79; refine (HSU o ((n : Int) - 1) _ (by exact HSa1.out) (by exact HSb1.out) (by exact HSc1.out)).out.mono ?_; rintro e w2 ⟨r2, rfl, hr2, hb⟩; have HR2 := hide hr2; clear hr2; replace hb : Below w1.heap.size w1 w2 := ⟨hb.os, hb.tape, hb.output, hb.size, hb.block⟩; have HB2 := hide (HB1.out.trans (hb.mono HB1.out.size)); have HX2 := hide (blk_below hb hz1 HX1.out); have hz2 : w.heap.size < w2.heap.size := Nat.lt_of_lt_of_le hz1 hb.size; have HSa2 := hide (HSa1.out.below hb); have HSb2 := hide (HSb1.out.below hb); have HSc2 := hide (HSc1.out.below hb); have k0r := Joins.cell_of_block HX2.out 0; have k1r := Joins.cell_of_block HX2.out 1; have k2r := Joins.cell_of_block HX2.out 2; simp at k0r k1r k2r; clear hb))
  clear k0 k1 k2 k0q k1q k2q HX1 HSa1 HSb1 HSc1 HB1 hz1
  by_cases p2 : suP x n y m z l o ((n : Int) - 1)
  rotate_left
  · have HH := hide (show ¬ prP x n y m z l k o s from fun h => p2 h.2.1)
    rw [tru_no p2]
    clear p2
    go_wp2_with fail
    refine (HSU k _ _ HSa2.out HSb2.out HSc2.out).out.mono ?_
    rintro e w3 ⟨r1, rfl, hr1, hb⟩
    have HB3 := hide (HB2.out.trans (hb.mono HB2.out.size))
    clear hr1 hb
    go_wp2
    go_ret2
    exact gavev_no HH.out HB3.out
  have HP2 := hide p2
  have o0 := p2.2.1.1
  have o1 := p2.2.1.2
  rw [tru_yes p2]
  rw [ifF_yes p2] at HR2
  clear p2
  go_wp2_with fail
  refine (HSU k (o - 1) _ HSa2.out HSb2.out HSc2.out).out.mono ?_
  rintro e w3 ⟨r1, rfl, hr1, hb⟩
  have HR1 := hide hr1
  have HB3 := hide (HB2.out.trans (hb.mono HB2.out.size))
  clear hr1 hb
  by_cases p1 : suP x n y m z l k (o - 1)
  rotate_left
  · have HH := hide (show ¬ prP x n y m z l k o s from fun h => p1 h.1)
    rw [tru_no p1]
    clear p1
    go_wp2
    go_ret2
    exact gavev_no HH.out HB3.out
  rw [tru_yes p1]
  rw [ifF_yes p1] at HR1
  have HP1 := hide p1
  have hle := le_gt (x := r1) (by rw [ffin_same HR1.out]; exact p1.2.2.2)
  have hgs : gtB r1 0 = gtB (suV x k (o - 1)) 0 := by unfold gtB; rw [od_same HR1.out]
  clear p1
  cases hg : gtB r1 0
  · have HH := hide (show ¬ prP x n y m z l k o s from fun h => by
      have h3 := h.2.2.1
      rw [← hgs, hg] at h3
      cases h3)
    rw [hg] at hle
    have hle2 : (FloatKind.f32.format.order r1 0 == some .lt || FloatKind.f32.format.order r1 0 == some .eq) = true := hle
    clear hle hgs hg
    go_wp2
    go_ret2
    exact gavev_no HH.out HB3.out
  have HGT := hide (show gtB (suV x k (o - 1)) 0 = true by rw [← hgs]; exact hg)
  rw [hg] at hle
  have hle2 : (FloatKind.f32.format.order r1 0 == some .lt || FloatKind.f32.format.order r1 0 == some .eq) = false := hle
  clear hle hgs hg
  cases g1 : ffin .f32 s
  · have HH := hide (show ¬ prP x n y m z l k o s from fun h => by rw [h.2.2.2.1] at g1; cases g1)
    go_wp2_with fail
    refine (implIsFinite_any _ _).mono ?_
    rw [g1]
    rintro e w4 ⟨rfl, q4, rfl⟩
    go_wp2
    go_ret2
    exact gavev_no HH.out (bel_q HB3.out _)
  have HFS := hide g1
  have HH := hide (show prP x n y m z l k o s ↔ ffin .f32 (prV x n k o s) = true from ⟨fun h => h.2.2.2.2, fun h => ⟨HP1.out, HP2.out, HGT.out, HFS.out, h⟩⟩)
  go_wp2_with fail
  refine (implIsFinite_any _ _).mono ?_
  rw [g1]
  rintro e w4 ⟨rfl, q4, rfl⟩
  clear g1
  go_wp2_with (refine wpList_far _ rfl _ _ _ _ _ rfl (by decide) _ _ _ rfl rfl ?_; intro _ _ _)
  have f1 := ‹FR .f32 _ (fop .quo .f32 r2 r1)›
  have f2 := ‹FR .f32 _ (fop .mul .f32 s _)›
  have HV2 := hide (pr_step HR1.out HR2.out f1 f2)
  refine (implNum_any _ _).mono ?_
  rintro e w5 ⟨rfl, q5, rfl⟩
  go_wp2
  go_ret2
  exact gavev_num HV2.out HH.out (by first | exact bel_q HB3.out _ | exact bel_q (bel_q HB3.out _) _ | exact bel_q (bel_q (bel_q HB3.out _) _) _ | exact bel_q (bel_q (bel_q (bel_q HB3.out _) _) _) _)
end Go.Proofs.Ytelcknddbikgaab
