/- SameDesk, by both. -/
import Derived.Test.YtbcajjpgpjadaaaDo
import Derived.Test.YtbcajjpgpjadaaaSl8
namespace Go.Proofs.Ytbcajjpgpjadaaa
open Go.RowKit Go.Dues
def sdP (x0a : Nat → Int) (n0a : Nat) (x0b : Nat → Int) (n0b : Nat) (x0c : Nat → Int) (n0c : Nat) (x0d : Nat → Int) (n0d : Nat) (x0e : Nat → Nat) (n0e : Nat) (x1a : Nat → Int) (n1a : Nat) (x1b : Nat → Int) (n1b : Nat) (x1c : Nat → Int) (n1c : Nat) (x1d : Nat → Int) (n1d : Nat) (x1e : Nat → Nat) (n1e : Nat) : Prop := scP x0a n0a x0b n0b x1a n1a x1b n1b ∧ listEq x0c x1c n0c n1c ∧ listEq x0d x1d n0d n1d ∧ sameP x0e n0e x1e n1e
set_option maxHeartbeats 8000000 in
theorem specSameDk_any (A0a : Option Addr) (n0a c0a : Nat) (x0a : Nat → Int) (A0b : Option Addr) (n0b c0b : Nat) (x0b : Nat → Int) (A0c : Option Addr) (n0c c0c : Nat) (x0c : Nat → Int) (A0d : Option Addr) (n0d c0d : Nat) (x0d : Nat → Int) (A0e : Option Addr) (n0e c0e : Nat) (x0e : Nat → Nat) (A1a : Option Addr) (n1a c1a : Nat) (x1a : Nat → Int) (A1b : Option Addr) (n1b c1b : Nat) (x1b : Nat → Int) (A1c : Option Addr) (n1c c1c : Nat) (x1c : Nat → Int) (A1d : Option Addr) (n1d c1d : Nat) (x1d : Nat → Int) (A1e : Option Addr) (n1e c1e : Nat) (x1e : Nat → Nat) (w : World) (hm0a : n0a ≤ maxLen) (hm0b : n0b ≤ maxLen) (hm0c : n0c ≤ maxLen) (hm0d : n0d ≤ maxLen) (hm0e : n0e ≤ maxLen) (hm1a : n1a ≤ maxLen) (hm1b : n1b ≤ maxLen) (hm1c : n1c ≤ maxLen) (hm1d : n1d ≤ maxLen) (hm1e : n1e ≤ maxLen) (hs0a : SL w A0a n0a (fun j => .int .i64 (x0a j))) (hs0b : SL w A0b n0b (fun j => .int .i64 (x0b j))) (hs0c : SL w A0c n0c (fun j => .int .i64 (x0c j))) (hs0d : SL w A0d n0d (fun j => .int .i64 (x0d j))) (hs0e : SL w A0e n0e (fun j => .float .f32 (x0e j))) (hs1a : SL w A1a n1a (fun j => .int .i64 (x1a j))) (hs1b : SL w A1b n1b (fun j => .int .i64 (x1b j))) (hs1c : SL w A1c n1c (fun j => .int .i64 (x1c j))) (hs1d : SL w A1d n1d (fun j => .int .i64 (x1d j))) (hs1e : SL w A1e n1e (fun j => .float .f32 (x1e j))) (wx0 : ∀ j, j < n0e → (Lit.float .f32 (x0e j)).wf = true) (wx1 : ∀ j, j < n1e → (Lit.float .f32 (x1e j)).wf = true) :
    Calls Try.prog 74 #[.agg #[.slice A0a n0a c0a, .slice A0b n0b c0b, .slice A0c n0c c0c, .slice A0d n0d c0d, .slice A0e n0e c0e], .agg #[.slice A1a n1a c1a, .slice A1b n1b c1b, .slice A1c n1c c1c, .slice A1d n1d c1d, .slice A1e n1e c1e]] w fun e w' => e = .returned (.bool (tru (sdP x0a n0a x0b n0b x0c n0c x0d n0d x0e n0e x1a n1a x1b n1b x1c n1c x1d n1d x1e n1e))) ∧ Below w.heap.size w w' := by
  obtain ⟨W, hW⟩ : ∃ u, u = (w.alloc (.cells #[.slice A0a n0a c0a, .slice A0b n0b c0b, .slice A0c n0c c0c, .slice A0d n0d c0d, .slice A0e n0e c0e] 32)).alloc (.cells #[.slice A1a n1a c1a, .slice A1b n1b c1b, .slice A1c n1c c1c, .slice A1d n1d c1d, .slice A1e n1e c1e] 32) := ⟨_, rfl⟩
  have HB : Hid (Below w.heap.size w W) := by rw [hW]; exact ((Below.refl w.heap.size w).alloc (Nat.le_refl _) _).alloc (by simp) _
  have HX0 : Hid (W.heap[w.heap.size]? = some (.cells #[.slice A0a n0a c0a, .slice A0b n0b c0b, .slice A0c n0c c0c, .slice A0d n0d c0d, .slice A0e n0e c0e] 32)) := by rw [hW]; exact (blocks2 w _ _).1
  have HX1 : Hid (W.heap[w.heap.size + 1]? = some (.cells #[.slice A1a n1a c1a, .slice A1b n1b c1b, .slice A1c n1c c1c, .slice A1d n1d c1d, .slice A1e n1e c1e] 32)) := by rw [hW]; exact (blocks2 w _ _).2
  have hz : w.heap.size + 2 ≤ W.heap.size := by rw [hW]; simp
  have HS0a := hide (hs0a.below HB.out)
  clear hs0a
  have HS0b := hide (hs0b.below HB.out)
  clear hs0b
  have HS0c := hide (hs0c.below HB.out)
  clear hs0c
  have HS0d := hide (hs0d.below HB.out)
  clear hs0d
  have HS0e := hide (hs0e.below HB.out)
  clear hs0e
  have HS1a := hide (hs1a.below HB.out)
  clear hs1a
  have HS1b := hide (hs1b.below HB.out)
  clear hs1b
  have HS1c := hide (hs1c.below HB.out)
  clear hs1c
  have HS1d := hide (hs1d.below HB.out)
  clear hs1d
  have HS1e := hide (hs1e.below HB.out)
  clear hs1e
  have WX0 := hide wx0
  have WX1 := hide wx1
  clear wx0 wx1
  have k00 := Joins.cell_of_block HX0.out 0
  simp at k00
  have k01 := Joins.cell_of_block HX0.out 1
  simp at k01
  have k02 := Joins.cell_of_block HX0.out 2
  simp at k02
  have k03 := Joins.cell_of_block HX0.out 3
  simp at k03
  have k04 := Joins.cell_of_block HX0.out 4
  simp at k04
  have k10 := Joins.cell_of_block HX1.out 0
  simp at k10
  have k11 := Joins.cell_of_block HX1.out 1
  simp at k11
  have k12 := Joins.cell_of_block HX1.out 2
  simp at k12
  have k13 := Joins.cell_of_block HX1.out 3
  simp at k13
  have k14 := Joins.cell_of_block HX1.out 4
  simp at k14
  have HV := hide (specSameP_any w.heap.size (w.heap.size + 1) A0a n0a c0a x0a A0b n0b c0b x0b A1a n1a c1a x1a A1b n1b c1b x1b W hm0a hm0b hm1a hm1b HS0a.out HS0b.out HS1a.out HS1b.out k00 k01 k10 k11)
  have HWW := hide hW
  clear hW k00 k01 k10 k11
  by_cases g0 : scP x0a n0a x0b n0b x1a n1a x1b n1b
  rotate_left
  · have G0 := hide (tru_no g0)
    have HT := hide (tru_no (show ¬ sdP x0a n0a x0b n0b x0c n0c x0d n0d x0e n0e x1a n1a x1b n1b x1c n1c x1d n1d x1e n1e from fun h => g0 h.1))
    clear g0
    go_enter Try.func74, Try.ntmps74
    go_wp2_with fail
    rw [← HWW.out]
    refine HV.out.mono ?_
    rw [G0.out]
    rintro e w1 ⟨rfl, q, rfl⟩
    go_wp2
    go_ret
    exact ⟨retb HT.out.symm, by first | exact bel_qs HB.out _ | exact bel_qs (bel_qs HB.out _) _ | exact bel_qs (bel_qs (bel_qs HB.out _) _) _ | exact bel_qs (bel_qs (bel_qs (bel_qs HB.out _) _) _) _⟩
  have G0 := hide (tru_yes g0)
  by_cases g1 : listEq x0c x1c n0c n1c
  rotate_left
  · have G1 := hide (tru_no g1)
    have HT := hide (tru_no (show ¬ sdP x0a n0a x0b n0b x0c n0c x0d n0d x0e n0e x1a n1a x1b n1b x1c n1c x1d n1d x1e n1e from fun h => g1 h.2.1))
    clear g1
    go_enter Try.func74, Try.ntmps74
    go_wp2_with fail
    rw [← HWW.out]
    refine HV.out.mono ?_
    rw [G0.out]
    rintro e w1 ⟨rfl, q, rfl⟩
    go_wp2_with fail
    refine (specEqual_any A0c A1c n0c c0c n1c c1c x0c x1c _ hm0c hm1c (show SL (World.drewN W _) _ _ _ from HS0c.out) (show SL (World.drewN W _) _ _ _ from HS1c.out)).mono ?_
    rw [G1.out]
    rintro e w' ⟨rfl, q1, rfl⟩
    go_wp2
    go_ret
    exact ⟨retb HT.out.symm, by first | exact bel_qs HB.out _ | exact bel_qs (bel_qs HB.out _) _ | exact bel_qs (bel_qs (bel_qs HB.out _) _) _ | exact bel_qs (bel_qs (bel_qs (bel_qs HB.out _) _) _) _⟩
  have G1 := hide (tru_yes g1)
  by_cases g2 : listEq x0d x1d n0d n1d
  rotate_left
  · have G2 := hide (tru_no g2)
    have HT := hide (tru_no (show ¬ sdP x0a n0a x0b n0b x0c n0c x0d n0d x0e n0e x1a n1a x1b n1b x1c n1c x1d n1d x1e n1e from fun h => g2 h.2.2.1))
    clear g2
    go_enter Try.func74, Try.ntmps74
    go_wp2_with fail
    rw [← HWW.out]
    refine HV.out.mono ?_
    rw [G0.out]
    rintro e w1 ⟨rfl, q, rfl⟩
    go_wp2_with fail
    refine (specEqual_any A0c A1c n0c c0c n1c c1c x0c x1c _ hm0c hm1c (show SL (World.drewN W _) _ _ _ from HS0c.out) (show SL (World.drewN W _) _ _ _ from HS1c.out)).mono ?_
    rw [G1.out]
    rintro e w' ⟨rfl, q1, rfl⟩
    go_wp2_with fail
    refine (specEqual_any A0d A1d n0d c0d n1d c1d x0d x1d _ hm0d hm1d (show SL (World.drewN W _) _ _ _ from HS0d.out) (show SL (World.drewN W _) _ _ _ from HS1d.out)).mono ?_
    rw [G2.out]
    rintro e w' ⟨rfl, q2, rfl⟩
    go_wp2
    go_ret
    exact ⟨retb HT.out.symm, by first | exact bel_qs HB.out _ | exact bel_qs (bel_qs HB.out _) _ | exact bel_qs (bel_qs (bel_qs HB.out _) _) _ | exact bel_qs (bel_qs (bel_qs (bel_qs HB.out _) _) _) _⟩
  have G2 := hide (tru_yes g2)
  by_cases g3 : sameP x0e n0e x1e n1e
  rotate_left
  · have G3 := hide (tru_no g3)
    have HT := hide (tru_no (show ¬ sdP x0a n0a x0b n0b x0c n0c x0d n0d x0e n0e x1a n1a x1b n1b x1c n1c x1d n1d x1e n1e from fun h => g3 h.2.2.2))
    clear g3
    go_enter Try.func74, Try.ntmps74
    go_wp2_with fail
    rw [← HWW.out]
    refine HV.out.mono ?_
    rw [G0.out]
    rintro e w1 ⟨rfl, q, rfl⟩
    go_wp2_with fail
    refine (specEqual_any A0c A1c n0c c0c n1c c1c x0c x1c _ hm0c hm1c (show SL (World.drewN W _) _ _ _ from HS0c.out) (show SL (World.drewN W _) _ _ _ from HS1c.out)).mono ?_
    rw [G1.out]
    rintro e w' ⟨rfl, q1, rfl⟩
    go_wp2_with fail
    refine (specEqual_any A0d A1d n0d c0d n1d c1d x0d x1d _ hm0d hm1d (show SL (World.drewN W _) _ _ _ from HS0d.out) (show SL (World.drewN W _) _ _ _ from HS1d.out)).mono ?_
    rw [G2.out]
    rintro e w' ⟨rfl, q2, rfl⟩
    go_wp2_with fail
    refine (specSameAll_any A0e n0e c0e x0e A1e n1e c1e x1e _ hm0e (show SL (World.drewN W _) _ _ _ from HS0e.out) WX0.out hm1e (show SL (World.drewN W _) _ _ _ from HS1e.out) WX1.out).mono ?_
    rw [G3.out]
    rintro e w' ⟨rfl, q3, rfl⟩
    go_wp2
    go_ret
    exact ⟨retb HT.out.symm, by first | exact bel_qs HB.out _ | exact bel_qs (bel_qs HB.out _) _ | exact bel_qs (bel_qs (bel_qs HB.out _) _) _ | exact bel_qs (bel_qs (bel_qs (bel_qs HB.out _) _) _) _⟩
  have G3 := hide (tru_yes g3)
  have HT := hide (tru_yes (show sdP x0a n0a x0b n0b x0c n0c x0d n0d x0e n0e x1a n1a x1b n1b x1c n1c x1d n1d x1e n1e from ⟨g0, g1, g2, g3⟩))
  clear g0 g1 g2 g3
  go_enter Try.func74, Try.ntmps74
  go_wp2_with fail
  rw [← HWW.out]
  refine HV.out.mono ?_
  rw [G0.out]
  rintro e w1 ⟨rfl, q, rfl⟩
  go_wp2_with fail
  refine (specEqual_any A0c A1c n0c c0c n1c c1c x0c x1c _ hm0c hm1c (show SL (World.drewN W _) _ _ _ from HS0c.out) (show SL (World.drewN W _) _ _ _ from HS1c.out)).mono ?_
  rw [G1.out]
  rintro e w' ⟨rfl, q1, rfl⟩
  go_wp2_with fail
  refine (specEqual_any A0d A1d n0d c0d n1d c1d x0d x1d _ hm0d hm1d (show SL (World.drewN W _) _ _ _ from HS0d.out) (show SL (World.drewN W _) _ _ _ from HS1d.out)).mono ?_
  rw [G2.out]
  rintro e w' ⟨rfl, q2, rfl⟩
  go_wp2_with fail
  refine (specSameAll_any A0e n0e c0e x0e A1e n1e c1e x1e _ hm0e (show SL (World.drewN W _) _ _ _ from HS0e.out) WX0.out hm1e (show SL (World.drewN W _) _ _ _ from HS1e.out) WX1.out).mono ?_
  rw [G3.out]
  rintro e w' ⟨rfl, q3, rfl⟩
  go_wp2
  go_ret
  exact ⟨retb HT.out.symm, by first | exact bel_qs HB.out _ | exact bel_qs (bel_qs HB.out _) _ | exact bel_qs (bel_qs (bel_qs HB.out _) _) _ | exact bel_qs (bel_qs (bel_qs (bel_qs HB.out _) _) _) _⟩
set_option maxHeartbeats 8000000 in
theorem implSameDk_any (A0a : Option Addr) (n0a c0a : Nat) (x0a : Nat → Int) (A0b : Option Addr) (n0b c0b : Nat) (x0b : Nat → Int) (A0c : Option Addr) (n0c c0c : Nat) (x0c : Nat → Int) (A0d : Option Addr) (n0d c0d : Nat) (x0d : Nat → Int) (A0e : Option Addr) (n0e c0e : Nat) (x0e : Nat → Nat) (A1a : Option Addr) (n1a c1a : Nat) (x1a : Nat → Int) (A1b : Option Addr) (n1b c1b : Nat) (x1b : Nat → Int) (A1c : Option Addr) (n1c c1c : Nat) (x1c : Nat → Int) (A1d : Option Addr) (n1d c1d : Nat) (x1d : Nat → Int) (A1e : Option Addr) (n1e c1e : Nat) (x1e : Nat → Nat) (w : World) (hm0a : n0a ≤ maxLen) (hm0b : n0b ≤ maxLen) (hm0c : n0c ≤ maxLen) (hm0d : n0d ≤ maxLen) (hm0e : n0e ≤ maxLen) (hm1a : n1a ≤ maxLen) (hm1b : n1b ≤ maxLen) (hm1c : n1c ≤ maxLen) (hm1d : n1d ≤ maxLen) (hm1e : n1e ≤ maxLen) (hs0a : SL w A0a n0a (fun j => .int .i64 (x0a j))) (hs0b : SL w A0b n0b (fun j => .int .i64 (x0b j))) (hs0c : SL w A0c n0c (fun j => .int .i64 (x0c j))) (hs0d : SL w A0d n0d (fun j => .int .i64 (x0d j))) (hs0e : SL w A0e n0e (fun j => .float .f32 (x0e j))) (hs1a : SL w A1a n1a (fun j => .int .i64 (x1a j))) (hs1b : SL w A1b n1b (fun j => .int .i64 (x1b j))) (hs1c : SL w A1c n1c (fun j => .int .i64 (x1c j))) (hs1d : SL w A1d n1d (fun j => .int .i64 (x1d j))) (hs1e : SL w A1e n1e (fun j => .float .f32 (x1e j))) (wx0 : ∀ j, j < n0e → (Lit.float .f32 (x0e j)).wf = true) (wx1 : ∀ j, j < n1e → (Lit.float .f32 (x1e j)).wf = true) :
    Calls Try.prog 75 #[.agg #[.slice A0a n0a c0a, .slice A0b n0b c0b, .slice A0c n0c c0c, .slice A0d n0d c0d, .slice A0e n0e c0e], .agg #[.slice A1a n1a c1a, .slice A1b n1b c1b, .slice A1c n1c c1c, .slice A1d n1d c1d, .slice A1e n1e c1e]] w fun e w' => e = .returned (.bool (tru (sdP x0a n0a x0b n0b x0c n0c x0d n0d x0e n0e x1a n1a x1b n1b x1c n1c x1d n1d x1e n1e))) ∧ Below w.heap.size w w' := by
  obtain ⟨W, hW⟩ : ∃ u, u = (w.alloc (.cells #[.slice A0a n0a c0a, .slice A0b n0b c0b, .slice A0c n0c c0c, .slice A0d n0d c0d, .slice A0e n0e c0e] 32)).alloc (.cells #[.slice A1a n1a c1a, .slice A1b n1b c1b, .slice A1c n1c c1c, .slice A1d n1d c1d, .slice A1e n1e c1e] 32) := ⟨_, rfl⟩
  have HB : Hid (Below w.heap.size w W) := by rw [hW]; exact ((Below.refl w.heap.size w).alloc (Nat.le_refl _) _).alloc (by simp) _
  have HX0 : Hid (W.heap[w.heap.size]? = some (.cells #[.slice A0a n0a c0a, .slice A0b n0b c0b, .slice A0c n0c c0c, .slice A0d n0d c0d, .slice A0e n0e c0e] 32)) := by rw [hW]; exact (blocks2 w _ _).1
  have HX1 : Hid (W.heap[w.heap.size + 1]? = some (.cells #[.slice A1a n1a c1a, .slice A1b n1b c1b, .slice A1c n1c c1c, .slice A1d n1d c1d, .slice A1e n1e c1e] 32)) := by rw [hW]; exact (blocks2 w _ _).2
  have hz : w.heap.size + 2 ≤ W.heap.size := by rw [hW]; simp
  have HS0a := hide (hs0a.below HB.out)
  clear hs0a
  have HS0b := hide (hs0b.below HB.out)
  clear hs0b
  have HS0c := hide (hs0c.below HB.out)
  clear hs0c
  have HS0d := hide (hs0d.below HB.out)
  clear hs0d
  have HS0e := hide (hs0e.below HB.out)
  clear hs0e
  have HS1a := hide (hs1a.below HB.out)
  clear hs1a
  have HS1b := hide (hs1b.below HB.out)
  clear hs1b
  have HS1c := hide (hs1c.below HB.out)
  clear hs1c
  have HS1d := hide (hs1d.below HB.out)
  clear hs1d
  have HS1e := hide (hs1e.below HB.out)
  clear hs1e
  have WX0 := hide wx0
  have WX1 := hide wx1
  clear wx0 wx1
  have k00 := Joins.cell_of_block HX0.out 0
  simp at k00
  have k01 := Joins.cell_of_block HX0.out 1
  simp at k01
  have k02 := Joins.cell_of_block HX0.out 2
  simp at k02
  have k03 := Joins.cell_of_block HX0.out 3
  simp at k03
  have k04 := Joins.cell_of_block HX0.out 4
  simp at k04
  have k10 := Joins.cell_of_block HX1.out 0
  simp at k10
  have k11 := Joins.cell_of_block HX1.out 1
  simp at k11
  have k12 := Joins.cell_of_block HX1.out 2
  simp at k12
  have k13 := Joins.cell_of_block HX1.out 3
  simp at k13
  have k14 := Joins.cell_of_block HX1.out 4
  simp at k14
  have i00 := k00
  rw [hW] at i00
  have i01 := k01
  rw [hW] at i01
  have i10 := k10
  rw [hW] at i10
  have i11 := k11
  rw [hW] at i11
  have HWW := hide hW
  clear hW k00 k01 k02 k03 k04 k10 k11 k12 k13 k14
  by_cases g0 : scP x0a n0a x0b n0b x1a n1a x1b n1b
  rotate_left
  · have G0 := hide (tru_no g0)
    have HT := hide (tru_no (show ¬ sdP x0a n0a x0b n0b x0c n0c x0d n0d x0e n0e x1a n1a x1b n1b x1c n1c x1d n1d x1e n1e from fun h => g0 h.1))
    clear g0
    go_enter Try.func75, Try.ntmps75
    go_wp2_with fail
    rw [← HWW.out]
    clear i00 i01 i10 i11
    refine (implSameSc_any A0a n0a c0a x0a A0b n0b c0b x0b A1a n1a c1a x1a A1b n1b c1b x1b W hm0a hm0b hm1a hm1b HS0a.out HS0b.out HS1a.out HS1b.out).mono ?_
    rw [G0.out]
    rintro e w1 ⟨rfl, hb⟩
    have HB1 := hide (HB.out.trans (hb.mono HB.out.size))
    have HY0 := hide (blk_below hb (by omega) HX0.out)
    have HY1 := hide (blk_below hb (by omega) HX1.out)
    have HR0c := hide (HS0c.out.below hb)
    have HR0d := hide (HS0d.out.below hb)
    have HR0e := hide (HS0e.out.below hb)
    have HR1c := hide (HS1c.out.below hb)
    have HR1d := hide (HS1d.out.below hb)
    have HR1e := hide (HS1e.out.below hb)
    clear hb
    have k02 := Joins.cell_of_block HY0.out 2
    simp at k02
    have k03 := Joins.cell_of_block HY0.out 3
    simp at k03
    have k04 := Joins.cell_of_block HY0.out 4
    simp at k04
    have k12 := Joins.cell_of_block HY1.out 2
    simp at k12
    have k13 := Joins.cell_of_block HY1.out 3
    simp at k13
    have k14 := Joins.cell_of_block HY1.out 4
    simp at k14
    go_wp2
    go_ret
    exact ⟨retb HT.out.symm, by first | exact HB1.out | exact bel_qs HB1.out _ | exact bel_qs (bel_qs HB1.out _) _ | exact bel_qs (bel_qs (bel_qs HB1.out _) _) _⟩
  have G0 := hide (tru_yes g0)
  by_cases g1 : listEq x0c x1c n0c n1c
  rotate_left
  · have G1 := hide (tru_no g1)
    have HT := hide (tru_no (show ¬ sdP x0a n0a x0b n0b x0c n0c x0d n0d x0e n0e x1a n1a x1b n1b x1c n1c x1d n1d x1e n1e from fun h => g1 h.2.1))
    clear g1
    go_enter Try.func75, Try.ntmps75
    go_wp2_with fail
    rw [← HWW.out]
    clear i00 i01 i10 i11
    refine (implSameSc_any A0a n0a c0a x0a A0b n0b c0b x0b A1a n1a c1a x1a A1b n1b c1b x1b W hm0a hm0b hm1a hm1b HS0a.out HS0b.out HS1a.out HS1b.out).mono ?_
    rw [G0.out]
    rintro e w1 ⟨rfl, hb⟩
    have HB1 := hide (HB.out.trans (hb.mono HB.out.size))
    have HY0 := hide (blk_below hb (by omega) HX0.out)
    have HY1 := hide (blk_below hb (by omega) HX1.out)
    have HR0c := hide (HS0c.out.below hb)
    have HR0d := hide (HS0d.out.below hb)
    have HR0e := hide (HS0e.out.below hb)
    have HR1c := hide (HS1c.out.below hb)
    have HR1d := hide (HS1d.out.below hb)
    have HR1e := hide (HS1e.out.below hb)
    clear hb
    have k02 := Joins.cell_of_block HY0.out 2
    simp at k02
    have k03 := Joins.cell_of_block HY0.out 3
    simp at k03
    have k04 := Joins.cell_of_block HY0.out 4
    simp at k04
    have k12 := Joins.cell_of_block HY1.out 2
    simp at k12
    have k13 := Joins.cell_of_block HY1.out 3
    simp at k13
    have k14 := Joins.cell_of_block HY1.out 4
    simp at k14
    go_wp2_with fail
    refine (implSameL_any A0c n0c c0c x0c A1c n1c c1c x1c _ hm0c hm1c HR0c.out HR1c.out).mono ?_
    rw [show tru (eqLs x0c n0c x1c n1c) = tru (listEq x0c x1c n0c n1c) from rfl, G1.out]
    rintro e w' ⟨rfl, q1, rfl⟩
    go_wp2
    go_ret
    exact ⟨retb HT.out.symm, by first | exact HB1.out | exact bel_qs HB1.out _ | exact bel_qs (bel_qs HB1.out _) _ | exact bel_qs (bel_qs (bel_qs HB1.out _) _) _⟩
  have G1 := hide (tru_yes g1)
  by_cases g2 : listEq x0d x1d n0d n1d
  rotate_left
  · have G2 := hide (tru_no g2)
    have HT := hide (tru_no (show ¬ sdP x0a n0a x0b n0b x0c n0c x0d n0d x0e n0e x1a n1a x1b n1b x1c n1c x1d n1d x1e n1e from fun h => g2 h.2.2.1))
    clear g2
    go_enter Try.func75, Try.ntmps75
    go_wp2_with fail
    rw [← HWW.out]
    clear i00 i01 i10 i11
    refine (implSameSc_any A0a n0a c0a x0a A0b n0b c0b x0b A1a n1a c1a x1a A1b n1b c1b x1b W hm0a hm0b hm1a hm1b HS0a.out HS0b.out HS1a.out HS1b.out).mono ?_
    rw [G0.out]
    rintro e w1 ⟨rfl, hb⟩
    have HB1 := hide (HB.out.trans (hb.mono HB.out.size))
    have HY0 := hide (blk_below hb (by omega) HX0.out)
    have HY1 := hide (blk_below hb (by omega) HX1.out)
    have HR0c := hide (HS0c.out.below hb)
    have HR0d := hide (HS0d.out.below hb)
    have HR0e := hide (HS0e.out.below hb)
    have HR1c := hide (HS1c.out.below hb)
    have HR1d := hide (HS1d.out.below hb)
    have HR1e := hide (HS1e.out.below hb)
    clear hb
    have k02 := Joins.cell_of_block HY0.out 2
    simp at k02
    have k03 := Joins.cell_of_block HY0.out 3
    simp at k03
    have k04 := Joins.cell_of_block HY0.out 4
    simp at k04
    have k12 := Joins.cell_of_block HY1.out 2
    simp at k12
    have k13 := Joins.cell_of_block HY1.out 3
    simp at k13
    have k14 := Joins.cell_of_block HY1.out 4
    simp at k14
    go_wp2_with fail
    refine (implSameL_any A0c n0c c0c x0c A1c n1c c1c x1c _ hm0c hm1c HR0c.out HR1c.out).mono ?_
    rw [show tru (eqLs x0c n0c x1c n1c) = tru (listEq x0c x1c n0c n1c) from rfl, G1.out]
    rintro e w' ⟨rfl, q1, rfl⟩
    go_wp2_with fail
    refine (implSameL_any A0d n0d c0d x0d A1d n1d c1d x1d _ hm0d hm1d (show SL (World.drewN w1 _) _ _ _ from HR0d.out) (show SL (World.drewN w1 _) _ _ _ from HR1d.out)).mono ?_
    rw [show tru (eqLs x0d n0d x1d n1d) = tru (listEq x0d x1d n0d n1d) from rfl, G2.out]
    rintro e w' ⟨rfl, q2, rfl⟩
    go_wp2
    go_ret
    exact ⟨retb HT.out.symm, by first | exact HB1.out | exact bel_qs HB1.out _ | exact bel_qs (bel_qs HB1.out _) _ | exact bel_qs (bel_qs (bel_qs HB1.out _) _) _⟩
  have G2 := hide (tru_yes g2)
  by_cases g3 : sameP x0e n0e x1e n1e
  rotate_left
  · have G3 := hide (tru_no g3)
    have HT := hide (tru_no (show ¬ sdP x0a n0a x0b n0b x0c n0c x0d n0d x0e n0e x1a n1a x1b n1b x1c n1c x1d n1d x1e n1e from fun h => g3 h.2.2.2))
    clear g3
    go_enter Try.func75, Try.ntmps75
    go_wp2_with fail
    rw [← HWW.out]
    clear i00 i01 i10 i11
    refine (implSameSc_any A0a n0a c0a x0a A0b n0b c0b x0b A1a n1a c1a x1a A1b n1b c1b x1b W hm0a hm0b hm1a hm1b HS0a.out HS0b.out HS1a.out HS1b.out).mono ?_
    rw [G0.out]
    rintro e w1 ⟨rfl, hb⟩
    have HB1 := hide (HB.out.trans (hb.mono HB.out.size))
    have HY0 := hide (blk_below hb (by omega) HX0.out)
    have HY1 := hide (blk_below hb (by omega) HX1.out)
    have HR0c := hide (HS0c.out.below hb)
    have HR0d := hide (HS0d.out.below hb)
    have HR0e := hide (HS0e.out.below hb)
    have HR1c := hide (HS1c.out.below hb)
    have HR1d := hide (HS1d.out.below hb)
    have HR1e := hide (HS1e.out.below hb)
    clear hb
    have k02 := Joins.cell_of_block HY0.out 2
    simp at k02
    have k03 := Joins.cell_of_block HY0.out 3
    simp at k03
    have k04 := Joins.cell_of_block HY0.out 4
    simp at k04
    have k12 := Joins.cell_of_block HY1.out 2
    simp at k12
    have k13 := Joins.cell_of_block HY1.out 3
    simp at k13
    have k14 := Joins.cell_of_block HY1.out 4
    simp at k14
    go_wp2_with fail
    refine (implSameL_any A0c n0c c0c x0c A1c n1c c1c x1c _ hm0c hm1c HR0c.out HR1c.out).mono ?_
    rw [show tru (eqLs x0c n0c x1c n1c) = tru (listEq x0c x1c n0c n1c) from rfl, G1.out]
    rintro e w' ⟨rfl, q1, rfl⟩
    go_wp2_with fail
    refine (implSameL_any A0d n0d c0d x0d A1d n1d c1d x1d _ hm0d hm1d (show SL (World.drewN w1 _) _ _ _ from HR0d.out) (show SL (World.drewN w1 _) _ _ _ from HR1d.out)).mono ?_
    rw [show tru (eqLs x0d n0d x1d n1d) = tru (listEq x0d x1d n0d n1d) from rfl, G2.out]
    rintro e w' ⟨rfl, q2, rfl⟩
    go_wp2_with fail
    refine (equalSame_any A0e n0e c0e x0e A1e n1e c1e x1e _ hm0e (show SL (World.drewN w1 _) _ _ _ from HR0e.out) WX0.out hm1e (show SL (World.drewN w1 _) _ _ _ from HR1e.out) WX1.out).mono ?_
    rw [G3.out]
    rintro e w' ⟨rfl, q3, rfl⟩
    go_wp2
    go_ret
    exact ⟨retb HT.out.symm, by first | exact HB1.out | exact bel_qs HB1.out _ | exact bel_qs (bel_qs HB1.out _) _ | exact bel_qs (bel_qs (bel_qs HB1.out _) _) _⟩
  have G3 := hide (tru_yes g3)
  have HT := hide (tru_yes (show sdP x0a n0a x0b n0b x0c n0c x0d n0d x0e n0e x1a n1a x1b n1b x1c n1c x1d n1d x1e n1e from ⟨g0, g1, g2, g3⟩))
  clear g0 g1 g2 g3
  go_enter Try.func75, Try.ntmps75
  go_wp2_with fail
  rw [← HWW.out]
  clear i00 i01 i10 i11
  refine (implSameSc_any A0a n0a c0a x0a A0b n0b c0b x0b A1a n1a c1a x1a A1b n1b c1b x1b W hm0a hm0b hm1a hm1b HS0a.out HS0b.out HS1a.out HS1b.out).mono ?_
  rw [G0.out]
  rintro e w1 ⟨rfl, hb⟩
  have HB1 := hide (HB.out.trans (hb.mono HB.out.size))
  have HY0 := hide (blk_below hb (by omega) HX0.out)
  have HY1 := hide (blk_below hb (by omega) HX1.out)
  have HR0c := hide (HS0c.out.below hb)
  have HR0d := hide (HS0d.out.below hb)
  have HR0e := hide (HS0e.out.below hb)
  have HR1c := hide (HS1c.out.below hb)
  have HR1d := hide (HS1d.out.below hb)
  have HR1e := hide (HS1e.out.below hb)
  clear hb
  have k02 := Joins.cell_of_block HY0.out 2
  simp at k02
  have k03 := Joins.cell_of_block HY0.out 3
  simp at k03
  have k04 := Joins.cell_of_block HY0.out 4
  simp at k04
  have k12 := Joins.cell_of_block HY1.out 2
  simp at k12
  have k13 := Joins.cell_of_block HY1.out 3
  simp at k13
  have k14 := Joins.cell_of_block HY1.out 4
  simp at k14
  go_wp2_with fail
  refine (implSameL_any A0c n0c c0c x0c A1c n1c c1c x1c _ hm0c hm1c HR0c.out HR1c.out).mono ?_
  rw [show tru (eqLs x0c n0c x1c n1c) = tru (listEq x0c x1c n0c n1c) from rfl, G1.out]
  rintro e w' ⟨rfl, q1, rfl⟩
  go_wp2_with fail
  refine (implSameL_any A0d n0d c0d x0d A1d n1d c1d x1d _ hm0d hm1d (show SL (World.drewN w1 _) _ _ _ from HR0d.out) (show SL (World.drewN w1 _) _ _ _ from HR1d.out)).mono ?_
  rw [show tru (eqLs x0d n0d x1d n1d) = tru (listEq x0d x1d n0d n1d) from rfl, G2.out]
  rintro e w' ⟨rfl, q2, rfl⟩
  go_wp2_with fail
  refine (equalSame_any A0e n0e c0e x0e A1e n1e c1e x1e _ hm0e (show SL (World.drewN w1 _) _ _ _ from HR0e.out) WX0.out hm1e (show SL (World.drewN w1 _) _ _ _ from HR1e.out) WX1.out).mono ?_
  rw [G3.out]
  rintro e w' ⟨rfl, q3, rfl⟩
  go_wp2
  go_ret
  exact ⟨retb HT.out.symm, by first | exact HB1.out | exact bel_qs HB1.out _ | exact bel_qs (bel_qs HB1.out _) _ | exact bel_qs (bel_qs (bel_qs HB1.out _) _) _⟩
end Go.Proofs.Ytbcajjpgpjadaaa
