/- How long it is between two days, interest and penalties, by both. -/
import Derived.Test.YtbcajjpgpjadaaaDa
import Derived.Deep.RegionHeld3
namespace Go.Proofs.Ytbcajjpgpjadaaa
open Go.RowKit Go.Dues
def btwN (k a b : Int) : Int := if k = 2 then d360 a b else b - a
def btwM (k : Int) : Int := if k = 0 then 365 else 360
def timeP (k a b : Int) : Prop := (0 ≤ k ∧ k ≤ 2) ∧ dayP a ∧ dayP b ∧ a ≤ b
theorem btwN_bd {k a b : Int} (h : timeP k a b) : 0 ≤ btwN k a b ∧ btwN k a b ≤ 36524 := by
  have := d360_bd h.2.1 h.2.2.1 h.2.2.2
  have := h.2.1.1; have := h.2.2.1.2; have := h.2.2.2
  unfold btwN; split <;> omega
theorem btwM_bd (k : Int) : 360 ≤ btwM k ∧ btwM k ≤ 365 := by unfold btwM; split <;> omega
theorem btwN_2 (a b : Int) : btwN 2 a b = d360 a b := by unfold btwN; rw [if_pos rfl]
theorem btwN_0 (a b : Int) : btwN 0 a b = b - a := by unfold btwN; rw [if_neg (by omega)]
theorem btwN_1 (a b : Int) : btwN 1 a b = b - a := by unfold btwN; rw [if_neg (by omega)]
theorem btwM_0 : (365 : Int) = btwM 0 := by unfold btwM; rw [if_pos rfl]
theorem btwM_1 : (360 : Int) = btwM 1 := by unfold btwM; rw [if_neg (by omega)]
theorem btwM_2 : (360 : Int) = btwM 2 := by unfold btwM; rw [if_neg (by omega)]
theorem ret_2 {a b a' b' : Int} (h : a = a') (h2 : b = b') : Ending.returned (.tuple #[.int .i64 a, .int .i64 b]) = .returned (.tuple #[.int .i64 a', .int .i64 b']) := by rw [h, h2]
theorem ret3_no {p : Prop} {a b : Int} (h : ¬ p) : Ending.returned (.tuple #[.int .i64 0, .int .i64 0, .bool false]) = .returned (.tuple #[.int .i64 (ifV p a), .int .i64 (ifV p b), .bool (tru p)]) := by rw [ifV_no h, ifV_no h, tru_no h]
theorem ret3_yes {p : Prop} {a b a' b' : Int} (h : p) (h1 : a = a') (h2 : b = b') : Ending.returned (.tuple #[.int .i64 a, .int .i64 b, .bool true]) = .returned (.tuple #[.int .i64 (ifV p a'), .int .i64 (ifV p b'), .bool (tru p)]) := by rw [ifV_yes h, ifV_yes h, tru_yes h, h1, h2]
theorem specMin_any (a b : Int) (w : World) : Calls Try.prog 113 #[.int .i64 a, .int .i64 b] w fun e w' => e = .returned (.int .i64 (min a b)) ∧ w = w' := by
  by_cases h : a < b
  · have HB := hide (show min a b = a by omega)
    go_enter Try.func113, Try.ntmps113
    go_wp2
    go_ret
    exact ⟨reti HB.out.symm, rfl⟩
  · have HB := hide (show min a b = b by omega)
    go_enter Try.func113, Try.ntmps113
    go_wp2
    go_ret
    exact ⟨reti HB.out.symm, rfl⟩
theorem specMax_any (a b : Int) (w : World) : Calls Try.prog 112 #[.int .i64 a, .int .i64 b] w fun e w' => e = .returned (.int .i64 (max a b)) ∧ w = w' := by
  by_cases h : b < a
  · have HB := hide (show max a b = a by omega)
    go_enter Try.func112, Try.ntmps112
    go_wp2
    go_ret
    exact ⟨reti HB.out.symm, rfl⟩
  · have HB := hide (show max a b = b by omega)
    go_enter Try.func112, Try.ntmps112
    go_wp2
    go_ret
    exact ⟨reti HB.out.symm, rfl⟩
set_option maxHeartbeats 2000000 in
theorem specBetween_any (k a b : Int) (w : World) (h : timeP k a b) :
    Calls Try.prog 102 #[.int .i64 k, .int .i64 a, .int .i64 b] w fun e w' => e = .returned (.tuple #[.int .i64 (btwN k a b), .int .i64 (btwM k)]) ∧ w = w' := by
  obtain ⟨hk, ha, hb, hab⟩ := h
  have a0 := ha.1
  have b1 := hb.2
  obtain ⟨y0, y1⟩ := dY_bd ha
  obtain ⟨z0, z1⟩ := dY_bd hb
  obtain ⟨m0, m1⟩ := dM_bd ha
  obtain ⟨n0, n1⟩ := dM_bd hb
  obtain ⟨p0, p1⟩ := dD_31 ha
  obtain ⟨q0, q1⟩ := dD_31 hb
  have HDA := hide ha
  have HDB := hide hb
  clear ha hb
  have k3 : k = 0 ∨ k = 1 ∨ k = 2 := by omega
  clear hk
  rcases k3 with rfl | rfl | rfl
  · have HV := hide (btwN_0 a b)
    go_enter Try.func102, Try.ntmps102
    go_wp2
    go_ret2
    exact ⟨ret_2 HV.out.symm btwM_0, rfl⟩
  · have HV := hide (btwN_1 a b)
    go_enter Try.func102, Try.ntmps102
    go_wp2
    go_ret2
    exact ⟨ret_2 HV.out.symm btwM_1, rfl⟩
  · have HV := hide (btwN_2 a b)
    have HE := hide (show 360 * (dY b - dY a) + 30 * (dM b - dM a) + min 30 (dD b) - min 30 (dD a) = d360 a b by unfold d360 monB; omega)
    have r0 : 0 ≤ min 30 (dD a) ∧ min 30 (dD a) ≤ 30 := by omega
    have s0 : 0 ≤ min 30 (dD b) ∧ min 30 (dD b) ≤ 30 := by omega
    obtain ⟨r0, r1⟩ := r0
    obtain ⟨s0, s1⟩ := s0
    go_enter Try.func102, Try.ntmps102
    go_wp2_with fail
    refine (specDate_any a _ HDA.out).mono ?_
    rintro e w' ⟨rfl, rfl⟩
    go_wp2_with fail
    refine (specDate_any b _ HDB.out).mono ?_
    rintro e w' ⟨rfl, rfl⟩
    go_wp2_with (first | (go_at_call 113; refine (specMin_any _ _ _).mono ?_; rintro e w' ⟨rfl, rfl⟩))
    go_ret2
    exact ⟨ret_2 (HE.out.trans HV.out.symm) btwM_2, rfl⟩
def timeB (k a b : Int) : Bool := inB k 0 2 && (inB a 0 36524 && (inB b 0 36524 && decide (a ≤ b)))
theorem timeB_iff {k a b : Int} : timeB k a b = true ↔ timeP k a b := by
  unfold timeB timeP dayP
  rw [Bool.and_eq_true, Bool.and_eq_true, Bool.and_eq_true, inB_iff, inB_iff, inB_iff, decide_eq_true_iff]
theorem specTime_any (k a b : Int) (w : World) :
    Calls Try.prog 101 #[.int .i64 k, .int .i64 a, .int .i64 b] w fun e w' => e = .returned (.bool (timeB k a b)) ∧ w = w' := by
  cases g0 : inB k 0 2
  · have HB := hide (show timeB k a b = false by unfold timeB; rw [g0]; rfl)
    go_enter Try.func101, Try.ntmps101
    go_wp2_with (first | (go_at_call 106; refine (specIn_any _ _ _ _).mono ?_; rintro e w' ⟨rfl, rfl⟩) | go_in)
    go_ret
    exact ⟨retb HB.out.symm, rfl⟩
  cases g1 : inB a 0 36524
  · have HB := hide (show timeB k a b = false by unfold timeB; rw [g0, g1]; rfl)
    go_enter Try.func101, Try.ntmps101
    go_wp2_with (first | (go_at_call 106; refine (specIn_any _ _ _ _).mono ?_; rintro e w' ⟨rfl, rfl⟩) | go_in)
    go_ret
    exact ⟨retb HB.out.symm, rfl⟩
  cases g2 : inB b 0 36524
  · have HB := hide (show timeB k a b = false by unfold timeB; rw [g0, g1, g2]; rfl)
    go_enter Try.func101, Try.ntmps101
    go_wp2_with (first | (go_at_call 106; refine (specIn_any _ _ _ _).mono ?_; rintro e w' ⟨rfl, rfl⟩) | go_in)
    go_ret
    exact ⟨retb HB.out.symm, rfl⟩
  by_cases g3 : a ≤ b
  · have HB := hide (show timeB k a b = true by unfold timeB; rw [g0, g1, g2, decide_eq_true g3]; rfl)
    go_enter Try.func101, Try.ntmps101
    go_wp2_with (first | (go_at_call 106; refine (specIn_any _ _ _ _).mono ?_; rintro e w' ⟨rfl, rfl⟩) | go_in)
    go_ret
    exact ⟨retb HB.out.symm, rfl⟩
  · have HB := hide (show timeB k a b = false by unfold timeB; rw [g0, g1, g2, decide_eq_false g3]; rfl)
    go_enter Try.func101, Try.ntmps101
    go_wp2_with (first | (go_at_call 106; refine (specIn_any _ _ _ _).mono ?_; rintro e w' ⟨rfl, rfl⟩) | go_in)
    go_ret
    exact ⟨retb (by rw [decide_eq_false (by omega)]; exact HB.out.symm), rfl⟩
set_option maxHeartbeats 2000000 in
theorem specDaysBetween_any (k a b : Int) (w : World) :
    Calls Try.prog 29 #[.int .i64 k, .int .i64 a, .int .i64 b] w fun e w' => e = .returned (.tuple #[.int .i64 (ifV (timeP k a b) (btwN k a b)), .int .i64 (ifV (timeP k a b) (btwM k)), .bool (tru (timeP k a b))]) ∧ Below w.heap.size w w' := by
  cases g : timeB k a b
  · have HH := hide (show ¬ timeP k a b from fun h => by rw [timeB_iff.2 h] at g; cases g)
    go_enter Try.func29, Try.ntmps29
    go_wp2_with (first | (go_at_call 101; refine (specTime_any _ _ _ _ ).mono ?_; rintro e w' ⟨rfl, rfl⟩))
    go_ret3
    exact ⟨ret3_no HH.out, Below.refl _ _⟩
  · have HH := hide (timeB_iff.1 g)
    go_enter Try.func29, Try.ntmps29
    go_wp2_with (first | (go_at_call 101; refine (specTime_any _ _ _ _ ).mono ?_; rintro e w' ⟨rfl, rfl⟩) | (go_at_call 102; refine (specBetween_any _ _ _ _ HH.out).mono ?_; rintro e w' ⟨rfl, rfl⟩))
    go_ret3
    exact ⟨ret3_yes HH.out rfl rfl, Below.refl _ _⟩
set_option maxHeartbeats 2000000 in
theorem implMonB_any (a b : Int) (w : World) (ha : dayP a) (hb : dayP b) :
    Calls Try.prog 189 #[.agg #[.int .i64 (dY a), .int .i64 (dM a), .int .i64 (dD a)], .agg #[.int .i64 (dY b), .int .i64 (dM b), .int .i64 (dD b)]] w fun e w' => e = .returned (.int .i64 (monB a b)) ∧ Below w.heap.size w w' := by
  obtain ⟨y0, y1⟩ := dY_bd ha
  obtain ⟨z0, z1⟩ := dY_bd hb
  obtain ⟨m0, m1⟩ := dM_bd ha
  obtain ⟨n0, n1⟩ := dM_bd hb
  obtain ⟨p0, p1⟩ := dD_31 ha
  obtain ⟨q0, q1⟩ := dD_31 hb
  have HDA := hide ha
  have HDB := hide hb
  clear ha hb
  obtain ⟨W, hW⟩ : ∃ u, u = (w.alloc (.cells #[.int .i64 (dY a), .int .i64 (dM a), .int .i64 (dD a)] 105)).alloc (.cells #[.int .i64 (dY b), .int .i64 (dM b), .int .i64 (dD b)] 105) := ⟨_, rfl⟩
  have HBB : Hid (Below w.heap.size w W) := by rw [hW]; exact ((Below.refl w.heap.size w).alloc (Nat.le_refl _) _).alloc (by simp) _
  have HPA : Hid (W.heap[w.heap.size]? = some (.cells #[.int .i64 (dY a), .int .i64 (dM a), .int .i64 (dD a)] 105)) := by rw [hW]; exact (blocks2 w _ _).1
  have HPB : Hid (W.heap[w.heap.size + 1]? = some (.cells #[.int .i64 (dY b), .int .i64 (dM b), .int .i64 (dD b)] 105)) := by rw [hW]; exact (blocks2 w _ _).2
  have HWW := hide hW
  clear hW
  have HE := hide (show 12 * (dY b - dY a) + dM b - dM a = monB a b from rfl)
  have a0 := Joins.cell_of_block HPA.out 0
  have a1 := Joins.cell_of_block HPA.out 1
  have a2 := Joins.cell_of_block HPA.out 2
  simp at a0 a1 a2
  have b0 := Joins.cell_of_block HPB.out 0
  have b1 := Joins.cell_of_block HPB.out 1
  have b2 := Joins.cell_of_block HPB.out 2
  simp at b0 b1 b2
  rw [HWW.out] at a0 a1 a2 b0 b1 b2
  go_enter Try.func189, Try.ntmps189
  go_wp2
  go_ret
  exact ⟨reti HE.out, by rw [← HWW.out]; exact HBB.out⟩
set_option maxHeartbeats 4000000 in
theorem impl360_any (a b : Int) (w : World) (ha : dayP a) (hb : dayP b) (hab : a ≤ b) :
    Calls Try.prog 100 #[.agg #[.int .i64 (dY a), .int .i64 (dM a), .int .i64 (dD a)], .agg #[.int .i64 (dY b), .int .i64 (dM b), .int .i64 (dD b)]] w fun e w' => e = .returned (.int .i64 (d360 a b)) ∧ Below w.heap.size w w' := by
  obtain ⟨mb0, mb1⟩ := monB_bd ha hb hab
  obtain ⟨y0, y1⟩ := dY_bd ha
  obtain ⟨z0, z1⟩ := dY_bd hb
  obtain ⟨m0, m1⟩ := dM_bd ha
  obtain ⟨n0, n1⟩ := dM_bd hb
  obtain ⟨p0, p1⟩ := dD_31 ha
  obtain ⟨q0, q1⟩ := dD_31 hb
  have HDA := hide ha
  have HDB := hide hb
  clear ha hb
  obtain ⟨W, hW⟩ : ∃ u, u = (w.alloc (.cells #[.int .i64 (dY a), .int .i64 (dM a), .int .i64 (dD a)] 105)).alloc (.cells #[.int .i64 (dY b), .int .i64 (dM b), .int .i64 (dD b)] 105) := ⟨_, rfl⟩
  have HBB : Hid (Below w.heap.size w W) := by rw [hW]; exact ((Below.refl w.heap.size w).alloc (Nat.le_refl _) _).alloc (by simp) _
  have HPA : Hid (W.heap[w.heap.size]? = some (.cells #[.int .i64 (dY a), .int .i64 (dM a), .int .i64 (dD a)] 105)) := by rw [hW]; exact (blocks2 w _ _).1
  have HPB : Hid (W.heap[w.heap.size + 1]? = some (.cells #[.int .i64 (dY b), .int .i64 (dM b), .int .i64 (dD b)] 105)) := by rw [hW]; exact (blocks2 w _ _).2
  have HWW := hide hW
  clear hW
  have HZ := hide (show w.heap.size < W.heap.size ∧ w.heap.size + 1 < W.heap.size by rw [HWW.out]; simp; omega)
  obtain ⟨M, hM⟩ : ∃ M : Int, monB a b = M := ⟨_, rfl⟩
  obtain ⟨U, hU⟩ : ∃ U : Int, (if dD b < 30 then dD b else 30) = U := ⟨_, rfl⟩
  obtain ⟨V, hV⟩ : ∃ V : Int, (if dD a < 30 then dD a else 30) = V := ⟨_, rfl⟩
  have u0 : 1 ≤ U ∧ U ≤ 30 ∧ U = min 30 (dD b) := by rw [← hU]; split <;> omega
  have v0 : 1 ≤ V ∧ V ≤ 30 ∧ V = min 30 (dD a) := by rw [← hV]; split <;> omega
  have HE := hide (show 30 * M + U - V = d360 a b by unfold d360; rw [hM]; omega)
  have HM := hide hM
  rw [hM] at mb0 mb1
  have E1 : IntKind.i64.wrap (30 * M) = 30 * M := Go.IntWalk.i64_in _ (by omega)
  have E2 : IntKind.i64.wrap (30 * M + U) = 30 * M + U := Go.IntWalk.i64_in _ (by omega)
  have E3 : IntKind.i64.wrap (30 * M + U - V) = 30 * M + U - V := Go.IntWalk.i64_in _ (by omega)
  clear u0 v0 hM mb0 mb1
  have a0 := Joins.cell_of_block HPA.out 0
  have a1 := Joins.cell_of_block HPA.out 1
  have a2 := Joins.cell_of_block HPA.out 2
  simp at a0 a1 a2
  have b0 := Joins.cell_of_block HPB.out 0
  have b1 := Joins.cell_of_block HPB.out 1
  have b2 := Joins.cell_of_block HPB.out 2
  simp at b0 b1 b2
  go_enter Try.func100, Try.ntmps100
  go_wp2_with fail
  rw [← HWW.out]
  clear HWW
  go_region_held3 (fun w' => w'.cell? ⟨w.heap.size, 0, none⟩ = some (.int .i64 (dY a)) ∧ w'.cell? ⟨w.heap.size, 1, none⟩ = some (.int .i64 (dM a)) ∧ w'.cell? ⟨w.heap.size, 2, none⟩ = some (.int .i64 (dD a)) ∧ w'.cell? ⟨w.heap.size + 1, 0, none⟩ = some (.int .i64 (dY b)) ∧ w'.cell? ⟨w.heap.size + 1, 1, none⟩ = some (.int .i64 (dM b)) ∧ w'.cell? ⟨w.heap.size + 1, 2, none⟩ = some (.int .i64 (dD b))) ((first | exact ⟨a0, a1, a2, b0, b1, b2⟩ | exact ⟨c0, c1, c2, e0, e1, e2⟩)) (first
    | ((go_at_call 189; refine (implMonB_any a b _ HDA.out HDB.out).mono ?_; rw [HM.out]; rintro e w1 ⟨rfl, hb⟩; replace hb : Below W.heap.size W w1 := ⟨hb.os, hb.tape, hb.output, hb.size, hb.block⟩; have HB1 := hide hb; have HPA1 := hide (blk_below hb HZ.out.1 HPA.out); have HPB1 := hide (blk_below hb HZ.out.2 HPB.out); clear hb; have c0 := Joins.cell_of_block HPA1.out 0; have c1 := Joins.cell_of_block HPA1.out 1; have c2 := Joins.cell_of_block HPA1.out 2; have e0 := Joins.cell_of_block HPB1.out 0; have e1 := Joins.cell_of_block HPB1.out 1; have e2 := Joins.cell_of_block HPB1.out 2; simp at c0 c1 c2 e0 e1 e2; simp only [])))
  all_goals
    go_wp2
    go_ret
    exact ⟨reti HE.out, HBB.out.trans (HB1.out.mono HBB.out.size)⟩
def spanB (a b : Int) : Bool := inB a 0 36524 && (inB b 0 36524 && decide (a ≤ b))
theorem spanB_iff {a b : Int} : spanB a b = true ↔ dayP a ∧ dayP b ∧ a ≤ b := by
  unfold spanB dayP
  rw [Bool.and_eq_true, Bool.and_eq_true, inB_iff, inB_iff, decide_eq_true_iff]
theorem implSpan_any (a b : Int) (w : World) :
    Calls Try.prog 99 #[.int .i64 a, .int .i64 b] w fun e w' => e = .returned (.bool (spanB a b)) ∧ w = w' := by
  cases g1 : inB a 0 36524
  · have HB := hide (show spanB a b = false by unfold spanB; rw [g1]; rfl)
    go_enter Try.func99, Try.ntmps99
    go_wp2_with (first | (go_at_call 96; refine (implWithin_any _ _ _ _).mono ?_; rintro e w' ⟨rfl, rfl⟩) | go_in)
    go_ret
    exact ⟨retb HB.out.symm, rfl⟩
  cases g2 : inB b 0 36524
  · have HB := hide (show spanB a b = false by unfold spanB; rw [g1, g2]; rfl)
    go_enter Try.func99, Try.ntmps99
    go_wp2_with (first | (go_at_call 96; refine (implWithin_any _ _ _ _).mono ?_; rintro e w' ⟨rfl, rfl⟩) | go_in)
    go_ret
    exact ⟨retb HB.out.symm, rfl⟩
  by_cases g3 : a ≤ b
  · have HB := hide (show spanB a b = true by unfold spanB; rw [g1, g2, decide_eq_true g3]; rfl)
    go_enter Try.func99, Try.ntmps99
    go_wp2_with (first | (go_at_call 96; refine (implWithin_any _ _ _ _).mono ?_; rintro e w' ⟨rfl, rfl⟩) | go_in)
    go_ret
    exact ⟨retb HB.out.symm, rfl⟩
  · have HB := hide (show spanB a b = false by unfold spanB; rw [g1, g2, decide_eq_false g3]; rfl)
    go_enter Try.func99, Try.ntmps99
    go_wp2_with (first | (go_at_call 96; refine (implWithin_any _ _ _ _).mono ?_; rintro e w' ⟨rfl, rfl⟩) | go_in)
    go_ret
    exact ⟨retb (by rw [decide_eq_false (by omega)]; exact HB.out.symm), rfl⟩
set_option maxHeartbeats 4000000 in
theorem implDaysBetween_any (k a b : Int) (w : World) :
    Calls Try.prog 28 #[.int .i64 k, .int .i64 a, .int .i64 b] w fun e w' => e = .returned (.tuple #[.int .i64 (ifV (timeP k a b) (btwN k a b)), .int .i64 (ifV (timeP k a b) (btwM k)), .bool (tru (timeP k a b))]) ∧ Below w.heap.size w w' := by
  cases g : spanB a b
  · have HH := hide (show ¬ timeP k a b from fun h => by rw [spanB_iff.2 h.2] at g; cases g)
    go_enter Try.func28, Try.ntmps28
    go_wp2_with (first | (go_at_call 99; refine (implSpan_any _ _ _ ).mono ?_; rintro e w' ⟨rfl, rfl⟩))
    go_ret3
    exact ⟨ret3_no HH.out, Below.refl _ _⟩
  have HS := hide (spanB_iff.1 g)
  have ha := HS.out.1
  have hb := HS.out.2.1
  have HAB := hide HS.out.2.2
  have hab := HAB.out
  have a0 := ha.1
  have b1 := hb.2
  by_cases k0 : k = 0
  · subst k0
    have HH := hide (show timeP 0 a b from ⟨by omega, HS.out⟩)
    have HV := hide (btwN_0 a b)
    go_enter Try.func28, Try.ntmps28
    go_wp2_with (first | (go_at_call 99; refine (implSpan_any _ _ _ ).mono ?_; rintro e w' ⟨rfl, rfl⟩))
    go_ret3
    exact ⟨ret3_yes HH.out HV.out.symm btwM_0, Below.refl _ _⟩
  by_cases k1 : k = 1
  · subst k1
    have HH := hide (show timeP 1 a b from ⟨by omega, HS.out⟩)
    have HV := hide (btwN_1 a b)
    go_enter Try.func28, Try.ntmps28
    go_wp2_with (first | (go_at_call 99; refine (implSpan_any _ _ _ ).mono ?_; rintro e w' ⟨rfl, rfl⟩))
    go_ret3
    exact ⟨ret3_yes HH.out HV.out.symm btwM_1, Below.refl _ _⟩
  by_cases k2 : k = 2
  · subst k2
    have HH := hide (show timeP 2 a b from ⟨by omega, HS.out⟩)
    have HV := hide (btwN_2 a b)
    go_enter Try.func28, Try.ntmps28
    go_wp2_with (first | (go_at_call 99; refine (implSpan_any _ _ _ ).mono ?_; rintro e w' ⟨rfl, rfl⟩) | (go_at_call 95; fail))
    refine (implDate_any a _ HS.out.1).mono ?_
    rintro e w1 ⟨rfl, hb1⟩
    have HB1 := hide hb1
    clear hb1
    go_wp2_with fail
    refine (implDate_any b _ HS.out.2.1).mono ?_
    rintro e w2 ⟨rfl, hb2⟩
    have HB2 := hide (HB1.out.trans (hb2.mono HB1.out.size))
    clear hb2
    go_wp2_with fail
    refine (impl360_any a b _ HS.out.1 HS.out.2.1 HAB.out).mono ?_
    rintro e w3 ⟨rfl, hb3⟩
    have HB3 := hide (HB2.out.trans (hb3.mono HB2.out.size))
    clear hb3
    go_wp2
    go_ret3
    exact ⟨ret3_yes HH.out HV.out.symm btwM_2, HB3.out⟩
  · have HH := hide (show ¬ timeP k a b from fun h => by have := h.1; omega)
    have e0 : (k == 0) = false := by rw [beq_eq_false_iff_ne]; exact k0
    have e1 : (k == 1) = false := by rw [beq_eq_false_iff_ne]; exact k1
    have e2 : (k == 2) = false := by rw [beq_eq_false_iff_ne]; exact k2
    go_enter Try.func28, Try.ntmps28
    go_wp2_with (first | (go_at_call 99; refine (implSpan_any _ _ _ ).mono ?_; rintro e w' ⟨rfl, rfl⟩))
    go_ret3
    exact ⟨ret3_no HH.out, Below.refl _ _⟩
end Go.Proofs.Ytbcajjpgpjadaaa
