/- AmendRule, by both. -/
import Derived.Test.YtjndhcdanpnniaaHr9
namespace Go.Proofs.Ytjndhcdanpnniaa
open Go.RowKit Go.Dues
def amV (V : Nat → RV) (n : Nat) (i day : Int) (r : RV) : Nat → RV := fun j => if j = n then r.put 2 day else repV V i day j
def amP (V : Nat → RV) (n : Nat) (i day : Int) (r : RV) : Prop := repP V n i day ∧ rulesP (amV V n i day r) (n + 1)
theorem amV_lt {V : Nat → RV} {n : Nat} {i day : Int} {r : RV} (j : Nat) (h : j < n) : repV V i day j = amV V n i day r j := by unfold amV; rw [if_neg (by omega)]
theorem amV_at {V : Nat → RV} {n : Nat} {i day : Int} {r : RV} : amV V n i day r n = r.put 2 day := if_pos rfl
theorem am_len {V : Nat → RV} {n : Nat} {i day : Int} {r : RV} (hv : ∀ j, j < n → (V j).n ≤ 1048576) (hr : r.n ≤ 1048576) : ∀ j, j < n + 1 → (amV V n i day r j).n ≤ maxLen := by
  intro j hj
  by_cases e : j = n
  · subst e; rw [amV_at]; show r.n ≤ _; unfold maxLen; omega
  · rw [← amV_lt j (by omega)]
    unfold repV; rw [putR_n]
    have := hv j (by omega)
    unfold maxLen; omega
theorem am_ok {V : Nat → RV} {n : Nat} {i day : Int} {r : RV} (h : amP V n i day r) : n + 1 ≤ 1000 ∧ ∀ j, j < n + 1 → (amV V n i day r j).n ≤ 1000 :=
  ⟨by have := h.2.1; omega, fun j hj => by have := (h.2.2 j hj).2.1; omega⟩
theorem put2_row (r : RV) (day : Int) (I : Option Addr) (c : Nat) : (r.put 2 day).row I c = [.int .i64 r.h, .slice I r.n c, .int .i64 day, .int .i64 r.t, .int .i64 r.k] := rfl
theorem markRule_any (r : RV) (A : Option Addr) (c lo hi : Nat) (k : Int) (w : World) (hn : r.n ≤ 1048576) (hk0 : 0 ≤ k) (hk1 : k ≤ 100000000) (ho : OW w lo hi A r.n (fun j => .int .i64 (r.x j))) :
    Calls Try.prog 46 #[.agg #[.int .i64 r.h, .slice A r.n c, .int .i64 r.f, .int .i64 r.t, .int .i64 r.k], .int .i64 k] w fun e w' => e = .returned (.int .i64 (k + r.n)) ∧ Marked lo hi w w' := by
  have HO := hide (ho.below ((Below.refl w.heap.size w).alloc (Nat.le_refl _) (.cells #[.int .i64 r.h, .slice A r.n c, .int .i64 r.f, .int .i64 r.t, .int .i64 r.k] 61)))
  clear ho
  go_enter Try.func46, Try.ntmps46
  go_wp2_with fail
  refine (markIs_any A r.n c lo hi r.x k _ hn hk0 (by omega) HO.out).mono ?_
  rintro e w1 ⟨rfl, _, hw⟩
  have HW := hide (marked_alloc hw)
  clear hw
  go_wp2
  go_ret
  exact ⟨rfl, HW.out⟩
set_option maxRecDepth 100000 in
set_option maxHeartbeats 8000000 in
theorem implAmend_any (A : Option Addr) (n c : Nat) (V : Nat → RV) (i day : Int) (r : RV) (I : Option Addr) (ci : Nat) (w : World) (hn : n ≤ 1048576) (hv : ∀ i, i < n → (V i).n ≤ 1048576) (hs : RS w A n V) (hd : -9223372036854775808 ≤ day ∧ day ≤ 9223372036854775807) (hr : r.n ≤ 1048576) (hI : SL w I r.n (fun j => .int .i64 (r.x j))) :
    Calls Try.prog 44 #[.slice A n c, .int .i64 i, .int .i64 day, .agg #[.int .i64 r.h, .slice I r.n ci, .int .i64 r.f, .int .i64 r.t, .int .i64 r.k]] w fun e w' => GaveMR w w' e (amP V n i day r) 61 (n + 1) (amV V n i day r) := by
  obtain ⟨j0, hj, jz0, jz1, jz2⟩ := info_parts Try.infoRule
  obtain ⟨W, hW⟩ : ∃ u, u = w.alloc (.cells #[.int .i64 r.h, .slice I r.n ci, .int .i64 r.f, .int .i64 r.t, .int .i64 r.k] 61) := ⟨_, rfl⟩
  have HBW := hide (show Below w.heap.size w W by rw [hW]; exact (Below.refl _ _).alloc (Nat.le_refl _) _)
  have zW : w.heap.size + 1 ≤ W.heap.size := by rw [hW]; simp
  have HBX := hide (show W.heap[w.heap.size]? = some (.cells #[.int .i64 r.h, .slice I r.n ci, .int .i64 r.f, .int .i64 r.t, .int .i64 r.k] 61 (0, 0)) by rw [hW]; exact blocks1 w _)
  have HR := hide (implRepeal_any A n c V i day W hn hv (hs.below HBW.out) hd)
  have HI := hide (hI.below HBW.out)
  have HAL := hide (am_len (i := i) (day := day) (r := r) hv hr)
  have HWW := hide hW
  clear hs hv hI hW
  by_cases hp : repP V n i day
  rotate_left
  · have HH := hide (show ¬ amP V n i day r from fun h => hp h.1)
    have HNP := hide hp
    clear hp
    go_enter Try.func44, Try.ntmps44
    go_wp2_with fail
    rw [← HWW.out]
    clear HWW
    refine HR.out.mono ?_
    rintro e w1 (⟨hp, _⟩ | ⟨_, rfl, hb⟩)
    · exact absurd hp HNP.out
    have HB := hide (HBW.out.trans (hb.mono (by omega)))
    clear hb
    go_wp2
    go_ret2
    exact mr_no HH.out HB.out
  have HP := hide hp
  have n24 := hp.1.1
  clear hp
  go_enter Try.func44, Try.ntmps44
  go_wp2_with fail
  rw [← HWW.out]
  clear HWW
  refine HR.out.mono ?_
  rintro e w1 (⟨_, G, d, xs, P, rfl, hm, hb⟩ | ⟨hp, _⟩)
  rotate_left
  · exact absurd HP.out hp
  have z1 := hb.size
  have HM := hide (hm.congr (V' := amV V n i day r) (fun j hj => amV_lt j hj))
  have HB1 := hide (HBW.out.trans (hb.mono (by omega)))
  have HX1 := hide (blk_below hb (by omega) HBX.out)
  have HI1 := hide (HI.out.below hb)
  have k0 := Joins.cell_of_block HX1.out 0
  have k1 := Joins.cell_of_block HX1.out 1
  have k2 := Joins.cell_of_block HX1.out 2
  have k3 := Joins.cell_of_block HX1.out 3
  have k4 := Joins.cell_of_block HX1.out 4
  simp at k0 k1 k2 k3 k4
  have HCR := hide (cloneRule_any r.h I r.n ci r.x r.f r.t r.k w1 hr HI1.out)
  clear hm hb HR HBX HI HI1
  go_wp2_with fail
  refine HCR.out.mono ?_
  rintro e w2 ⟨G2, d2, rfl, ho, hb⟩
  have z2 := hb.size
  obtain ⟨Z, hZ⟩ : ∃ q, w2.heap.size = q := ⟨_, rfl⟩
  obtain ⟨w3, hw3⟩ : ∃ u, u = w2.alloc (.cells #[.int .i64 r.h, .slice G2 r.n d2, .int .i64 day, .int .i64 r.t, .int .i64 r.k] 61) := ⟨_, rfl⟩
  have hb3 : Below w1.heap.size w1 w3 := by rw [hw3]; exact hb.alloc z2 _
  have z3 : Z + 1 ≤ w3.heap.size := by rw [hw3, ← hZ]; simp
  have z3' : w3.heap.size = Z + 1 := by rw [hw3, ← hZ]; simp
  have HO3 : Hid (OW w3 w1.heap.size w3.heap.size G2 r.n (fun j => .int .i64 (r.x j))) := by
    have h1 := (ho.below ((Below.refl w2.heap.size w2).alloc (Nat.le_refl _) (.cells #[.int .i64 r.h, .slice G2 r.n d2, .int .i64 day, .int .i64 r.t, .int .i64 r.k] 61)))
    rw [hw3]
    exact h1.wide (Nat.le_refl _) (by simp)
  have HM3 := hide (HM.out.below hb3)
  have HBR := hide hb3
  have HB3 := hide (HB1.out.trans (hb3.mono (by omega)))
  have HCN := hide (show ∀ j u, ((r.put 2 day).row G2 d2)[j]? = some u → ((w2.alloc (.cells #[.int .i64 r.h, .slice G2 r.n d2, .int .i64 day, .int .i64 r.t, .int .i64 r.k] 61)).alloc (.cells #[.int .i64 r.h, .slice G2 r.n d2, .int .i64 day, .int .i64 r.t, .int .i64 r.k] 61)).cell? ((⟨Z + 1, 0, none⟩ : Addr).add j) = some u by
    rw [← hw3, ← z3']
    exact cell_5n w3 _ _ _ _ _ _)
  have HW3 := hide hw3
  have HZ3 := hide z3'
  clear ho hb hb3 hw3 HCR HX1 k0 k1 k2 k3 k4 z3'
  go_wp2_with (at_builtin; go_loud (refine wpList_append_own_at _ rfl _ _ 38 rfl W.heap.size 61 j0 _ 5 56 Try.underlying38 hj jz0 jz1 jz2 rfl (by decide) _ _ _ rfl (by exact ((HW3.out ▸ HM3.out.1).alloc _)) ⟨_, 0, none⟩ 1 1 ((r.put 2 day).row G2 d2) rfl rfl HCN.out (by intro u hu; rw [put2_row] at hu; simp at hu; rcases hu with rfl | rfl | rfl | rfl | rfl <;> rfl) (by unfold maxLen; omega) (by omega) (by simp [World.setCell]; omega) ?_))
  intro v' w5 hown5 hgrow5 _ hat5
  obtain ⟨g5, d5, rfl⟩ := Joins.ownsRow_form hown5 (by omega)
  rw [← HW3.out] at hgrow5
  have hm5 := HM.push (V := amV V n i day r) (k := n) (I := G2) (c := d2) HBR.out z1 (by rw [amV_at]; exact HO3.out) (by rw [amV_at]; exact hown5) hgrow5 (by
    rcases hat5 with e | e
    · exact .inl e
    · exact .inr (by rw [World.size_alloc, HZ3.out]; exact e))
  rw [amV_at] at hm5
  have HM5 := hide hm5
  have HB5 := hide (((HB3.out.alloc HB3.out.size _).grown hgrow5 (by simp; omega) (fun q e => by have := (HM3.out.own_lt e).1; omega)))
  have HAR := hide (implRules_any (some ⟨g5, 0, none⟩) (n + 1) d5 (amV V n i day r) w5 (by unfold maxLen; omega) HAL.out HM5.out.ro.rs)
  clear hown5 hgrow5 hat5 hm5 HM HM3 HBR HB3 HO3 HW3 HZ3 HCN HAL
  by_cases ha : rulesP (amV V n i day r) (n + 1)
  · have HT := hide (tru_yes ha)
    have HH := hide (show amP V n i day r from ⟨HP.out, ha⟩)
    clear ha
    go_wp2_with fail
    refine HAR.out.mono ?_
    rw [HT.out]
    rintro e w6 ⟨rfl, hb⟩
    have HM6 := hide ((HM5.out.below hb).base (show w.heap.size ≤ W.heap.size by omega))
    have HB6 := hide (HB5.out.trans (hb.mono HB5.out.size))
    clear hb
    go_wp2
    go_ret2
    exact mr_yes HH.out HM6.out HB6.out
  · have HT := hide (tru_no ha)
    have HH := hide (show ¬ amP V n i day r from fun h => ha h.2)
    clear ha
    go_wp2_with fail
    refine HAR.out.mono ?_
    rw [HT.out]
    rintro e w6 ⟨rfl, hb⟩
    have HB6 := hide (HB5.out.trans (hb.mono HB5.out.size))
    clear hb
    go_wp2
    go_ret2
    exact mr_no HH.out HB6.out
set_option maxRecDepth 100000 in
set_option maxHeartbeats 8000000 in
theorem specAmend_any (A : Option Addr) (n c : Nat) (V : Nat → RV) (i day : Int) (r : RV) (I : Option Addr) (ci : Nat) (w : World) (hn : n ≤ 1048576) (hv : ∀ i, i < n → (V i).n ≤ 1048576) (hs : RS w A n V) (hd : -9223372036854775808 ≤ day ∧ day ≤ 9223372036854775807) (hr : r.n ≤ 1048576) (hI : SL w I r.n (fun j => .int .i64 (r.x j))) :
    Calls Try.prog 42 #[.slice A n c, .int .i64 i, .int .i64 day, .agg #[.int .i64 r.h, .slice I r.n ci, .int .i64 r.f, .int .i64 r.t, .int .i64 r.k]] w fun e w' => GaveMR w w' e (amP V n i day r) 61 (n + 1) (amV V n i day r) := by
  obtain ⟨i0, hi, hz0, hz1, hz2⟩ := info_parts Try.infoI64
  obtain ⟨j0, hj, jz0, jz1, jz2⟩ := info_parts Try.infoRule
  obtain ⟨W, hW⟩ : ∃ u, u = w.alloc (.cells #[.int .i64 r.h, .slice I r.n ci, .int .i64 r.f, .int .i64 r.t, .int .i64 r.k] 61) := ⟨_, rfl⟩
  have HBW := hide (show Below w.heap.size w W by rw [hW]; exact (Below.refl _ _).alloc (Nat.le_refl _) _)
  have zW : w.heap.size + 1 ≤ W.heap.size := by rw [hW]; simp
  have HBX := hide (show W.heap[w.heap.size]? = some (.cells #[.int .i64 r.h, .slice I r.n ci, .int .i64 r.f, .int .i64 r.t, .int .i64 r.k] 61 (0, 0)) by rw [hW]; exact blocks1 w _)
  have HR := hide (specEnds_any A n c V i day W hn hv (hs.below HBW.out) hd)
  have HAL := hide (am_len (i := i) (day := day) (r := r) hv hr)
  have HWW := hide hW
  clear hW
  by_cases hp : repP V n i day
  rotate_left
  · have HT := hide (tru_no hp)
    have HH := hide (show ¬ amP V n i day r from fun h => hp h.1)
    clear hp hs hv hI
    go_enter Try.func42, Try.ntmps42
    go_wp2_with fail
    rw [← HWW.out]
    clear HWW
    refine HR.out.mono ?_
    rw [HT.out]
    rintro e w1 ⟨rfl, u, rfl⟩
    go_wp2
    go_ret2
    exact mr_no HH.out (bel_drewN HBW.out u)
  have HT := hide (tru_yes hp)
  have HP := hide hp
  have n24 := hp.1.1
  obtain ⟨i0', i1'⟩ := hp.2.1
  obtain ⟨p, rfl⟩ : ∃ p : Nat, i = p := ⟨i.toNat, by omega⟩
  have hpn : p < n := by omega
  have hpi : (p : Int) < (n : Int) := by omega
  have hdd := hp.2.2
  have HPT := hp.1.2 p hpn
  have HQ := hide (show (V ((p : Int)).toNat) = V p by rw [Int.toNat_natCast])
  rw [HQ.out] at hdd
  have hf0 := HPT.2.2.2.1
  have ht0 := HPT.2.2.2.2.1
  unfold rdayP at hf0 ht0
  have hday : 0 ≤ day ∧ day ≤ 100000 := by omega
  have HO := hide (fun w2 (h : Below w.heap.size w w2) => specOwnRules_any A n c V w2 (by omega) (fun i hi => Nat.le_trans (hp.1.2 i hi).2.1 (by omega)) (hs.below h))
  have HIB := hide (fun w2 (h : Below w.heap.size w w2) => hI.below h)
  clear hp hs hv hI hdd HPT hf0 ht0 HQ hd
  obtain ⟨hday0, hday1⟩ := hday
  go_enter Try.func42, Try.ntmps42
  go_wp2_with fail
  rw [← HWW.out]
  clear HWW
  refine HR.out.mono ?_
  rw [HT.out]
  rintro e w1 ⟨rfl, hu⟩
  have hb1 : Below W.heap.size W w1 := by obtain ⟨u, rfl⟩ := hu; exact bel_drewN (Below.refl _ _) u
  have z1 := hb1.size
  have HX1 := hide (blk_below hb1 (by omega) HBX.out)
  have f2 := Joins.unfrozen_of_block HX1.out 2
  have k2 := Joins.cell_of_block HX1.out 2
  simp at f2 k2
  obtain ⟨w2, hw2⟩ : ∃ u, u = w1.setCell ⟨w.heap.size, 2, none⟩ (.int .i64 day) := ⟨_, rfl⟩
  have hb2 : Below w.heap.size w w2 := by rw [hw2]; exact ((HBW.out.trans (hb1.mono (by omega)))).setCell (by simp) _
  have z2 : W.heap.size ≤ w2.heap.size := by rw [hw2]; simpa [World.setCell] using z1
  have HX2 : Hid (w2.heap[w.heap.size]? = some (.cells #[.int .i64 r.h, .slice I r.n ci, .int .i64 day, .int .i64 r.t, .int .i64 r.k] 61 (0, 0))) := by rw [hw2]; exact Joins.block_setCell (i := 2) HX1.out _
  have HB2 := hide hb2
  have HOO := hide (HO.out w2 hb2)
  have HW2 := hide hw2
  clear hu hb1 HX1 hb2 hw2 HR HBX HO
  go_wp2_with fail
  rw [← HW2.out]
  clear HW2 f2 k2
  refine HOO.out.mono ?_
  rintro e w3 ⟨G, d, xs, P, rfl, hm, hb3⟩
  have z3 := hb3.size
  obtain ⟨g, rfl, hg0, hg1⟩ := hm.some (by omega)
  obtain ⟨k0, k1⟩ := hm.cell (show p * 5 + 3 < n * 5 by omega)
  obtain ⟨w4, hw4⟩ : ∃ u, u = w3.setCell ⟨g, p * 5 + 3, none⟩ (.int .i64 (day - 1)) := ⟨_, rfl⟩
  have hm4 := (hm.put (v := day - 1) hpn (show (3 : Nat) = 0 ∨ (3 : Nat) = 2 ∨ (3 : Nat) = 3 ∨ (3 : Nat) = 4 by omega))
  rw [← hw4] at hm4
  have HM4 := hide (show MR w4 w2.heap.size 61 (some ⟨g, 0, none⟩) d n (xs.set (p * 5 + 3) (.int .i64 (day - 1))) (amV V n p day r) P from hm4.congr (fun j hj => by rw [← amV_lt j hj]; unfold repV; rw [Int.toNat_natCast]))
  have hb4 : Below w2.heap.size w2 w4 := by rw [hw4]; exact hb3.setCell (by simp; omega) _
  have HB4 := hide (HB2.out.trans (hb4.mono (by omega)))
  have HX4 := hide (blk_below hb4 (by omega) HX2.out)
  have HI4 := hide (HIB.out w4 HB4.out)
  have z4 := hb4.size
  have hg2 : w.heap.size < g := by omega
  have HW4 := hide hw4
  clear hm hm4 hb3 hb4 hw4 HOO HX2 hg0 HIB
  generalize hxs' : xs.set (p * 5 + 3) (.int .i64 (day - 1)) = ys at *
  clear hxs'
  -- the literal, the copied Ifs
  have zz : w4.heap.size = w3.heap.size := by rw [HW4.out]; simp [World.setCell]
  have HST : Hid (((w3.setCell ⟨g, p * 5 + 3, none⟩ (.int .i64 (day - 1))).alloc (.cells #[] 2)).ownsRow w3.heap.size 2 1 (.slice (some ⟨w3.heap.size, 0, none⟩) 0 0) 0 []) := ⟨by simp, .inr ⟨w3.heap.size, 0, #[], rfl, Nat.le_refl _, by rw [← HW4.out, ← zz]; exact blocks1 w4 _, Nat.le_refl 0, by unfold maxLen; omega, rfl, rfl⟩⟩
  have HIL : Hid (SL ((w3.setCell ⟨g, p * 5 + 3, none⟩ (.int .i64 (day - 1))).alloc (.cells #[] 2)) I r.n (fun j => .int .i64 (r.x j))) := by rw [← HW4.out]; exact HI4.out.below ((Below.refl _ _).alloc (Nat.le_refl _) _)
  have HXL : Hid (((w3.setCell ⟨g, p * 5 + 3, none⟩ (.int .i64 (day - 1))).alloc (.cells #[] 2)).heap[w.heap.size]? = some (.cells #[.int .i64 r.h, .slice I r.n ci, .int .i64 day, .int .i64 r.t, .int .i64 r.k] 61 (0, 0))) := by rw [← HW4.out]; exact (Below.heap_alloc w4 _ _ (by omega)).trans HX4.out
  have q1 := Joins.cell_of_block HXL.out 1
  simp at q1
  have HZ := hide zz
  clear zz
  go_wp2_with (at_builtin; go_loud (refine wpList_append_lit rfl _ _ 24 rfl w3.heap.size 2 i0 Try.underlying24 hi hz0 hz1 hz2 w3.heap.size HST.out I r.n ci r.x HIL.out rfl rfl hr (by simp [World.setCell]) ?_))
  intro v' w5 hown5 hgrow5 hat5
  obtain ⟨G2, d2, rfl⟩ := own_shape hown5
  have hg5 : ((w3.setCell ⟨g, p * 5 + 3, none⟩ (.int .i64 (day - 1))).alloc (.cells #[] 2)).grownBy w5 (some w3.heap.size) := hgrow5
  have z5 : w3.heap.size + 1 ≤ w5.heap.size := by have := hg5.size; simp [World.setCell] at this; omega
  have keep5 : ∀ q, q < w3.heap.size → w5.heap[q]? = w4.heap[q]? := fun q hq => (hg5.block q (by simp [World.setCell]; omega) (fun e => by injection e with e; omega)).trans (by rw [← HW4.out]; exact Below.heap_alloc w4 _ q (by rw [HZ.out]; exact hq))
  have HX5 := hide ((keep5 w.heap.size (by omega)).trans HX4.out)
  have HO5 := hide (OW.of_owns hown5 (f := fun j => .int .i64 (r.x j)) (fun j hj => by rw [List.getElem?_map, List.getElem?_range hj]; rfl))
  obtain ⟨w6, hw6⟩ : ∃ u, u = w5.setCell ⟨w.heap.size, 1, none⟩ (.slice G2 r.n d2) := ⟨_, rfl⟩
  have z6 : w6.heap.size = w5.heap.size := by rw [hw6]; simp [World.setCell]
  have HX6 : Hid (w6.heap[w.heap.size]? = some (.cells #[.int .i64 r.h, .slice G2 r.n d2, .int .i64 day, .int .i64 r.t, .int .i64 r.k] 61 (0, 0))) := by rw [hw6]; exact Joins.block_setCell (i := 1) HX5.out _
  have keep6 : ∀ q, q ≠ w.heap.size → w6.heap[q]? = w5.heap[q]? := fun q hq => by rw [hw6]; exact Below.heap_setCell w5 _ _ q hq
  have HO6 : Hid (OW w6 w4.heap.size w6.heap.size G2 r.n (fun j => .int .i64 (r.x j))) := by
    rw [hw6]
    exact (HO5.out.setCell (p := ⟨w.heap.size, 1, none⟩) (v := .slice G2 r.n d2) (.inl (by simp; omega))).wide (by rw [HZ.out]; exact Nat.le_refl _) (by simp [World.setCell])
  have HKF : Hid (KeepF w2.heap.size w4 w6) := ⟨by rw [z6, HZ.out]; omega, fun q hq hq' => (keep6 q (by omega)).trans (keep5 q (by rw [← HZ.out]; exact hq'))⟩
  have HM6 := hide (HM4.out.keepF HKF.out)
  have HB6 : Hid (Below w.heap.size w w6) := hide (HB4.out.trans ⟨by rw [hw6]; exact hg5.os.trans (by rw [HW4.out]; rfl), by rw [hw6]; exact hg5.tape.trans (by rw [HW4.out]; rfl), by rw [hw6]; exact hg5.output.trans (by rw [HW4.out]; rfl), by rw [z6, HZ.out]; omega, fun q hq => (keep6 q (by omega)).trans (keep5 q (by omega))⟩)
  have u1 := Joins.unfrozen_of_block HX5.out 1
  have l0 := Joins.cell_of_block HX5.out 0
  have l1 := Joins.cell_of_block HX5.out 1
  have l2 := Joins.cell_of_block HX5.out 2
  have l3 := Joins.cell_of_block HX5.out 3
  have l4 := Joins.cell_of_block HX5.out 4
  simp at u1 l0 l1 l2 l3 l4
  have HCN := hide (show ∀ j u, ((r.put 2 day).row G2 d2)[j]? = some u → ((w5.setCell ⟨w.heap.size, 1, none⟩ (.slice G2 r.n d2)).alloc (.cells #[.int .i64 r.h, .slice G2 r.n d2, .int .i64 day, .int .i64 r.t, .int .i64 r.k] 61)).cell? ((⟨w5.heap.size, 0, none⟩ : Addr).add j) = some u by
    rw [← hw6, ← z6]
    exact cell_5n w6 _ _ _ _ _ _)
  have z6' : w2.heap.size ≤ w6.heap.size := by rw [z6]; omega
  have HW6 := hide hw6
  have HZ6 := hide z6
  clear hown5 hgrow5 hat5 hg5 keep5 keep6 hw6 z6 HST HIL HXL q1 HX4 HX5 HO5 HI4
  go_wp2_with (at_builtin; go_loud (refine wpList_append_own_at _ rfl _ _ 38 rfl w2.heap.size 61 j0 _ 5 56 Try.underlying38 hj jz0 jz1 jz2 rfl (by decide) _ _ _ rfl (by exact ((HW6.out ▸ HM6.out.1).alloc _)) ⟨_, 0, none⟩ 1 1 ((r.put 2 day).row G2 d2) rfl rfl HCN.out (by intro u hu; rw [put2_row] at hu; simp at hu; rcases hu with rfl | rfl | rfl | rfl | rfl <;> rfl) (by unfold maxLen; omega) (by omega) (by simp [World.setCell]; omega) ?_))
  intro v' w7 hown7 hgrow7 _ hat7
  obtain ⟨g7, d7, rfl⟩ := Joins.ownsRow_form hown7 (by omega)
  rw [← HW6.out] at hgrow7
  have hm7 := HM4.out.pushK (V := amV V n p day r) (k := n) (I := G2) (c := d2) HKF.out (by omega) (by rw [amV_at]; exact HO6.out) (by rw [amV_at]; exact hown7) hgrow7 (by
    rcases hat7 with e | e
    · exact .inl e
    · exact .inr (by rw [World.size_alloc, HZ6.out]; exact e))
  rw [amV_at] at hm7
  have HM7 := hide hm7
  have HB7 := hide (((HB6.out.alloc HB6.out.size _).grown hgrow7 (by simp; omega) (fun q e => by have := (HM6.out.own_lt e).1; omega)))
  have HAR := hide (specRules_any (some ⟨g7, 0, none⟩) (n + 1) d7 (amV V n p day r) w7 (by unfold maxLen; omega) HAL.out HM7.out.ro.rs)
  clear hown7 hgrow7 hat7 hm7 HM6 HM4 HKF HB6 HO6 HW6 HZ6 HCN HAL HX6
  by_cases ha : rulesP (amV V n p day r) (n + 1)
  · have HT := hide (tru_yes ha)
    have HH := hide (show amP V n p day r from ⟨HP.out, ha⟩)
    clear ha
    go_wp2_with fail
    refine HAR.out.mono ?_
    rw [HT.out]
    rintro e w8 ⟨rfl, u, rfl⟩
    have HM8 := hide ((HM7.out.drewN u).base (show w.heap.size ≤ w2.heap.size by omega))
    go_wp2
    go_ret2
    exact mr_yes HH.out HM8.out (bel_drewN HB7.out u)
  · have HT := hide (tru_no ha)
    have HH := hide (show ¬ amP V n p day r from fun h => ha h.2)
    clear ha
    go_wp2_with fail
    refine HAR.out.mono ?_
    rw [HT.out]
    rintro e w8 ⟨rfl, u, rfl⟩
    go_wp2
    go_ret2
    exact mr_no HH.out (bel_drewN HB7.out u)
theorem specAmendO_any (A : Option Addr) (n c : Nat) (V : Nat → RV) (i day : Int) (r : RV) (I : Option Addr) (ci : Nat) (w : World) (hn : n ≤ 1048576) (hv : ∀ i, i < n → (V i).n ≤ 1048576) (hs : RS w A n V) (hd : -9223372036854775808 ≤ day ∧ day ≤ 9223372036854775807) (hr : r.n ≤ 1048576) (hI : SL w I r.n (fun j => .int .i64 (r.x j))) :
    Calls Try.prog 42 #[.slice A n c, .int .i64 i, .int .i64 day, .agg #[.int .i64 r.h, .slice I r.n ci, .int .i64 r.f, .int .i64 r.t, .int .i64 r.k]] w fun e w' => GaveRO w w' e (amP V n i day r) (n + 1) (amV V n i day r) := (specAmend_any A n c V i day r I ci w hn hv hs hd hr hI).mono fun _ _ h => h.ro
theorem implAmendO_any (A : Option Addr) (n c : Nat) (V : Nat → RV) (i day : Int) (r : RV) (I : Option Addr) (ci : Nat) (w : World) (hn : n ≤ 1048576) (hv : ∀ i, i < n → (V i).n ≤ 1048576) (hs : RS w A n V) (hd : -9223372036854775808 ≤ day ∧ day ≤ 9223372036854775807) (hr : r.n ≤ 1048576) (hI : SL w I r.n (fun j => .int .i64 (r.x j))) :
    Calls Try.prog 44 #[.slice A n c, .int .i64 i, .int .i64 day, .agg #[.int .i64 r.h, .slice I r.n ci, .int .i64 r.f, .int .i64 r.t, .int .i64 r.k]] w fun e w' => GaveRO w w' e (amP V n i day r) (n + 1) (amV V n i day r) := (implAmend_any A n c V i day r I ci w hn hv hs hd hr hI).mono fun _ _ h => h.ro
end Go.Proofs.Ytjndhcdanpnniaa
