/- SplitDue, PartsDue, by both. -/
import Derived.Test.YtjebkagbknmdoaaC4
import Derived.Test.YtjebkagbknmdoaaDi
import Derived.Test.YtjebkagbknmdoaaDs
import Derived.Lib.QuietBelow
namespace Go.Proofs.Ytjebkagbknmdoaa
open Go.RowKit Go.Dues
theorem implDueOf_yes (A A' : Option Addr) (n c n' c' : Nat) (x y : Nat → Int) (v r : Int) (w : World) (hn : n ≤ maxLen) (hn' : n' ≤ maxLen)
    (hs : SL w A n (fun j => .int .i64 (x j))) (hs' : SL w A' n' (fun j => .int .i64 (y j))) (h : canP x y n n' v r) :
    Calls Try.prog 25 #[.agg #[.slice A n c, .slice A' n' c'], .int .i64 v, .int .i64 r] w fun e w' => e = .returned (.tuple #[.int .i64 (dueV x y n v r), .bool true]) ∧ Below w.heap.size w w' :=
  (implDueOf_any A A' n c n' c' x y v r w hn hn' hs hs').mono fun e w' ⟨he, hb⟩ => ⟨by rw [he, ifV_yes h, tru_yes h], hb⟩
theorem implDueOf_no (A A' : Option Addr) (n c n' c' : Nat) (x y : Nat → Int) (v r : Int) (w : World) (hn : n ≤ maxLen) (hn' : n' ≤ maxLen)
    (hs : SL w A n (fun j => .int .i64 (x j))) (hs' : SL w A' n' (fun j => .int .i64 (y j))) (h : ¬ canP x y n n' v r) :
    Calls Try.prog 25 #[.agg #[.slice A n c, .slice A' n' c'], .int .i64 v, .int .i64 r] w fun e w' => e = .returned (.tuple #[.int .i64 0, .bool false]) ∧ Below w.heap.size w w' :=
  (implDueOf_any A A' n c n' c' x y v r w hn hn' hs hs').mono fun e w' ⟨he, hb⟩ => ⟨by rw [he, ifV_no h, tru_no h], hb⟩
def sdV (x y : Nat → Int) (n : Nat) (a b r : Int) : Int := 2 * dueV x y n ((a + b) / 2) r
def sdP (x y : Nat → Int) (n m : Nat) (a b r : Int) : Prop := Val x y n m ∧ (0 ≤ a ∧ a ≤ 1000000000000) ∧ (0 ≤ b ∧ b ≤ 1000000000000) ∧ (0 ≤ r ∧ r ≤ 3) ∧ sdV x y n a b r ≤ 1000000000000
def pdV (x y : Nat → Int) (n : Nat) (v p m r : Int) : Int := max (p * dueV x y n (v * 2 / p) r / 2) (dueV x y n v r - m)
def pdP (x y : Nat → Int) (n m : Nat) (v p l r : Int) : Prop := Val x y n m ∧ (0 ≤ v ∧ v ≤ 1000000000000) ∧ (2 ≤ p ∧ p ≤ 16) ∧ (0 ≤ l ∧ l ≤ 1000000000000) ∧ (0 ≤ r ∧ r ≤ 3)
theorem pd_bd {x y : Nat → Int} {n m : Nat} {v p l r : Int} (h : pdP x y n m v p l r) : (0 ≤ v * 2 / p ∧ v * 2 / p ≤ v) ∧ (0 ≤ dueV x y n (v * 2 / p) r ∧ dueV x y n (v * 2 / p) r ≤ 1000000000000) ∧ (0 ≤ p * dueV x y n (v * 2 / p) r ∧ p * dueV x y n (v * 2 / p) r ≤ 2 * v) ∧ (0 ≤ dueV x y n v r ∧ dueV x y n v r ≤ v) := by
  obtain ⟨hv, ⟨v0, v1⟩, ⟨p0, p1⟩, _, _⟩ := h
  have q0 : 0 ≤ v * 2 / p := Int.ediv_nonneg (by omega) (by omega)
  have e := Int.mul_ediv_add_emod (v * 2) p
  have m0 : 0 ≤ v * 2 % p := Int.emod_nonneg _ (by omega)
  have hp : p * (v * 2 / p) ≤ v * 2 := by omega
  have h2 : 2 * (v * 2 / p) ≤ p * (v * 2 / p) := Int.mul_le_mul_of_nonneg_right p0 q0
  have d1 := dueV_bd (r := r) hv q0
  have d2 := dueV_bd (r := r) hv v0
  have h3 := Int.mul_le_mul_of_nonneg_left d1.2 (show 0 ≤ p by omega)
  have h4 := Int.mul_nonneg (show 0 ≤ p by omega) d1.1
  exact ⟨⟨q0, by omega⟩, ⟨d1.1, by omega⟩, ⟨h4, by omega⟩, d2⟩
theorem pdV_bd {x y : Nat → Int} {n m : Nat} {v p l r : Int} (h : pdP x y n m v p l r) : 0 ≤ pdV x y n v p l r ∧ pdV x y n v p l r ≤ 1000000000000 := by
  have h1 := pd_bd h
  have h2 := h.2.1
  have h3 := h.2.2.2.1
  unfold pdV
  omega
set_option maxHeartbeats 4000000 in
theorem implSplitDue_any (A A' : Option Addr) (n c n' c' : Nat) (x y : Nat → Int) (a b r : Int) (w : World) (hn : n ≤ maxLen) (hn' : n' ≤ maxLen)
    (hs : SL w A n (fun j => .int .i64 (x j))) (hs' : SL w A' n' (fun j => .int .i64 (y j))) :
    Calls Try.prog 26 #[.agg #[.slice A n c, .slice A' n' c'], .int .i64 a, .int .i64 b, .int .i64 r] w fun e w' => e = .returned (.tuple #[.int .i64 (ifV (sdP x y n n' a b r) (sdV x y n a b r)), .bool (tru (sdP x y n n' a b r))]) ∧ Below w.heap.size w w' := by
  obtain ⟨W, hW⟩ : ∃ u, u = (w.alloc (.cells #[.slice A n c, .slice A' n' c'] 39)).alloc (.cells #[.int .i64 a, .int .i64 b] 2) := ⟨_, rfl⟩
  have HB : Hid (Below w.heap.size w W) := by rw [hW]; exact ((Below.refl w.heap.size w).alloc (Nat.le_refl _) _).alloc (by simp) _
  have HXS : Hid (W.heap[w.heap.size]? = some (.cells #[.slice A n c, .slice A' n' c'] 39)) := by rw [hW]; exact (blocks2 w _ _).1
  have HP : Hid (W.heap[w.heap.size + 1]? = some (.cells #[.int .i64 a, .int .i64 b] 2)) := by rw [hW]; exact (blocks2 w _ _).2
  have HZB : Hid (w.heap.size < W.heap.size) := by rw [hW]; exact (by simp; omega : w.heap.size < ((w.alloc (.cells #[.slice A n c, .slice A' n' c'] 39)).alloc (.cells #[.int .i64 a, .int .i64 b] 2)).heap.size)
  have HS := hide (hs.below HB.out)
  have HS' := hide (hs'.below HB.out)
  have HWW := hide hW
  clear hs hs' hW
  cases ga : amtB a
  · have HH := hide (show ¬ sdP x y n n' a b r from fun h => by rw [amtB_yes h.2.1] at ga; cases ga)
    go_enter Try.func26, Try.ntmps26
    go_wp2_with fail
    rw [← HWW.out]
    clear HWW
    refine (implAmounts2_any (w.heap.size + 1) a b W HP.out).mono ?_
    rintro e w' ⟨rfl, rfl⟩
    have k0 := Joins.cell_of_block HXS.out 0
    have k1 := Joins.cell_of_block HXS.out 1
    simp at k0 k1
    go_wp2_with fail
    all_goals
      go_ret2
      exact ⟨ret_no HH.out, HB.out⟩
  cases gb : amtB b
  · have HH := hide (show ¬ sdP x y n n' a b r from fun h => by rw [amtB_yes h.2.2.1] at gb; cases gb)
    go_enter Try.func26, Try.ntmps26
    go_wp2_with fail
    rw [← HWW.out]
    clear HWW
    refine (implAmounts2_any (w.heap.size + 1) a b W HP.out).mono ?_
    rintro e w' ⟨rfl, rfl⟩
    have k0 := Joins.cell_of_block HXS.out 0
    have k1 := Joins.cell_of_block HXS.out 1
    simp at k0 k1
    go_wp2_with fail
    all_goals
      go_ret2
      exact ⟨ret_no HH.out, HB.out⟩
  obtain ⟨a0, a1⟩ := amtB_iff.1 ga
  obtain ⟨b0, b1⟩ := amtB_iff.1 gb
  by_cases hcan : canP x y n n' ((a + b) / 2) r
  · have HD := hide hcan
    obtain ⟨d0, d1⟩ := dueV_bd (r := r) hcan.1 hcan.2.1.1
    have d2 := hcan.2.1.2
    clear hcan
    cases gd : amtB (2 * dueV x y n ((a + b) / 2) r)
    · have HH := hide (show ¬ sdP x y n n' a b r from fun h => by rw [show amtB (2 * dueV x y n ((a + b) / 2) r) = true from amtB_yes ⟨by omega, h.2.2.2.2⟩] at gd; cases gd)
      go_enter Try.func26, Try.ntmps26
      go_wp2_with fail
      rw [← HWW.out]
      clear HWW
      refine (implAmounts2_any (w.heap.size + 1) a b W HP.out).mono ?_
      rintro e w' ⟨rfl, rfl⟩
      have k0 := Joins.cell_of_block HXS.out 0
      have k1 := Joins.cell_of_block HXS.out 1
      simp at k0 k1
      go_wp2_with fail
      refine (implDueOf_yes A A' n c n' c' x y ((a + b) / 2) r _ hn hn' HS.out HS'.out HD.out).mono ?_
      rintro e w1 ⟨rfl, hb⟩
      have HB1 := hide (HB.out.trans (hb.mono HB.out.size))
      have HBB1 := hide hb
      clear hb k0 k1
      go_wp2_with (first | (go_at_call 70; refine (implAmount_any _ _ ).mono ?_; rintro e w' ⟨rfl, rfl⟩))
      go_ret2
      exact ⟨ret_no HH.out, HB1.out⟩
    · have HH := hide (show sdP x y n n' a b r from ⟨HD.out.1, amtB_iff.1 ga, amtB_iff.1 gb, HD.out.2.2, (amtB_iff.1 gd).2⟩)
      go_enter Try.func26, Try.ntmps26
      go_wp2_with fail
      rw [← HWW.out]
      clear HWW
      refine (implAmounts2_any (w.heap.size + 1) a b W HP.out).mono ?_
      rintro e w' ⟨rfl, rfl⟩
      have k0 := Joins.cell_of_block HXS.out 0
      have k1 := Joins.cell_of_block HXS.out 1
      simp at k0 k1
      go_wp2_with fail
      refine (implDueOf_yes A A' n c n' c' x y ((a + b) / 2) r _ hn hn' HS.out HS'.out HD.out).mono ?_
      rintro e w1 ⟨rfl, hb⟩
      have HB1 := hide (HB.out.trans (hb.mono HB.out.size))
      have HBB1 := hide hb
      clear hb k0 k1
      go_wp2_with (first | (go_at_call 70; refine (implAmount_any _ _ ).mono ?_; rintro e w' ⟨rfl, rfl⟩))
      go_ret2
      exact ⟨ret_yes HH.out, HB1.out⟩
  · have HD := hide hcan
    have HH := hide (show ¬ sdP x y n n' a b r from fun h => hcan ⟨h.1, by omega, h.2.2.2.1⟩)
    clear hcan
    go_enter Try.func26, Try.ntmps26
    go_wp2_with fail
    rw [← HWW.out]
    clear HWW
    refine (implAmounts2_any (w.heap.size + 1) a b W HP.out).mono ?_
    rintro e w' ⟨rfl, rfl⟩
    have k0 := Joins.cell_of_block HXS.out 0
    have k1 := Joins.cell_of_block HXS.out 1
    simp at k0 k1
    go_wp2_with fail
    refine (implDueOf_no A A' n c n' c' x y ((a + b) / 2) r _ hn hn' HS.out HS'.out HD.out).mono ?_
    rintro e w1 ⟨rfl, hb⟩
    have HB1 := hide (HB.out.trans (hb.mono HB.out.size))
    have HBB1 := hide hb
    clear hb k0 k1
    go_wp2_with (first | (go_at_call 70; refine (implAmount_any _ _ ).mono ?_; rintro e w' ⟨rfl, rfl⟩))
    go_ret2
    exact ⟨ret_no HH.out, HB1.out⟩
set_option maxHeartbeats 4000000 in
theorem implPartsDue_any (A A' : Option Addr) (n c n' c' : Nat) (x y : Nat → Int) (v p l r : Int) (w : World) (hn : n ≤ maxLen) (hn' : n' ≤ maxLen)
    (hs : SL w A n (fun j => .int .i64 (x j))) (hs' : SL w A' n' (fun j => .int .i64 (y j))) :
    Calls Try.prog 27 #[.agg #[.slice A n c, .slice A' n' c'], .int .i64 v, .int .i64 p, .int .i64 l, .int .i64 r] w fun e w' => e = .returned (.tuple #[.int .i64 (ifV (pdP x y n n' v p l r) (pdV x y n v p l r)), .bool (tru (pdP x y n n' v p l r))]) ∧ Below w.heap.size w w' := by
  obtain ⟨W, hW⟩ : ∃ u, u = (w.alloc (.cells #[.slice A n c, .slice A' n' c'] 39)).alloc (.cells #[.int .i64 v, .int .i64 l] 2) := ⟨_, rfl⟩
  have HB : Hid (Below w.heap.size w W) := by rw [hW]; exact ((Below.refl w.heap.size w).alloc (Nat.le_refl _) _).alloc (by simp) _
  have HXS : Hid (W.heap[w.heap.size]? = some (.cells #[.slice A n c, .slice A' n' c'] 39)) := by rw [hW]; exact (blocks2 w _ _).1
  have HP : Hid (W.heap[w.heap.size + 1]? = some (.cells #[.int .i64 v, .int .i64 l] 2)) := by rw [hW]; exact (blocks2 w _ _).2
  have HZB : Hid (w.heap.size < W.heap.size) := by rw [hW]; exact (by simp; omega : w.heap.size < ((w.alloc (.cells #[.slice A n c, .slice A' n' c'] 39)).alloc (.cells #[.int .i64 v, .int .i64 l] 2)).heap.size)
  have HS := hide (hs.below HB.out)
  have HS' := hide (hs'.below HB.out)
  have HWW := hide hW
  clear hs hs' hW
  cases gv : amtB v
  · have HH := hide (show ¬ pdP x y n n' v p l r from fun h => by rw [amtB_yes h.2.1] at gv; cases gv)
    go_enter Try.func27, Try.ntmps27
    go_wp2_with fail
    rw [← HWW.out]
    clear HWW
    refine (implAmounts2_any (w.heap.size + 1) v l W HP.out).mono ?_
    rintro e w' ⟨rfl, rfl⟩
    have k0 := Joins.cell_of_block HXS.out 0
    have k1 := Joins.cell_of_block HXS.out 1
    simp at k0 k1
    go_wp2_with fail
    all_goals
      go_ret2
      exact ⟨ret_no HH.out, HB.out⟩
  cases gl : amtB l
  · have HH := hide (show ¬ pdP x y n n' v p l r from fun h => by rw [amtB_yes h.2.2.2.1] at gl; cases gl)
    go_enter Try.func27, Try.ntmps27
    go_wp2_with fail
    rw [← HWW.out]
    clear HWW
    refine (implAmounts2_any (w.heap.size + 1) v l W HP.out).mono ?_
    rintro e w' ⟨rfl, rfl⟩
    have k0 := Joins.cell_of_block HXS.out 0
    have k1 := Joins.cell_of_block HXS.out 1
    simp at k0 k1
    go_wp2_with fail
    all_goals
      go_ret2
      exact ⟨ret_no HH.out, HB.out⟩
  cases gp : inB p 2 16
  · have HH := hide (show ¬ pdP x y n n' v p l r from fun h => by rw [inB_yes h.2.2.1] at gp; cases gp)
    go_enter Try.func27, Try.ntmps27
    go_wp2_with fail
    rw [← HWW.out]
    clear HWW
    refine (implAmounts2_any (w.heap.size + 1) v l W HP.out).mono ?_
    rintro e w' ⟨rfl, rfl⟩
    have k0 := Joins.cell_of_block HXS.out 0
    have k1 := Joins.cell_of_block HXS.out 1
    simp at k0 k1
    go_wp2_with (first | (go_at_call 71; refine (implWithin_any _ _ _ _ ).mono ?_; rintro e w' ⟨rfl, rfl⟩))
    go_ret2
    exact ⟨ret_no HH.out, HB.out⟩
  obtain ⟨v0, v1⟩ := amtB_iff.1 gv
  obtain ⟨l0, l1⟩ := amtB_iff.1 gl
  obtain ⟨p0, p1⟩ := inB_iff.1 gp
  have hne : ¬ p = 0 := by omega
  by_cases hcan : canP x y n n' v r
  · have HH := hide (show pdP x y n n' v p l r from ⟨hcan.1, hcan.2.1, ⟨p0, p1⟩, ⟨l0, l1⟩, hcan.2.2⟩)
    have HCAN := hide hcan
    obtain ⟨⟨q0, q1⟩, ⟨d0, d1⟩, ⟨m0, m1⟩, ⟨e0, e1⟩⟩ := pd_bd HH.out
    have HD := hide (show canP x y n n' (v * 2 / p) r from ⟨hcan.1, ⟨q0, by omega⟩, hcan.2.2⟩)
    have HZ := hide (show max (p * dueV x y n (v * 2 / p) r / 2) (dueV x y n v r - l) = pdV x y n v p l r from rfl)
    clear hcan
    go_enter Try.func27, Try.ntmps27
    go_wp2_with fail
    rw [← HWW.out]
    clear HWW
    refine (implAmounts2_any (w.heap.size + 1) v l W HP.out).mono ?_
    rintro e w' ⟨rfl, rfl⟩
    have k0 := Joins.cell_of_block HXS.out 0
    have k1 := Joins.cell_of_block HXS.out 1
    simp at k0 k1
    have HRD : Hid (∀ (d : Nat) (os : Array Obj), Calls Try.prog 25 #[.agg #[.slice A n c, .slice A' n' c'], .int .i64 (v * 2 / p), .int .i64 r] («Sort».grow (redrawn W d) os) fun e w' => e = .returned (.tuple #[.int .i64 (dueV x y n (v * 2 / p) r), .bool true]) ∧ Below («Sort».grow (redrawn W d) os).heap.size («Sort».grow (redrawn W d) os) w') := by
      intro d os
      exact implDueOf_yes A A' n c n' c' x y (v * 2 / p) r _ hn hn' (HS.out.below (below_regrown _ _ _)) (HS'.out.below (below_regrown _ _ _)) HD.out
    have K0 := cell_regrown k0
    have K1 := cell_regrown k1
    go_wp2_with (first | (go_at_call 71; refine (implWithin_any _ _ _ _ ).mono ?_; rintro e w' ⟨rfl, rfl⟩))
    refine wp_region_quiet_below (by kernel_rfl) (by kernel_rfl) ?_
    repeat (first | go_big_quiet_step (exact Calls.regrown_of (HRD.out _ _)) | quiet_step (exact Calls.regrown_of (HRD.out _ _)))
    refine wpQuiet_nil ?_
    intro w1 hw1
    have HBB1 : Hid (Below W.heap.size W w1) := by
      obtain ⟨⟨dq, osq⟩, h⟩ := hw1
      rw [h]; exact below_regrown W dq osq
    have HB1 := hide (HB.out.trans (HBB1.out.mono HB.out.size))
    have HXS1 := hide (blk_below HBB1.out HZB.out HXS.out)
    clear hw1 k0 k1 K0 K1
    have k0 := Joins.cell_of_block HXS1.out 0
    have k1 := Joins.cell_of_block HXS1.out 1
    simp at k0 k1
    go_wp2_with fail
    refine (implDueOf_yes A A' n c n' c' x y v r _ hn hn' (HS.out.below HBB1.out) (HS'.out.below HBB1.out) HCAN.out).mono ?_
    rintro e w2 ⟨rfl, hb⟩
    have HB2 := hide (HB1.out.trans (hb.mono HB1.out.size))
    clear hb k0 k1
    go_wp2
    all_goals
      go_ret2
      exact ⟨ret_val HH.out (by have := HZ.out; omega), HB2.out⟩
  · have HCAN := hide hcan
    have HH := hide (show ¬ pdP x y n n' v p l r from fun h => hcan ⟨h.1, h.2.1, h.2.2.2.2⟩)
    have q0 : 0 ≤ v * 2 / p := Int.ediv_nonneg (by omega) (by omega)
    have q1 : v * 2 / p ≤ v * 2 := Int.ediv_le_self _ (by omega)
    have HD := hide (show ¬ canP x y n n' (v * 2 / p) r from fun h => hcan ⟨h.1, ⟨v0, v1⟩, h.2.2⟩)
    clear hcan
    go_enter Try.func27, Try.ntmps27
    go_wp2_with fail
    rw [← HWW.out]
    clear HWW
    refine (implAmounts2_any (w.heap.size + 1) v l W HP.out).mono ?_
    rintro e w' ⟨rfl, rfl⟩
    have k0 := Joins.cell_of_block HXS.out 0
    have k1 := Joins.cell_of_block HXS.out 1
    simp at k0 k1
    have HRD : Hid (∀ (d : Nat) (os : Array Obj), Calls Try.prog 25 #[.agg #[.slice A n c, .slice A' n' c'], .int .i64 (v * 2 / p), .int .i64 r] («Sort».grow (redrawn W d) os) fun e w' => e = .returned (.tuple #[.int .i64 0, .bool false]) ∧ Below («Sort».grow (redrawn W d) os).heap.size («Sort».grow (redrawn W d) os) w') := by
      intro d os
      exact implDueOf_no A A' n c n' c' x y (v * 2 / p) r _ hn hn' (HS.out.below (below_regrown _ _ _)) (HS'.out.below (below_regrown _ _ _)) HD.out
    have K0 := cell_regrown k0
    have K1 := cell_regrown k1
    go_wp2_with (first | (go_at_call 71; refine (implWithin_any _ _ _ _ ).mono ?_; rintro e w' ⟨rfl, rfl⟩))
    refine wp_region_quiet_below (by kernel_rfl) (by kernel_rfl) ?_
    repeat (first | go_big_quiet_step (exact Calls.regrown_of (HRD.out _ _)) | quiet_step (exact Calls.regrown_of (HRD.out _ _)))
    refine wpQuiet_nil ?_
    intro w1 hw1
    have HBB1 : Hid (Below W.heap.size W w1) := by
      obtain ⟨⟨dq, osq⟩, h⟩ := hw1
      rw [h]; exact below_regrown W dq osq
    have HB1 := hide (HB.out.trans (HBB1.out.mono HB.out.size))
    have HXS1 := hide (blk_below HBB1.out HZB.out HXS.out)
    clear hw1 k0 k1 K0 K1
    have k0 := Joins.cell_of_block HXS1.out 0
    have k1 := Joins.cell_of_block HXS1.out 1
    simp at k0 k1
    go_wp2_with fail
    refine (implDueOf_no A A' n c n' c' x y v r _ hn hn' (HS.out.below HBB1.out) (HS'.out.below HBB1.out) HCAN.out).mono ?_
    rintro e w2 ⟨rfl, hb⟩
    have HB2 := hide (HB1.out.trans (hb.mono HB1.out.size))
    clear hb k0 k1
    go_wp2
    go_ret2
    exact ⟨ret_no HH.out, HB2.out⟩
end Go.Proofs.Ytjebkagbknmdoaa
