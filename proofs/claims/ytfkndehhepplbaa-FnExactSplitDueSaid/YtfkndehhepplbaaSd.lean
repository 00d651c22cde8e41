/- SplitDue, PartsDue, by both. -/
import Derived.Test.YtfkndehhepplbaaC4
import Derived.Test.YtfkndehhepplbaaDi
import Derived.Test.YtfkndehhepplbaaDs
import Derived.Lib.QuietBelow
namespace Go.Proofs.Ytfkndehhepplbaa
open Go.RowKit Go.Dues
theorem implDueOf_yes (A A' : Option Addr) (n c n' c' : Nat) (x y : Nat → Int) (v r : Int) (w : World) (hn : n ≤ maxLen) (hn' : n' ≤ maxLen)
    (hs : SL w A n (fun j => .int .i64 (x j))) (hs' : SL w A' n' (fun j => .int .i64 (y j))) (h : canP x y n n' v r) :
    Calls Try.prog 79 #[.agg #[.slice A n c, .slice A' n' c'], .int .i64 v, .int .i64 r] w fun e w' => e = .returned (.tuple #[.int .i64 (dueV x y n v r), .bool true]) ∧ Below w.heap.size w w' :=
  (implDueOf_any A A' n c n' c' x y v r w hn hn' hs hs').mono fun e w' ⟨he, hb⟩ => ⟨by rw [he, ifV_yes h, tru_yes h], hb⟩
theorem implDueOf_no (A A' : Option Addr) (n c n' c' : Nat) (x y : Nat → Int) (v r : Int) (w : World) (hn : n ≤ maxLen) (hn' : n' ≤ maxLen)
    (hs : SL w A n (fun j => .int .i64 (x j))) (hs' : SL w A' n' (fun j => .int .i64 (y j))) (h : ¬ canP x y n n' v r) :
    Calls Try.prog 79 #[.agg #[.slice A n c, .slice A' n' c'], .int .i64 v, .int .i64 r] w fun e w' => e = .returned (.tuple #[.int .i64 0, .bool false]) ∧ Below w.heap.size w w' :=
  (implDueOf_any A A' n c n' c' x y v r w hn hn' hs hs').mono fun e w' ⟨he, hb⟩ => ⟨by rw [he, ifV_no h, tru_no h], hb⟩
def sdV (x y : Nat → Int) (n : Nat) (a b r : Int) : Int := 2 * dueV x y n ((a + b) / 2) r
def sdP (x y : Nat → Int) (n m : Nat) (a b r : Int) : Prop := Val x y n m ∧ (0 ≤ a ∧ a ≤ 1000000000000) ∧ (0 ≤ b ∧ b ≤ 1000000000000) ∧ (0 ≤ r ∧ r ≤ 3) ∧ sdV x y n a b r ≤ 1000000000000
def pdV (x y : Nat → Int) (n : Nat) (v p m r : Int) : Int := max (p * dueV x y n (v * 2 / p) r / 2) (dueV x y n v r - m)
def pdP (x y : Nat → Int) (n m : Nat) (v p l r : Int) : Prop := Val x y n m ∧ (0 ≤ v ∧ v ≤ 1000000000000) ∧ (2 ≤ p ∧ p ≤ 16) ∧ (0 ≤ l ∧ l ≤ 1000000000000) ∧ (0 ≤ r ∧ r ≤ 3)
theorem pd_bd {x y : Nat → Int} {n m : Nat} {v p l r : Int} (h : pdP x y n m v p l r) : (0 ≤ v * 2 / p ∧ v * 2 / p ≤ v) ∧ (0 ≤ dueV x y n (v * 2 / p) r ∧ dueV x y n (v * 2 / p) r ≤ 1000000000000) ∧ (0 ≤ p * dueV x y n (v * 2 / p) r ∧ p * dueV x y n (v * 2 / p) r ≤ 2 * v) ∧ (0 ≤ dueV x y n v r ∧ dueV x y n v r ≤ v) := by
  obtain ⟨hv, ⟨v0, v1⟩, ⟨p0, p1⟩, _, _⟩ := h
  have q0 : 0 ≤ v * 2 / p := Int.ediv_nonneg (by omega) (by omega)
  have e := Int.mul_ediv_add_emod (v * 2) p
  have m0 : 0 ≤ v * 2 % p := Int.emod_nonneg _ (by omega)
  have hp : p * (v * 2 / p) ≤ v * 2 := by omega
  have h2 : 2 * (v * 2 / p) ≤ p * (v * 2 / p) := Int.mul_le_mul_of_nonneg_right p0 q0
  have d1 := dueV_bd (r := r) hv q0
  have d2 := dueV_bd (r := r) hv v0
  have h3 := Int.mul_le_mul_of_nonneg_left d1.2 (show 0 ≤ p by omega)
  have h4 := Int.mul_nonneg (show 0 ≤ p by omega) d1.1
  exact ⟨⟨q0, by omega⟩, ⟨d1.1, by omega⟩, ⟨h4, by omega⟩, d2⟩
theorem pdV_bd {x y : Nat → Int} {n m : Nat} {v p l r : Int} (h : pdP x y n m v p l r) : 0 ≤ pdV x y n v p l r ∧ pdV x y n v p l r ≤ 1000000000000 := by
  have h1 := pd_bd h
  have h2 := h.2.1
  have h3 := h.2.2.2.1
  unfold pdV
  omega
set_option maxHeartbeats 4000000 in
theorem specSplitDue_any (A A' : Option Addr) (n c n' c' : Nat) (x y : Nat → Int) (a b r : Int) (w : World) (hn : n ≤ maxLen) (hn' : n' ≤ maxLen)
    (hs : SL w A n (fun j => .int .i64 (x j))) (hs' : SL w A' n' (fun j => .int .i64 (y j))) :
    Calls Try.prog 42 #[.agg #[.slice A n c, .slice A' n' c'], .int .i64 a, .int .i64 b, .int .i64 r] w fun e w' => e = .returned (.tuple #[.int .i64 (ifV (sdP x y n n' a b r) (sdV x y n a b r)), .bool (tru (sdP x y n n' a b r))]) ∧ Below w.heap.size w w' := by
  obtain ⟨W, hW⟩ : ∃ u, u = w.alloc (.cells #[.slice A n c, .slice A' n' c'] 59) := ⟨_, rfl⟩
  have HBW : Hid (Below w.heap.size w W) := by rw [hW]; exact (Below.refl w.heap.size w).alloc (Nat.le_refl _) _
  have HX : Hid (W.heap[w.heap.size]? = some (.cells #[.slice A n c, .slice A' n' c'] 59)) := by rw [hW]; exact blocks1 w _
  have HS := hide (hs.below HBW.out)
  have HS' := hide (hs'.below HBW.out)
  have HC0 := hide ((Joins.cell_of_block HX.out 0).trans (by simp : _ = some (.slice A n c)))
  have HC1 := hide ((Joins.cell_of_block HX.out 1).trans (by simp : _ = some (.slice A' n' c')))
  have HWW := hide hW
  clear hs hs' hW
  by_cases hcan : canP x y n n' a r
  · have hct := tru_yes hcan
    cases gb : amtB b
    · have HH := hide (show ¬ sdP x y n n' a b r from fun h => by rw [amtB_yes h.2.2.1] at gb; cases gb)
      clear hcan
      go_enter Try.func42, Try.ntmps42
      go_wp2_with fail
      rw [← HWW.out]
      clear HWW
      refine (specCan_any w.heap.size A A' n c n' c' x y a r W hn hn' HC0.out HC1.out HS.out HS'.out).mono ?_
      rw [hct]
      rintro e w' ⟨rfl, q, rfl⟩
      go_wp2_with (first | (go_at_call 50; refine (specCents_any _ _ ).mono ?_; rintro e w' ⟨rfl, rfl⟩) | (go_at_call 58; refine (specRate_any _ _ ).mono ?_; rintro e w' ⟨rfl, rfl⟩) | (go_at_call 63; refine (specWay_any _ _ ).mono ?_; rintro e w' ⟨rfl, rfl⟩) | (go_at_call 57; refine (specIn_any _ _ _ _ ).mono ?_; rintro e w' ⟨rfl, rfl⟩))
      go_ret2
      exact ⟨ret_no HH.out, bel_dN HBW.out _⟩
    obtain ⟨a0, a1⟩ := hcan.2.1
    obtain ⟨b0, b1⟩ := amtB_iff.1 gb
    have HD := hide (show canP x y n n' ((a + b) / 2) r from ⟨hcan.1, by omega, hcan.2.2⟩)
    obtain ⟨d0, d1⟩ := dueV_bd (r := r) hcan.1 HD.out.2.1.1
    have d2 := HD.out.2.1.2
    have HCAN := hide hcan
    clear hcan
    cases gd : amtB (2 * dueV x y n ((a + b) / 2) r)
    · have HH := hide (show ¬ sdP x y n n' a b r from fun h => by rw [show amtB (2 * dueV x y n ((a + b) / 2) r) = true from amtB_yes ⟨by omega, h.2.2.2.2⟩] at gd; cases gd)
      go_enter Try.func42, Try.ntmps42
      go_wp2_with fail
      rw [← HWW.out]
      clear HWW
      refine (specCan_any w.heap.size A A' n c n' c' x y a r W hn hn' HC0.out HC1.out HS.out HS'.out).mono ?_
      rw [hct]
      rintro e w' ⟨rfl, q, rfl⟩
      go_wp2_with (first | (go_at_call 50; refine (specCents_any _ _ ).mono ?_; rintro e w' ⟨rfl, rfl⟩))
      go_wp2_with fail
      refine (specDue_any w.heap.size A A' n c n' c' x y ((a + b) / 2) r _ (by exact HC0.out) (by exact HC1.out) (by exact HS.out) (by exact HS'.out) HD.out).mono ?_
      rintro e w' ⟨rfl, q2, rfl⟩
      go_wp2_with (first | (go_at_call 50; refine (specCents_any _ _ ).mono ?_; rintro e w' ⟨rfl, rfl⟩) | (go_at_call 58; refine (specRate_any _ _ ).mono ?_; rintro e w' ⟨rfl, rfl⟩) | (go_at_call 63; refine (specWay_any _ _ ).mono ?_; rintro e w' ⟨rfl, rfl⟩) | (go_at_call 57; refine (specIn_any _ _ _ _ ).mono ?_; rintro e w' ⟨rfl, rfl⟩))
      go_ret2
      exact ⟨ret_no HH.out, bel_dN HBW.out _⟩
    · have HH := hide (show sdP x y n n' a b r from ⟨HCAN.out.1, HCAN.out.2.1, amtB_iff.1 gb, HCAN.out.2.2, (amtB_iff.1 gd).2⟩)
      go_enter Try.func42, Try.ntmps42
      go_wp2_with fail
      rw [← HWW.out]
      clear HWW
      refine (specCan_any w.heap.size A A' n c n' c' x y a r W hn hn' HC0.out HC1.out HS.out HS'.out).mono ?_
      rw [hct]
      rintro e w' ⟨rfl, q, rfl⟩
      go_wp2_with (first | (go_at_call 50; refine (specCents_any _ _ ).mono ?_; rintro e w' ⟨rfl, rfl⟩))
      go_wp2_with fail
      refine (specDue_any w.heap.size A A' n c n' c' x y ((a + b) / 2) r _ (by exact HC0.out) (by exact HC1.out) (by exact HS.out) (by exact HS'.out) HD.out).mono ?_
      rintro e w' ⟨rfl, q2, rfl⟩
      go_wp2_with (first | (go_at_call 50; refine (specCents_any _ _ ).mono ?_; rintro e w' ⟨rfl, rfl⟩) | (go_at_call 58; refine (specRate_any _ _ ).mono ?_; rintro e w' ⟨rfl, rfl⟩) | (go_at_call 63; refine (specWay_any _ _ ).mono ?_; rintro e w' ⟨rfl, rfl⟩) | (go_at_call 57; refine (specIn_any _ _ _ _ ).mono ?_; rintro e w' ⟨rfl, rfl⟩))
      go_ret2
      exact ⟨ret_yes HH.out, bel_dN HBW.out _⟩
  · have hct := tru_no hcan
    have HH := hide (show ¬ sdP x y n n' a b r from fun h => hcan ⟨h.1, h.2.1, h.2.2.2.1⟩)
    clear hcan
    go_enter Try.func42, Try.ntmps42
    go_wp2_with fail
    rw [← HWW.out]
    clear HWW
    refine (specCan_any w.heap.size A A' n c n' c' x y a r W hn hn' HC0.out HC1.out HS.out HS'.out).mono ?_
    rw [hct]
    rintro e w' ⟨rfl, q, rfl⟩
    go_wp2_with (first | (go_at_call 50; refine (specCents_any _ _ ).mono ?_; rintro e w' ⟨rfl, rfl⟩) | (go_at_call 58; refine (specRate_any _ _ ).mono ?_; rintro e w' ⟨rfl, rfl⟩) | (go_at_call 63; refine (specWay_any _ _ ).mono ?_; rintro e w' ⟨rfl, rfl⟩) | (go_at_call 57; refine (specIn_any _ _ _ _ ).mono ?_; rintro e w' ⟨rfl, rfl⟩))
    go_ret2
    exact ⟨ret_no HH.out, bel_dN HBW.out _⟩
set_option maxHeartbeats 4000000 in
theorem implSplitDue_any (A A' : Option Addr) (n c n' c' : Nat) (x y : Nat → Int) (a b r : Int) (w : World) (hn : n ≤ maxLen) (hn' : n' ≤ maxLen)
    (hs : SL w A n (fun j => .int .i64 (x j))) (hs' : SL w A' n' (fun j => .int .i64 (y j))) :
    Calls Try.prog 44 #[.agg #[.slice A n c, .slice A' n' c'], .int .i64 a, .int .i64 b, .int .i64 r] w fun e w' => e = .returned (.tuple #[.int .i64 (ifV (sdP x y n n' a b r) (sdV x y n a b r)), .bool (tru (sdP x y n n' a b r))]) ∧ Below w.heap.size w w' := by
  obtain ⟨W, hW⟩ : ∃ u, u = (w.alloc (.cells #[.slice A n c, .slice A' n' c'] 59)).alloc (.cells #[.int .i64 a, .int .i64 b] 2) := ⟨_, rfl⟩
  have HB : Hid (Below w.heap.size w W) := by rw [hW]; exact ((Below.refl w.heap.size w).alloc (Nat.le_refl _) _).alloc (by simp) _
  have HXS : Hid (W.heap[w.heap.size]? = some (.cells #[.slice A n c, .slice A' n' c'] 59)) := by rw [hW]; exact (blocks2 w _ _).1
  have HP : Hid (W.heap[w.heap.size + 1]? = some (.cells #[.int .i64 a, .int .i64 b] 2)) := by rw [hW]; exact (blocks2 w _ _).2
  have HZB : Hid (w.heap.size < W.heap.size) := by rw [hW]; exact (by simp; omega : w.heap.size < ((w.alloc (.cells #[.slice A n c, .slice A' n' c'] 59)).alloc (.cells #[.int .i64 a, .int .i64 b] 2)).heap.size)
  have HS := hide (hs.below HB.out)
  have HS' := hide (hs'.below HB.out)
  have HWW := hide hW
  clear hs hs' hW
  cases ga : amtB a
  · have HH := hide (show ¬ sdP x y n n' a b r from fun h => by rw [amtB_yes h.2.1] at ga; cases ga)
    go_enter Try.func44, Try.ntmps44
    go_wp2_with fail
    rw [← HWW.out]
    clear HWW
    refine (implAmounts2_any (w.heap.size + 1) a b W HP.out).mono ?_
    rintro e w' ⟨rfl, rfl⟩
    have k0 := Joins.cell_of_block HXS.out 0
    have k1 := Joins.cell_of_block HXS.out 1
    simp at k0 k1
    go_wp2_with fail
    all_goals
      go_ret2
      exact ⟨ret_no HH.out, HB.out⟩
  cases gb : amtB b
  · have HH := hide (show ¬ sdP x y n n' a b r from fun h => by rw [amtB_yes h.2.2.1] at gb; cases gb)
    go_enter Try.func44, Try.ntmps44
    go_wp2_with fail
    rw [← HWW.out]
    clear HWW
    refine (implAmounts2_any (w.heap.size + 1) a b W HP.out).mono ?_
    rintro e w' ⟨rfl, rfl⟩
    have k0 := Joins.cell_of_block HXS.out 0
    have k1 := Joins.cell_of_block HXS.out 1
    simp at k0 k1
    go_wp2_with fail
    all_goals
      go_ret2
      exact ⟨ret_no HH.out, HB.out⟩
  obtain ⟨a0, a1⟩ := amtB_iff.1 ga
  obtain ⟨b0, b1⟩ := amtB_iff.1 gb
  by_cases hcan : canP x y n n' ((a + b) / 2) r
  · have HD := hide hcan
    obtain ⟨d0, d1⟩ := dueV_bd (r := r) hcan.1 hcan.2.1.1
    have d2 := hcan.2.1.2
    clear hcan
    cases gd : amtB (2 * dueV x y n ((a + b) / 2) r)
    · have HH := hide (show ¬ sdP x y n n' a b r from fun h => by rw [show amtB (2 * dueV x y n ((a + b) / 2) r) = true from amtB_yes ⟨by omega, h.2.2.2.2⟩] at gd; cases gd)
      go_enter Try.func44, Try.ntmps44
      go_wp2_with fail
      rw [← HWW.out]
      clear HWW
      refine (implAmounts2_any (w.heap.size + 1) a b W HP.out).mono ?_
      rintro e w' ⟨rfl, rfl⟩
      have k0 := Joins.cell_of_block HXS.out 0
      have k1 := Joins.cell_of_block HXS.out 1
      simp at k0 k1
      go_wp2_with fail
      refine (implDueOf_yes A A' n c n' c' x y ((a + b) / 2) r _ hn hn' HS.out HS'.out HD.out).mono ?_
      rintro e w1 ⟨rfl, hb⟩
      have HB1 := hide (HB.out.trans (hb.mono HB.out.size))
      have HBB1 := hide hb
      clear hb k0 k1
      go_wp2_with (first | (go_at_call 53; refine (implAmount_any _ _ ).mono ?_; rintro e w' ⟨rfl, rfl⟩))
      go_ret2
      exact ⟨ret_no HH.out, HB1.out⟩
    · have HH := hide (show sdP x y n n' a b r from ⟨HD.out.1, amtB_iff.1 ga, amtB_iff.1 gb, HD.out.2.2, (amtB_iff.1 gd).2⟩)
      go_enter Try.func44, Try.ntmps44
      go_wp2_with fail
      rw [← HWW.out]
      clear HWW
      refine (implAmounts2_any (w.heap.size + 1) a b W HP.out).mono ?_
      rintro e w' ⟨rfl, rfl⟩
      have k0 := Joins.cell_of_block HXS.out 0
      have k1 := Joins.cell_of_block HXS.out 1
      simp at k0 k1
      go_wp2_with fail
      refine (implDueOf_yes A A' n c n' c' x y ((a + b) / 2) r _ hn hn' HS.out HS'.out HD.out).mono ?_
      rintro e w1 ⟨rfl, hb⟩
      have HB1 := hide (HB.out.trans (hb.mono HB.out.size))
      have HBB1 := hide hb
      clear hb k0 k1
      go_wp2_with (first | (go_at_call 53; refine (implAmount_any _ _ ).mono ?_; rintro e w' ⟨rfl, rfl⟩))
      go_ret2
      exact ⟨ret_yes HH.out, HB1.out⟩
  · have HD := hide hcan
    have HH := hide (show ¬ sdP x y n n' a b r from fun h => hcan ⟨h.1, by omega, h.2.2.2.1⟩)
    clear hcan
    go_enter Try.func44, Try.ntmps44
    go_wp2_with fail
    rw [← HWW.out]
    clear HWW
    refine (implAmounts2_any (w.heap.size + 1) a b W HP.out).mono ?_
    rintro e w' ⟨rfl, rfl⟩
    have k0 := Joins.cell_of_block HXS.out 0
    have k1 := Joins.cell_of_block HXS.out 1
    simp at k0 k1
    go_wp2_with fail
    refine (implDueOf_no A A' n c n' c' x y ((a + b) / 2) r _ hn hn' HS.out HS'.out HD.out).mono ?_
    rintro e w1 ⟨rfl, hb⟩
    have HB1 := hide (HB.out.trans (hb.mono HB.out.size))
    have HBB1 := hide hb
    clear hb k0 k1
    go_wp2_with (first | (go_at_call 53; refine (implAmount_any _ _ ).mono ?_; rintro e w' ⟨rfl, rfl⟩))
    go_ret2
    exact ⟨ret_no HH.out, HB1.out⟩
set_option maxHeartbeats 4000000 in
theorem specPartsDue_any (A A' : Option Addr) (n c n' c' : Nat) (x y : Nat → Int) (v p l r : Int) (w : World) (hn : n ≤ maxLen) (hn' : n' ≤ maxLen)
    (hs : SL w A n (fun j => .int .i64 (x j))) (hs' : SL w A' n' (fun j => .int .i64 (y j))) :
    Calls Try.prog 46 #[.agg #[.slice A n c, .slice A' n' c'], .int .i64 v, .int .i64 p, .int .i64 l, .int .i64 r] w fun e w' => e = .returned (.tuple #[.int .i64 (ifV (pdP x y n n' v p l r) (pdV x y n v p l r)), .bool (tru (pdP x y n n' v p l r))]) ∧ Below w.heap.size w w' := by
  obtain ⟨W, hW⟩ : ∃ u, u = w.alloc (.cells #[.slice A n c, .slice A' n' c'] 59) := ⟨_, rfl⟩
  have HBW : Hid (Below w.heap.size w W) := by rw [hW]; exact (Below.refl w.heap.size w).alloc (Nat.le_refl _) _
  have HX : Hid (W.heap[w.heap.size]? = some (.cells #[.slice A n c, .slice A' n' c'] 59)) := by rw [hW]; exact blocks1 w _
  have HS := hide (hs.below HBW.out)
  have HS' := hide (hs'.below HBW.out)
  have HC0 := hide ((Joins.cell_of_block HX.out 0).trans (by simp : _ = some (.slice A n c)))
  have HC1 := hide ((Joins.cell_of_block HX.out 1).trans (by simp : _ = some (.slice A' n' c')))
  have HWW := hide hW
  clear hs hs' hW
  by_cases hcan : canP x y n n' v r
  · have hct := tru_yes hcan
    have HCAN := hide hcan
    clear hcan
    cases gp : inB p 2 16
    · have HH := hide (show ¬ pdP x y n n' v p l r from fun h => by rw [inB_yes h.2.2.1] at gp; cases gp)
      go_enter Try.func46, Try.ntmps46
      go_wp2_with fail
      rw [← HWW.out]
      clear HWW
      refine (specCan_any w.heap.size A A' n c n' c' x y v r W hn hn' HC0.out HC1.out HS.out HS'.out).mono ?_
      rw [hct]
      rintro e w' ⟨rfl, q, rfl⟩
      go_wp2_with (first | (go_at_call 50; refine (specCents_any _ _ ).mono ?_; rintro e w' ⟨rfl, rfl⟩) | (go_at_call 58; refine (specRate_any _ _ ).mono ?_; rintro e w' ⟨rfl, rfl⟩) | (go_at_call 63; refine (specWay_any _ _ ).mono ?_; rintro e w' ⟨rfl, rfl⟩) | (go_at_call 57; refine (specIn_any _ _ _ _ ).mono ?_; rintro e w' ⟨rfl, rfl⟩))
      go_ret2
      exact ⟨ret_no HH.out, bel_dN HBW.out _⟩
    cases gl : amtB l
    · have HH := hide (show ¬ pdP x y n n' v p l r from fun h => by rw [amtB_yes h.2.2.2.1] at gl; cases gl)
      go_enter Try.func46, Try.ntmps46
      go_wp2_with fail
      rw [← HWW.out]
      clear HWW
      refine (specCan_any w.heap.size A A' n c n' c' x y v r W hn hn' HC0.out HC1.out HS.out HS'.out).mono ?_
      rw [hct]
      rintro e w' ⟨rfl, q, rfl⟩
      go_wp2_with (first | (go_at_call 50; refine (specCents_any _ _ ).mono ?_; rintro e w' ⟨rfl, rfl⟩) | (go_at_call 58; refine (specRate_any _ _ ).mono ?_; rintro e w' ⟨rfl, rfl⟩) | (go_at_call 63; refine (specWay_any _ _ ).mono ?_; rintro e w' ⟨rfl, rfl⟩) | (go_at_call 57; refine (specIn_any _ _ _ _ ).mono ?_; rintro e w' ⟨rfl, rfl⟩))
      go_ret2
      exact ⟨ret_no HH.out, bel_dN HBW.out _⟩
    have HH := hide (show pdP x y n n' v p l r from ⟨HCAN.out.1, HCAN.out.2.1, inB_iff.1 gp, amtB_iff.1 gl, HCAN.out.2.2⟩)
    obtain ⟨⟨q0, q1⟩, ⟨d0, d1⟩, ⟨m0, m1⟩, ⟨e0, e1⟩⟩ := pd_bd HH.out
    obtain ⟨z0, z1⟩ := pdV_bd HH.out
    obtain ⟨v0, v1⟩ := HCAN.out.2.1
    obtain ⟨p0, p1⟩ := inB_iff.1 gp
    obtain ⟨l0, l1⟩ := amtB_iff.1 gl
    have HD := hide (show canP x y n n' (v * 2 / p) r from ⟨HCAN.out.1, ⟨q0, by omega⟩, HCAN.out.2.2⟩)
    have hne : ¬ p = 0 := by omega
    have HZ := hide (show max (p * dueV x y n (v * 2 / p) r / 2) (dueV x y n v r - l) = pdV x y n v p l r from rfl)
    have HZA := hide (amtB_yes ⟨z0, z1⟩)
    go_enter Try.func46, Try.ntmps46
    go_wp2_with fail
    rw [← HWW.out]
    clear HWW
    refine (specCan_any w.heap.size A A' n c n' c' x y v r W hn hn' HC0.out HC1.out HS.out HS'.out).mono ?_
    rw [hct]
    rintro e w' ⟨rfl, q, rfl⟩
    go_wp2_with (first | (go_at_call 50; refine (specCents_any _ _ ).mono ?_; rintro e w' ⟨rfl, rfl⟩) | (go_at_call 57; refine (specIn_any _ _ _ _ ).mono ?_; rintro e w' ⟨rfl, rfl⟩))
    go_wp2_with fail
    refine (specDue_any w.heap.size A A' n c n' c' x y (v * 2 / p) r _ (by exact HC0.out) (by exact HC1.out) (by exact HS.out) (by exact HS'.out) HD.out).mono ?_
    rintro e w' ⟨rfl, q2, rfl⟩
    go_wp2_with fail
    refine (specDue_any w.heap.size A A' n c n' c' x y v r _ (by exact HC0.out) (by exact HC1.out) (by exact HS.out) (by exact HS'.out) HCAN.out).mono ?_
    rintro e w' ⟨rfl, q3, rfl⟩
    go_wp2_with fail
    refine (specMx_any _ _ _).mono ?_
    rw [HZ.out]
    rintro e w' ⟨rfl, rfl⟩
    have hza := HZA.out
    go_wp2_with (first | (go_at_call 50; refine (specCents_any _ _ ).mono ?_; rintro e w' ⟨rfl, rfl⟩) | (go_at_call 58; refine (specRate_any _ _ ).mono ?_; rintro e w' ⟨rfl, rfl⟩) | (go_at_call 63; refine (specWay_any _ _ ).mono ?_; rintro e w' ⟨rfl, rfl⟩) | (go_at_call 57; refine (specIn_any _ _ _ _ ).mono ?_; rintro e w' ⟨rfl, rfl⟩))
    go_ret2
    exact ⟨ret_yes HH.out, bel_dN HBW.out _⟩
  · have hct := tru_no hcan
    have HH := hide (show ¬ pdP x y n n' v p l r from fun h => hcan ⟨h.1, h.2.1, h.2.2.2.2⟩)
    clear hcan
    go_enter Try.func46, Try.ntmps46
    go_wp2_with fail
    rw [← HWW.out]
    clear HWW
    refine (specCan_any w.heap.size A A' n c n' c' x y v r W hn hn' HC0.out HC1.out HS.out HS'.out).mono ?_
    rw [hct]
    rintro e w' ⟨rfl, q, rfl⟩
    go_wp2_with (first | (go_at_call 50; refine (specCents_any _ _ ).mono ?_; rintro e w' ⟨rfl, rfl⟩) | (go_at_call 58; refine (specRate_any _ _ ).mono ?_; rintro e w' ⟨rfl, rfl⟩) | (go_at_call 63; refine (specWay_any _ _ ).mono ?_; rintro e w' ⟨rfl, rfl⟩) | (go_at_call 57; refine (specIn_any _ _ _ _ ).mono ?_; rintro e w' ⟨rfl, rfl⟩))
    go_ret2
    exact ⟨ret_no HH.out, bel_dN HBW.out _⟩
set_option maxHeartbeats 4000000 in
theorem implPartsDue_any (A A' : Option Addr) (n c n' c' : Nat) (x y : Nat → Int) (v p l r : Int) (w : World) (hn : n ≤ maxLen) (hn' : n' ≤ maxLen)
    (hs : SL w A n (fun j => .int .i64 (x j))) (hs' : SL w A' n' (fun j => .int .i64 (y j))) :
    Calls Try.prog 47 #[.agg #[.slice A n c, .slice A' n' c'], .int .i64 v, .int .i64 p, .int .i64 l, .int .i64 r] w fun e w' => e = .returned (.tuple #[.int .i64 (ifV (pdP x y n n' v p l r) (pdV x y n v p l r)), .bool (tru (pdP x y n n' v p l r))]) ∧ Below w.heap.size w w' := by
  obtain ⟨W, hW⟩ : ∃ u, u = (w.alloc (.cells #[.slice A n c, .slice A' n' c'] 59)).alloc (.cells #[.int .i64 v, .int .i64 l] 2) := ⟨_, rfl⟩
  have HB : Hid (Below w.heap.size w W) := by rw [hW]; exact ((Below.refl w.heap.size w).alloc (Nat.le_refl _) _).alloc (by simp) _
  have HXS : Hid (W.heap[w.heap.size]? = some (.cells #[.slice A n c, .slice A' n' c'] 59)) := by rw [hW]; exact (blocks2 w _ _).1
  have HP : Hid (W.heap[w.heap.size + 1]? = some (.cells #[.int .i64 v, .int .i64 l] 2)) := by rw [hW]; exact (blocks2 w _ _).2
  have HZB : Hid (w.heap.size < W.heap.size) := by rw [hW]; exact (by simp; omega : w.heap.size < ((w.alloc (.cells #[.slice A n c, .slice A' n' c'] 59)).alloc (.cells #[.int .i64 v, .int .i64 l] 2)).heap.size)
  have HS := hide (hs.below HB.out)
  have HS' := hide (hs'.below HB.out)
  have HWW := hide hW
  clear hs hs' hW
  cases gv : amtB v
  · have HH := hide (show ¬ pdP x y n n' v p l r from fun h => by rw [amtB_yes h.2.1] at gv; cases gv)
    go_enter Try.func47, Try.ntmps47
    go_wp2_with fail
    rw [← HWW.out]
    clear HWW
    refine (implAmounts2_any (w.heap.size + 1) v l W HP.out).mono ?_
    rintro e w' ⟨rfl, rfl⟩
    have k0 := Joins.cell_of_block HXS.out 0
    have k1 := Joins.cell_of_block HXS.out 1
    simp at k0 k1
    go_wp2_with fail
    all_goals
      go_ret2
      exact ⟨ret_no HH.out, HB.out⟩
  cases gl : amtB l
  · have HH := hide (show ¬ pdP x y n n' v p l r from fun h => by rw [amtB_yes h.2.2.2.1] at gl; cases gl)
    go_enter Try.func47, Try.ntmps47
    go_wp2_with fail
    rw [← HWW.out]
    clear HWW
    refine (implAmounts2_any (w.heap.size + 1) v l W HP.out).mono ?_
    rintro e w' ⟨rfl, rfl⟩
    have k0 := Joins.cell_of_block HXS.out 0
    have k1 := Joins.cell_of_block HXS.out 1
    simp at k0 k1
    go_wp2_with fail
    all_goals
      go_ret2
      exact ⟨ret_no HH.out, HB.out⟩
  cases gp : inB p 2 16
  · have HH := hide (show ¬ pdP x y n n' v p l r from fun h => by rw [inB_yes h.2.2.1] at gp; cases gp)
    go_enter Try.func47, Try.ntmps47
    go_wp2_with fail
    rw [← HWW.out]
    clear HWW
    refine (implAmounts2_any (w.heap.size + 1) v l W HP.out).mono ?_
    rintro e w' ⟨rfl, rfl⟩
    have k0 := Joins.cell_of_block HXS.out 0
    have k1 := Joins.cell_of_block HXS.out 1
    simp at k0 k1
    go_wp2_with (first | (go_at_call 61; refine (implWithin_any _ _ _ _ ).mono ?_; rintro e w' ⟨rfl, rfl⟩))
    go_ret2
    exact ⟨ret_no HH.out, HB.out⟩
  obtain ⟨v0, v1⟩ := amtB_iff.1 gv
  obtain ⟨l0, l1⟩ := amtB_iff.1 gl
  obtain ⟨p0, p1⟩ := inB_iff.1 gp
  have hne : ¬ p = 0 := by omega
  by_cases hcan : canP x y n n' v r
  · have HH := hide (show pdP x y n n' v p l r from ⟨hcan.1, hcan.2.1, ⟨p0, p1⟩, ⟨l0, l1⟩, hcan.2.2⟩)
    have HCAN := hide hcan
    obtain ⟨⟨q0, q1⟩, ⟨d0, d1⟩, ⟨m0, m1⟩, ⟨e0, e1⟩⟩ := pd_bd HH.out
    have HD := hide (show canP x y n n' (v * 2 / p) r from ⟨hcan.1, ⟨q0, by omega⟩, hcan.2.2⟩)
    have HZ := hide (show max (p * dueV x y n (v * 2 / p) r / 2) (dueV x y n v r - l) = pdV x y n v p l r from rfl)
    clear hcan
    go_enter Try.func47, Try.ntmps47
    go_wp2_with fail
    rw [← HWW.out]
    clear HWW
    refine (implAmounts2_any (w.heap.size + 1) v l W HP.out).mono ?_
    rintro e w' ⟨rfl, rfl⟩
    have k0 := Joins.cell_of_block HXS.out 0
    have k1 := Joins.cell_of_block HXS.out 1
    simp at k0 k1
    have HRD : Hid (∀ (d : Nat) (os : Array Obj), Calls Try.prog 79 #[.agg #[.slice A n c, .slice A' n' c'], .int .i64 (v * 2 / p), .int .i64 r] («Sort».grow (redrawn W d) os) fun e w' => e = .returned (.tuple #[.int .i64 (dueV x y n (v * 2 / p) r), .bool true]) ∧ Below («Sort».grow (redrawn W d) os).heap.size («Sort».grow (redrawn W d) os) w') := by
      intro d os
      exact implDueOf_yes A A' n c n' c' x y (v * 2 / p) r _ hn hn' (HS.out.below (below_regrown _ _ _)) (HS'.out.below (below_regrown _ _ _)) HD.out
    have K0 := cell_regrown k0
    have K1 := cell_regrown k1
    go_wp2_with (first | (go_at_call 61; refine (implWithin_any _ _ _ _ ).mono ?_; rintro e w' ⟨rfl, rfl⟩))
    refine wp_region_quiet_below (by kernel_rfl) (by kernel_rfl) ?_
    repeat (first | go_big_quiet_step (exact Calls.regrown_of (HRD.out _ _)) | quiet_step (exact Calls.regrown_of (HRD.out _ _)))
    refine wpQuiet_nil ?_
    intro w1 hw1
    have HBB1 : Hid (Below W.heap.size W w1) := by
      obtain ⟨⟨dq, osq⟩, h⟩ := hw1
      rw [h]; exact below_regrown W dq osq
    have HB1 := hide (HB.out.trans (HBB1.out.mono HB.out.size))
    have HXS1 := hide (blk_below HBB1.out HZB.out HXS.out)
    clear hw1 k0 k1 K0 K1
    have k0 := Joins.cell_of_block HXS1.out 0
    have k1 := Joins.cell_of_block HXS1.out 1
    simp at k0 k1
    go_wp2_with fail
    refine (implDueOf_yes A A' n c n' c' x y v r _ hn hn' (HS.out.below HBB1.out) (HS'.out.below HBB1.out) HCAN.out).mono ?_
    rintro e w2 ⟨rfl, hb⟩
    have HB2 := hide (HB1.out.trans (hb.mono HB1.out.size))
    clear hb k0 k1
    go_wp2
    all_goals
      go_ret2
      exact ⟨ret_val HH.out (by have := HZ.out; omega), HB2.out⟩
  · have HCAN := hide hcan
    have HH := hide (show ¬ pdP x y n n' v p l r from fun h => hcan ⟨h.1, h.2.1, h.2.2.2.2⟩)
    have q0 : 0 ≤ v * 2 / p := Int.ediv_nonneg (by omega) (by omega)
    have q1 : v * 2 / p ≤ v * 2 := Int.ediv_le_self _ (by omega)
    have HD := hide (show ¬ canP x y n n' (v * 2 / p) r from fun h => hcan ⟨h.1, ⟨v0, v1⟩, h.2.2⟩)
    clear hcan
    go_enter Try.func47, Try.ntmps47
    go_wp2_with fail
    rw [← HWW.out]
    clear HWW
    refine (implAmounts2_any (w.heap.size + 1) v l W HP.out).mono ?_
    rintro e w' ⟨rfl, rfl⟩
    have k0 := Joins.cell_of_block HXS.out 0
    have k1 := Joins.cell_of_block HXS.out 1
    simp at k0 k1
    have HRD : Hid (∀ (d : Nat) (os : Array Obj), Calls Try.prog 79 #[.agg #[.slice A n c, .slice A' n' c'], .int .i64 (v * 2 / p), .int .i64 r] («Sort».grow (redrawn W d) os) fun e w' => e = .returned (.tuple #[.int .i64 0, .bool false]) ∧ Below («Sort».grow (redrawn W d) os).heap.size («Sort».grow (redrawn W d) os) w') := by
      intro d os
      exact implDueOf_no A A' n c n' c' x y (v * 2 / p) r _ hn hn' (HS.out.below (below_regrown _ _ _)) (HS'.out.below (below_regrown _ _ _)) HD.out
    have K0 := cell_regrown k0
    have K1 := cell_regrown k1
    go_wp2_with (first | (go_at_call 61; refine (implWithin_any _ _ _ _ ).mono ?_; rintro e w' ⟨rfl, rfl⟩))
    refine wp_region_quiet_below (by kernel_rfl) (by kernel_rfl) ?_
    repeat (first | go_big_quiet_step (exact Calls.regrown_of (HRD.out _ _)) | quiet_step (exact Calls.regrown_of (HRD.out _ _)))
    refine wpQuiet_nil ?_
    intro w1 hw1
    have HBB1 : Hid (Below W.heap.size W w1) := by
      obtain ⟨⟨dq, osq⟩, h⟩ := hw1
      rw [h]; exact below_regrown W dq osq
    have HB1 := hide (HB.out.trans (HBB1.out.mono HB.out.size))
    have HXS1 := hide (blk_below HBB1.out HZB.out HXS.out)
    clear hw1 k0 k1 K0 K1
    have k0 := Joins.cell_of_block HXS1.out 0
    have k1 := Joins.cell_of_block HXS1.out 1
    simp at k0 k1
    go_wp2_with fail
    refine (implDueOf_no A A' n c n' c' x y v r _ hn hn' (HS.out.below HBB1.out) (HS'.out.below HBB1.out) HCAN.out).mono ?_
    rintro e w2 ⟨rfl, hb⟩
    have HB2 := hide (HB1.out.trans (hb.mono HB1.out.size))
    clear hb k0 k1
    go_wp2
    go_ret2
    exact ⟨ret_no HH.out, HB2.out⟩
end Go.Proofs.Ytfkndehhepplbaa
