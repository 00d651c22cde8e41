/- What rows are, and which is the first one to fit, by both. -/
import Derived.Test.YtjndhcdanpnniaaRe
import Derived.Test.YtjndhcdanpnniaaLs
import Derived.Test.YtjndhcdanpnniaaP5
namespace Go.Proofs.Ytjndhcdanpnniaa
open Go.RowKit Go.Dues
theorem retBw {a b : Bool} (h : a = b) : Ending.returned (.bool a) = .returned (.bool b) := by rw [h]
theorem retIw {a b : Int} (h : a = b) : Ending.returned (.int .i64 a) = .returned (.int .i64 b) := by rw [h]
theorem beq_no {a b : Int} (h : ¬ a = b) : (a == b) = false := by rw [beq_eq_false_iff_ne]; exact h
theorem bne_yes {a b : Int} (h : ¬ a = b) : (a != b) = true := by rw [bne_iff_ne]; exact h
theorem bne_no {a b : Int} (h : a = b) : (a != b) = false := by rw [h]; simp
/-- the numbers of rows fit -/
def wx64 (x : Nat → Int) (n : Nat) : Prop := ∀ j, j < n * 3 → -9223372036854775808 ≤ x j ∧ x j ≤ 9223372036854775807
set_option maxRecDepth 100000 in
set_option maxHeartbeats 4000000 in
theorem specRows_any (c : Int) (A : Option Addr) (n d : Nat) (x : Nat → Int) (w : World) (hn : n ≤ maxLen) (hs : SL w A (n * 3) (fun j => .int .i64 (x j))) :
    Calls Try.prog 121 #[.int .i64 c, .slice A n d] w fun e w' => e = .returned (.bool (tru (rowsP c x n))) ∧ ∃ u, w' = w.drewN u := by
  unfold maxLen at hn
  have HC := cells3_row hs
  clear hs
  cases gc : inB c 1 8
  · skip
    have HT := hide (tru_no (show ¬ rowsP c x n from fun h => by rw [inB_yes h.1] at gc; cases gc))
    go_enter Try.func121, Try.ntmps121
    go_wp2_with (first | (go_at_call 90; refine (specIn_any _ _ _ _).mono ?_; rintro e w' ⟨rfl, rfl⟩) | go_in)
    go_ret
    exact ⟨retBw HT.out.symm, 0, rfl⟩
  by_cases h1 : (n : Int) < 1
  · skip
    have HT := hide (tru_no (show ¬ rowsP c x n from fun h => by have := h.2.1.1; omega))
    go_enter Try.func121, Try.ntmps121
    go_wp2_with (first | (go_at_call 90; refine (specIn_any _ _ _ _).mono ?_; rintro e w' ⟨rfl, rfl⟩) | go_in)
    go_ret
    exact ⟨retBw HT.out.symm, 0, rfl⟩
  by_cases h2 : (32 : Int) < (n : Int)
  · have h1d : decide ((n : Int) < 1) = false := decide_eq_false h1
    have HT := hide (tru_no (show ¬ rowsP c x n from fun h => by have := h.2.1.2; omega))
    go_enter Try.func121, Try.ntmps121
    go_wp2_with (first | (go_at_call 90; refine (specIn_any _ _ _ _).mono ?_; rintro e w' ⟨rfl, rfl⟩) | go_in)
    go_ret
    exact ⟨retBw HT.out.symm, 0, rfl⟩
  have h1d : decide ((n : Int) < 1) = false := decide_eq_false h1
  have h2d : decide ((32 : Int) < (n : Int)) = false := decide_eq_false h2
  obtain ⟨c0, c1⟩ := inB_iff.1 gc
  obtain ⟨T, hT⟩ : ∃ T : Nat, tsz c = T := ⟨_, rfl⟩
  have hw := tsz_wrap ⟨c0, c1⟩
  have hb := tsz_bd ⟨c0, c1⟩
  rw [hT] at hw hb
  obtain ⟨hw1, hw2⟩ := hw
  obtain ⟨t0, t1⟩ := hb
  have HWR := hide (show IntKind.i64.wrap ((T : Int) - 1) = (T : Int) - 1 from Go.IntWalk.i64_in _ (by omega))
  have HTT := hide hT
  have HCC := hide (show 1 ≤ c ∧ c ≤ 8 from ⟨c0, c1⟩)
  clear hT
  go_enter Try.func121, Try.ntmps121
  go_wp2_with (first | (go_at_call 90; refine (specIn_any _ _ _ _).mono ?_; rintro e w' ⟨rfl, rfl⟩) | go_in)
  clear gc
  go_loopw [5, 6, 22] (fun _ _ i wr => ∃ k u : Nat, k ≤ n ∧ i = .int .i64 k ∧ Hid (∀ j, j < k → rowP x T j) ∧ wr = w.drewN u) (fun _ _ i _ => n - (intOf i).toNat)
  case atStart => exact ⟨0, 0, Nat.zero_le _, rfl, fun j hj => absurd hj (by omega), rfl⟩
  case round =>
    obtain ⟨k, u, hk, rfl, hgood, hwr⟩ := hrel
    have HU := hide hwr
    by_cases hlt : k < n
    · obtain ⟨b, off, rfl, hb, d0, d1, d2⟩ := HC.out k hlt
      replace d0 : wr.cell? ⟨b, off + k * 3, none⟩ = some (.int .i64 (x (k * 3))) := by rw [hwr]; exact d0
      replace d1 : wr.cell? ⟨b, off + k * 3 + 1, none⟩ = some (.int .i64 (x (k * 3 + 1))) := by rw [hwr]; exact d1
      replace d2 : wr.cell? ⟨b, off + k * 3 + 2, none⟩ = some (.int .i64 (x (k * 3 + 2))) := by rw [hwr]; exact d2
      clear hwr
      cases g0 : inB (x (k * 3)) 0 ((T : Int) - 1)
      · skip
        have HT := hide (tru_no (show ¬ rowsP c x n from fun h => by have q := (h.2.2 k hlt).1; rw [HTT.out] at q; rw [inB_yes q] at g0; cases g0))
        go_wp2
        go_quiet (((go_at_call 90; (try rw [HWR.out]); exact Calls.quiet_of_same ((specIn_any _ _ _ _).mono fun _ _ ⟨h, h'⟩ => ⟨h, h'.symm⟩))))
        go_wp2
        go_ret
        exact ⟨retBw HT.out.symm, _, by rw [HU.out, World.drewN_drewN]⟩
      cases g1 : inB (x (k * 3 + 1)) 0 (x (k * 3))
      · skip
        have HT := hide (tru_no (show ¬ rowsP c x n from fun h => by rw [inB_yes (h.2.2 k hlt).2.1.1] at g1; cases g1))
        go_wp2
        go_quiet (((go_at_call 90; (try rw [HWR.out]); exact Calls.quiet_of_same ((specIn_any _ _ _ _).mono fun _ _ ⟨h, h'⟩ => ⟨h, h'.symm⟩))))
        go_wp2
        go_ret
        exact ⟨retBw HT.out.symm, _, by rw [HU.out, World.drewN_drewN]⟩
      by_cases g2 : bits .and .i64 (x (k * 3 + 1)) (x (k * 3)) = x (k * 3 + 1)
      rotate_left
      · have g2d := bne_yes g2
        have HT := hide (tru_no (show ¬ rowsP c x n from fun h => g2 (h.2.2 k hlt).2.1.2))
        go_wp2
        go_quiet (((go_at_call 90; (try rw [HWR.out]); exact Calls.quiet_of_same ((specIn_any _ _ _ _).mono fun _ _ ⟨h, h'⟩ => ⟨h, h'.symm⟩))))
        go_wp2
        go_ret
        exact ⟨retBw HT.out.symm, _, by rw [HU.out, World.drewN_drewN]⟩
      have g2d := bne_no g2
      cases g3 : inB (x (k * 3 + 2)) 0 100
      · have G2 := hide g2
        clear g2
        have HT := hide (tru_no (show ¬ rowsP c x n from fun h => by rw [inB_yes (h.2.2 k hlt).2.2] at g3; cases g3))
        go_wp2
        go_quiet (((go_at_call 90; (try rw [HWR.out]); exact Calls.quiet_of_same ((specIn_any _ _ _ _).mono fun _ _ ⟨h, h'⟩ => ⟨h, h'.symm⟩))))
        go_wp2
        go_ret
        exact ⟨retBw HT.out.symm, _, by rw [HU.out, World.drewN_drewN]⟩
      have HE := hide (show rowP x T k from ⟨inB_iff.1 g0, ⟨inB_iff.1 g1, g2⟩, inB_iff.1 g3⟩)
      clear g2
      go_wp2
      go_quiet (((go_at_call 90; (try rw [HWR.out]); exact Calls.quiet_of_same ((specIn_any _ _ _ _).mono fun _ _ ⟨h, h'⟩ => ⟨h, h'.symm⟩))))
      go_wp2
      clear g0 g1 g2d g3 d0 d1 d2
      go_roundw
      case rel => exact ⟨k + 1, _, by omega, by go_num, (fun j hj => by
        by_cases hjk : j = k
        · subst hjk; exact HE.out
        · exact hgood.out j (by omega)), by rw [HU.out, World.drewN_drewN]⟩
      case measure => simp [intOf]; omega
    · obtain rfl : k = n := by omega
      have HT := hide (tru_yes (show rowsP c x k from ⟨HCC.out, ⟨by omega, by omega⟩, by rw [HTT.out]; exact hgood.out⟩))
      go_wp2
      go_ret
      first | exact ⟨retBw HT.out.symm, _, HU.out⟩ | exact ⟨retBw HT.out.symm, _, rfl⟩
set_option maxHeartbeats 1000000 in
theorem implTable_any (c : Int) (w : World) (hc : 1 ≤ c ∧ c ≤ 8) : Calls Try.prog 118 #[.int .i64 c] w fun e w' => e = .returned (.int .i64 (tsz c)) ∧ w = w' := by
  obtain ⟨c0, c1⟩ := hc
  obtain ⟨hw1, hw2⟩ := tsz_wrap ⟨c0, c1⟩
  go_enter Try.func118, Try.ntmps118
  go_wp2
  go_ret
  exact ⟨rfl, rfl⟩
def row3 (a0 a1 a2 : Int) (T : Nat) : Prop := (0 ≤ a0 ∧ a0 ≤ (T : Int) - 1) ∧ bits .andNot .i64 a1 a0 = 0 ∧ (0 ≤ a2 ∧ a2 ≤ 100)
theorem row3_iff {x : Nat → Int} {T j : Nat} (h : -9223372036854775808 ≤ x (j * 3 + 1) ∧ x (j * 3 + 1) ≤ 9223372036854775807) (hT : T ≤ 256) : row3 (x (j * 3)) (x (j * 3 + 1)) (x (j * 3 + 2)) T ↔ rowP x T j := by
  unfold row3 rowP
  constructor
  · rintro ⟨h0, h1, h2⟩
    rw [sub_iff h.1 h.2 h0.1 (by omega)] at h1
    exact ⟨h0, h1, h2⟩
  · rintro ⟨h0, h1, h2⟩
    exact ⟨h0, (sub_iff h.1 h.2 h0.1 (by omega)).2 h1, h2⟩
set_option maxRecDepth 100000 in
set_option maxHeartbeats 2000000 in
theorem implIsRow_any (c a0 a1 a2 : Int) (w : World) (hc : 1 ≤ c ∧ c ≤ 8) : Calls Try.prog 124 #[.int .i64 c, .agg #[.int .i64 a0, .int .i64 a1, .int .i64 a2]] w fun e w' => e = .returned (.bool (tru (row3 a0 a1 a2 (tsz c)))) ∧ Below w.heap.size w w' := by
  obtain ⟨c0, c1⟩ := hc
  have hw := tsz_wrap ⟨c0, c1⟩
  have hb := tsz_bd ⟨c0, c1⟩
  have hcc : 1 ≤ c ∧ c ≤ 8 := ⟨c0, c1⟩
  have HQT := fun w => hide (implTable_any c w hcc)
  obtain ⟨T, hT⟩ : ∃ T : Nat, tsz c = T := ⟨_, rfl⟩
  rw [hT] at hw hb HQT ⊢
  obtain ⟨hw1, hw2⟩ := hw
  obtain ⟨t0, t1⟩ := hb
  have HWR := hide (show IntKind.i64.wrap ((T : Int) - 1) = (T : Int) - 1 from Go.IntWalk.i64_in _ (by omega))
  have HTT := hide hT
  clear hT hcc hw1 hw2
  cases g0 : inB a0 0 ((T : Int) - 1)
  · skip
    have HB := hide (tru_no (show ¬ row3 a0 a1 a2 T from fun h => by rw [inB_yes h.1] at g0; cases g0))
    go_enter Try.func124, Try.ntmps124
    go_wp2
    go_quiet ((first | (go_at_call 92; (try rw [HWR.out]); exact Calls.quiet_of_same ((implWithin_any _ _ _ _).mono fun _ _ ⟨h, h'⟩ => ⟨h, h'.symm⟩)) | (go_at_call 118; (try rw [HWR.out]); exact Calls.quiet_of_same (((HQT _).out).mono fun _ _ ⟨h, h'⟩ => ⟨h, h'.symm⟩))))
    go_wp2
    go_ret
    exact ⟨retBw HB.out.symm, bel_drewN ((Below.refl w.heap.size w).alloc (Nat.le_refl _) _) _⟩
  by_cases g1 : bits .andNot .i64 a1 a0 = 0
  rotate_left
  · have g1d : (bits .andNot .i64 a1 a0 == 0) = false := beq_no g1
    have HB := hide (tru_no (show ¬ row3 a0 a1 a2 T from fun h => g1 h.2.1))
    go_enter Try.func124, Try.ntmps124
    go_wp2
    go_quiet ((first | (go_at_call 92; (try rw [HWR.out]); exact Calls.quiet_of_same ((implWithin_any _ _ _ _).mono fun _ _ ⟨h, h'⟩ => ⟨h, h'.symm⟩)) | (go_at_call 118; (try rw [HWR.out]); exact Calls.quiet_of_same (((HQT _).out).mono fun _ _ ⟨h, h'⟩ => ⟨h, h'.symm⟩))))
    go_wp2
    go_ret
    exact ⟨retBw HB.out.symm, bel_drewN ((Below.refl w.heap.size w).alloc (Nat.le_refl _) _) _⟩
  have g1d : (bits .andNot .i64 a1 a0 == 0) = true := by rw [g1]; rfl
  have HG := hide g1
  clear g1
  cases g2 : inB a2 0 100
  · skip
    have HB := hide (tru_no (show ¬ row3 a0 a1 a2 T from fun h => by rw [inB_yes h.2.2] at g2; cases g2))
    go_enter Try.func124, Try.ntmps124
    go_wp2
    go_quiet ((first | (go_at_call 92; (try rw [HWR.out]); exact Calls.quiet_of_same ((implWithin_any _ _ _ _).mono fun _ _ ⟨h, h'⟩ => ⟨h, h'.symm⟩)) | (go_at_call 118; (try rw [HWR.out]); exact Calls.quiet_of_same (((HQT _).out).mono fun _ _ ⟨h, h'⟩ => ⟨h, h'.symm⟩))))
    go_wp2
    go_ret
    exact ⟨retBw HB.out.symm, bel_drewN ((Below.refl w.heap.size w).alloc (Nat.le_refl _) _) _⟩
  have HB := hide (tru_yes (show row3 a0 a1 a2 T from ⟨inB_iff.1 g0, HG.out, inB_iff.1 g2⟩))
  go_enter Try.func124, Try.ntmps124
  go_wp2
  go_quiet ((first | (go_at_call 92; (try rw [HWR.out]); exact Calls.quiet_of_same ((implWithin_any _ _ _ _).mono fun _ _ ⟨h, h'⟩ => ⟨h, h'.symm⟩)) | (go_at_call 118; (try rw [HWR.out]); exact Calls.quiet_of_same (((HQT _).out).mono fun _ _ ⟨h, h'⟩ => ⟨h, h'.symm⟩))))
  go_wp2
  go_ret
  exact ⟨retBw HB.out.symm, bel_drewN ((Below.refl w.heap.size w).alloc (Nat.le_refl _) _) _⟩
set_option maxHeartbeats 2000000 in
theorem fnRow_any (c a0 a1 a2 : Int) (P : Nat) (w : World) (hc : 1 ≤ c ∧ c ≤ 8) (h : w.heap[P]? = some (.cells #[.int .i64 c] 2)) : Calls Try.prog 123 #[.agg #[.int .i64 a0, .int .i64 a1, .int .i64 a2], .pointer (some ⟨P, 0, none⟩)] w fun e w' => e = .returned (.bool (!tru (row3 a0 a1 a2 (tsz c)))) ∧ Below w.heap.size w w' := by
  obtain ⟨W, hW⟩ : ∃ u, u = w.alloc (.cells #[.int .i64 a0, .int .i64 a1, .int .i64 a2] 74) := ⟨_, rfl⟩
  have HBW : Hid (Below w.heap.size w W) := by rw [hW]; exact (Below.refl w.heap.size w).alloc (Nat.le_refl _) _
  have hP := (Array.getElem?_eq_some_iff.1 h).1
  have k0 := Joins.cell_of_block (blk_below HBW.out hP h) 0
  simp at k0
  have k1 := k0
  rw [hW] at k1
  have HI := hide (implIsRow_any c a0 a1 a2 W hc)
  have HWW := hide hW
  clear hW h k0
  go_enter Try.func123, Try.ntmps123
  go_wp2_with fail
  rw [← HWW.out]
  clear HWW k1
  refine HI.out.mono ?_
  rintro e w1 ⟨rfl, hb⟩
  have HB := hide (HBW.out.trans (hb.mono HBW.out.size))
  clear hb
  go_wp2
  go_ret
  exact ⟨rfl, HB.out⟩
set_option maxRecDepth 100000 in
set_option maxHeartbeats 4000000 in
theorem indexRows_any (c : Int) (A : Option Addr) (n d : Nat) (x : Nat → Int) (P : Nat) (w : World) (hn : n ≤ maxLen) (hc : 1 ≤ c ∧ c ≤ 8) (hx : wx64 x n) (hs : SL w A (n * 3) (fun j => .int .i64 (x j))) (h : w.heap[P]? = some (.cells #[.int .i64 c] 2)) :
    Calls Try.prog 184 #[.slice A n d, .func (Fn.func 123) #[] #[.pointer (some ⟨P, 0, none⟩)]] w fun e w' => ∃ r : Int, e = .returned (.int .i64 r) ∧ ((0 ≤ r ∧ ∃ j, j < n ∧ ¬ rowP x (tsz c) j) ∨ (r = -1 ∧ ∀ j, j < n → rowP x (tsz c) j)) ∧ Below w.heap.size w w' := by
  unfold maxLen at hn
  have HC := cells3_row hs
  have HX := hide hx
  have HCC := hide hc
  have HP := hide h
  have hP := (Array.getElem?_eq_some_iff.1 h).1
  clear hs hx h hc
  go_enter Try.func184, Try.ntmps184
  go_wp2
  go_loopw [5, 8] (fun _ i wr => ∃ k : Nat, k ≤ n ∧ i = .int .i64 k ∧ Hid (∀ j, j < k → rowP x (tsz c) j) ∧ Below w.heap.size w wr) (fun _ i _ => n - (intOf i).toNat)
  case atStart => exact ⟨0, Nat.zero_le _, rfl, fun j hj => absurd hj (by omega), Below.refl _ _⟩
  case round =>
    obtain ⟨k, hk, rfl, hgood, hbel⟩ := hrel
    by_cases hlt : k < n
    · obtain ⟨b, off, rfl, hb, c0, c1, c2⟩ := HC.out k hlt
      have d0 := (hbel.cell (p := ⟨b, off + k * 3, none⟩) hb).trans c0
      have d1 := (hbel.cell (p := ⟨b, off + k * 3 + 1, none⟩) hb).trans c1
      have d2 := (hbel.cell (p := ⟨b, off + k * 3 + 2, none⟩) hb).trans c2
      have HBP := hide (blk_below hbel hP HP.out)
      have HBEL := hide hbel
      clear hbel c0 c1 c2
      go_wp2_with fail
      refine (fnRow_any c (x (k * 3)) (x (k * 3 + 1)) (x (k * 3 + 2)) P _ HCC.out HBP.out).mono ?_
      rintro e w1 ⟨rfl, hb1⟩
      have HB1 := hide (HBEL.out.trans (hb1.mono HBEL.out.size))
      clear hb1 d0 d1 d2
      cases ge : tru (row3 (x (k * 3)) (x (k * 3 + 1)) (x (k * 3 + 2)) (tsz c))
      · have HE := hide (show ¬ rowP x (tsz c) k from fun h => by rw [tru_yes ((row3_iff (HX.out _ (by omega)) (tsz_bd HCC.out).2).2 h)] at ge; cases ge)
        go_wp2
        go_ret
        exact ⟨_, rfl, .inl ⟨by omega, k, hlt, HE.out⟩, HB1.out⟩
      · have HE := hide (show rowP x (tsz c) k from (row3_iff (HX.out _ (by omega)) (tsz_bd HCC.out).2).1 (Classical.byContradiction fun h => by rw [tru_no h] at ge; cases ge))
        go_wp2
        clear ge
        go_roundw
        case rel => exact ⟨k + 1, by omega, by go_num, (fun j hj => by
          by_cases hjk : j = k
          · subst hjk; exact HE.out
          · exact hgood.out j (by omega)), HB1.out⟩
        case measure => simp [intOf]; omega
    · obtain rfl : k = n := by omega
      have HBEL := hide hbel
      clear hbel
      go_wp2
      go_ret
      exact ⟨_, rfl, .inr ⟨rfl, hgood.out⟩, HBEL.out⟩
set_option maxHeartbeats 2000000 in
theorem implAreRows_any (c : Int) (A : Option Addr) (n d : Nat) (x : Nat → Int) (w : World) (hn : n ≤ maxLen) (hs : SL w A (n * 3) (fun j => .int .i64 (x j))) (hx : wx64 x n) :
    Calls Try.prog 55 #[.int .i64 c, .slice A n d] w fun e w' => e = .returned (.bool (tru (rowsP c x n))) ∧ Below w.heap.size w w' := by
  obtain ⟨W, hW⟩ : ∃ u, u = w.alloc (.cells #[.int .i64 c] 2) := ⟨_, rfl⟩
  have HBW : Hid (Below w.heap.size w W) := by rw [hW]; exact (Below.refl w.heap.size w).alloc (Nat.le_refl _) _
  have HX : Hid (W.heap[w.heap.size]? = some (.cells #[.int .i64 c] 2)) := by rw [hW]; exact blocks1 w _
  have HBE := hide (show Below w.heap.size w (w.alloc (.cells #[.int .i64 c] 2)) from (Below.refl w.heap.size w).alloc (Nat.le_refl _) _)
  have HI := fun hc => hide (indexRows_any c A n d x w.heap.size W hn hc hx (hs.below HBW.out) HX.out)
  have HWW := hide hW
  unfold maxLen at hn
  clear hs hW hx
  cases gc : inB c 1 8
  · skip
    have HT := hide (tru_no (show ¬ rowsP c x n from fun h => by rw [inB_yes h.1] at gc; cases gc))
    go_enter Try.func55, Try.ntmps55
    go_wp2_with (first | (go_at_call 92; refine (implWithin_any _ _ _ _).mono ?_; rintro e w' ⟨rfl, rfl⟩) | go_in)
    go_ret
    exact ⟨retBw HT.out.symm, HBE.out⟩
  by_cases h1 : (n : Int) < 1
  · skip
    have HT := hide (tru_no (show ¬ rowsP c x n from fun h => by have := h.2.1.1; omega))
    go_enter Try.func55, Try.ntmps55
    go_wp2_with (first | (go_at_call 92; refine (implWithin_any _ _ _ _).mono ?_; rintro e w' ⟨rfl, rfl⟩) | go_in)
    go_ret
    exact ⟨retBw HT.out.symm, HBE.out⟩
  by_cases h2 : (32 : Int) < (n : Int)
  · skip
    have HT := hide (tru_no (show ¬ rowsP c x n from fun h => by have := h.2.1.2; omega))
    have h1d : decide ((n : Int) < 1) = false := decide_eq_false h1
    go_enter Try.func55, Try.ntmps55
    go_wp2_with (first | (go_at_call 92; refine (implWithin_any _ _ _ _).mono ?_; rintro e w' ⟨rfl, rfl⟩) | go_in)
    go_ret
    exact ⟨retBw HT.out.symm, HBE.out⟩
  have h1d : decide ((n : Int) < 1) = false := decide_eq_false h1
  have h2d : decide ((32 : Int) < (n : Int)) = false := decide_eq_false h2
  have HCC := hide (inB_iff.1 gc)
  go_enter Try.func55, Try.ntmps55
  go_wp2_with (first | (go_at_call 92; refine (implWithin_any _ _ _ _).mono ?_; rintro e w' ⟨rfl, rfl⟩) | (go_at_call 184; fail) | (go_at_call 122; go_in))
  clear gc
  rw [← HWW.out]
  clear HWW
  refine (HI HCC.out).out.mono ?_
  rintro e w1 ⟨r, rfl, hr, hb⟩
  have HB := hide (HBW.out.trans (hb.mono HBW.out.size))
  clear hb
  rcases hr with ⟨h0, j, hj, hbad⟩ | ⟨rfl, hall⟩
  · have HT := hide (tru_no (show ¬ rowsP c x n from fun h => hbad (h.2.2 j hj)))
    clear hbad
    go_wp2
    go_ret
    exact ⟨retBw HT.out.symm, HB.out⟩
  · have HT := hide (tru_yes (show rowsP c x n from ⟨HCC.out, ⟨by omega, by omega⟩, hall⟩))
    clear hall
    go_wp2
    go_ret
    exact ⟨retBw HT.out.symm, HB.out⟩
set_option maxHeartbeats 2000000 in
theorem fnFit_any (q a0 a1 a2 : Int) (P : Nat) (w : World) (h : w.heap[P]? = some (.cells #[.int .i64 q] 2)) : Calls Try.prog 185 #[.agg #[.int .i64 a0, .int .i64 a1, .int .i64 a2], .pointer (some ⟨P, 0, none⟩)] w fun e w' => e = .returned (.bool (bits .and .i64 q a0 == a1)) ∧ Below w.heap.size w w' := by
  have hP := (Array.getElem?_eq_some_iff.1 h).1
  have hB := (Below.refl w.heap.size w).alloc (Nat.le_refl _) (.cells #[.int .i64 a0, .int .i64 a1, .int .i64 a2] 74)
  have k0 := Joins.cell_of_block (blk_below hB hP h) 0
  simp at k0
  have HB := hide hB
  clear h hB
  go_enter Try.func185, Try.ntmps185
  go_wp2
  try go_region
  all_goals
    go_wp2
    go_ret
    exact ⟨rfl, HB.out⟩
set_option maxRecDepth 100000 in
set_option maxHeartbeats 4000000 in
theorem indexFit_any (q : Int) (A : Option Addr) (n d : Nat) (x : Nat → Int) (P : Nat) (w : World) (hn : n ≤ maxLen) (hs : SL w A (n * 3) (fun j => .int .i64 (x j))) (h : w.heap[P]? = some (.cells #[.int .i64 q] 2)) :
    Calls Try.prog 184 #[.slice A n d, .func (Fn.func 185) #[] #[.pointer (some ⟨P, 0, none⟩)]] w fun e w' => e = .returned (.int .i64 (fstR x q n)) ∧ Below w.heap.size w w' := by
  unfold maxLen at hn
  have HC := cells3_row hs
  have HP := hide h
  have hP := (Array.getElem?_eq_some_iff.1 h).1
  clear hs h
  go_enter Try.func184, Try.ntmps184
  go_wp2
  go_loopw [5, 8] (fun _ i wr => ∃ k : Nat, k ≤ n ∧ i = .int .i64 k ∧ Hid (∀ j, j < k → fitB x q j = false) ∧ Below w.heap.size w wr) (fun _ i _ => n - (intOf i).toNat)
  case atStart => exact ⟨0, Nat.zero_le _, rfl, fun j hj => absurd hj (by omega), Below.refl _ _⟩
  case round =>
    obtain ⟨k, hk, rfl, hgood, hbel⟩ := hrel
    by_cases hlt : k < n
    · obtain ⟨b, off, rfl, hb, c0, c1, c2⟩ := HC.out k hlt
      have d0 := (hbel.cell (p := ⟨b, off + k * 3, none⟩) hb).trans c0
      have d1 := (hbel.cell (p := ⟨b, off + k * 3 + 1, none⟩) hb).trans c1
      have d2 := (hbel.cell (p := ⟨b, off + k * 3 + 2, none⟩) hb).trans c2
      have HBP := hide (blk_below hbel hP HP.out)
      have HBEL := hide hbel
      clear hbel c0 c1 c2
      go_wp2_with fail
      refine (fnFit_any q (x (k * 3)) (x (k * 3 + 1)) (x (k * 3 + 2)) P _ HBP.out).mono ?_
      rintro e w1 ⟨rfl, hb1⟩
      have HB1 := hide (HBEL.out.trans (hb1.mono HBEL.out.size))
      clear hb1 d0 d1 d2
      cases ge : fitB x q k
      · have gd : (bits .and .i64 q (x (k * 3)) == x (k * 3 + 1)) = false := ge
        have HE := hide ge
        clear ge
        go_wp2
        clear gd
        go_roundw
        case rel => exact ⟨k + 1, by omega, by go_num, (fun j hj => by
          by_cases hjk : j = k
          · subst hjk; exact HE.out
          · exact hgood.out j (by omega)), HB1.out⟩
        case measure => simp [intOf]; omega
      · have gd : (bits .and .i64 q (x (k * 3)) == x (k * 3 + 1)) = true := ge
        have HG := hide (fstR_some ge hgood.out hlt)
        clear ge
        go_wp2
        go_ret
        exact ⟨retIw HG.out.symm, HB1.out⟩
    · obtain rfl : k = n := by omega
      have HG := hide (fstR_none hgood.out)
      have HBEL := hide hbel
      clear hbel
      go_wp2
      go_ret
      exact ⟨retIw HG.out.symm, HBEL.out⟩
theorem implFirst_any (A : Option Addr) (n d : Nat) (x : Nat → Int) (q : Int) (w : World) (hn : n ≤ maxLen) (hs : SL w A (n * 3) (fun j => .int .i64 (x j))) :
    Calls Try.prog 119 #[.slice A n d, .int .i64 q] w fun e w' => e = .returned (.int .i64 (fstR x q n)) ∧ Below w.heap.size w w' := by
  obtain ⟨W, hW⟩ : ∃ u, u = w.alloc (.cells #[.int .i64 q] 2) := ⟨_, rfl⟩
  have HBW : Hid (Below w.heap.size w W) := by rw [hW]; exact (Below.refl w.heap.size w).alloc (Nat.le_refl _) _
  have HX : Hid (W.heap[w.heap.size]? = some (.cells #[.int .i64 q] 2)) := by rw [hW]; exact blocks1 w _
  have HI := hide (indexFit_any q A n d x w.heap.size W hn (hs.below HBW.out) HX.out)
  have HWW := hide hW
  clear hs hW
  go_enter Try.func119, Try.ntmps119
  go_wp2_with fail
  rw [← HWW.out]
  clear HWW
  refine HI.out.mono ?_
  rintro e w1 ⟨rfl, hb⟩
  have HB := hide (HBW.out.trans (hb.mono HBW.out.size))
  clear hb
  go_wp2
  go_ret
  exact ⟨rfl, HB.out⟩
end Go.Proofs.Ytjndhcdanpnniaa
