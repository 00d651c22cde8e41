/- Interest at rates that change, by the program. -/
import Derived.Test.YtbcajjpgpjadaaaIr
import Derived.Lib.QuietBelow
namespace Go.Proofs.Ytbcajjpgpjadaaa
open Go.RowKit Go.Dues
theorem fn_inT (Pa : Nat) (a : Int) (Pb : Nat) (b d : Int) (w : World) (ha : w.heap[Pa]? = some (.cells #[.int .i64 a] 2)) (hb : w.heap[Pb]? = some (.cells #[.int .i64 b] 2)) :
    Calls Try.prog 110 #[.int .i64 d, .pointer (some ⟨Pa, 0, none⟩), .pointer (some ⟨Pb, 0, none⟩)] w fun e w' => e = .returned (.int .i64 (inT a b d)) ∧ w = w' := by
  have ka := Joins.cell_of_block ha 0
  have kb := Joins.cell_of_block hb 0
  simp at ka kb
  clear ha hb
  obtain ⟨V, hV⟩ : ∃ V : Int, (if b < d then b else d) = V := ⟨_, rfl⟩
  obtain ⟨U, hU⟩ : ∃ U : Int, (if a < V then V else a) = U := ⟨_, rfl⟩
  have v0 : V = min d b := by rw [← hV]; split <;> omega
  have HE := hide (show U = inT a b d by rw [← hU, v0]; unfold inT; split <;> omega)
  clear v0
  go_enter Try.func110, Try.ntmps110
  go_wp2
  go_ret
  exact ⟨reti HE.out, rfl⟩
set_option maxRecDepth 100000 in
set_option maxHeartbeats 4000000 in
theorem implRateDays_any (A : Option Addr) (n : Nat) (x : Nat → Int) (w : World) (hn : n ≤ maxLen) (hs : SL w A n (fun j => .int .i64 (x j))) :
    Calls Try.prog 109 #[.slice A n n] w fun e w' => e = .returned (.bool (tru (rdP x n))) ∧ Below w.heap.size w w' := by
  have HA := hide (areAll_isDay A n n x 1 24 w hn hs)
  have HSL := hide hs
  have HSC := cells_a hs
  unfold maxLen at hn
  clear hs
  by_cases hp : allP x n 1 24 0 36524
  · have HP := hide hp
    have n1 : 1 ≤ n := by have := hp.1.1; omega
    have n24 : n ≤ 24 := by have := hp.1.2; omega
    clear hp
    go_enter Try.func109, Try.ntmps109
    go_wp2_with fail
    refine HA.out.mono ?_
    rw [tru_yes HP.out]
    rintro e w1 ⟨rfl, hb1⟩
    have HB1 := hide hb1
    have HC := cells_a (HSL.out.below hb1)
    clear hb1
    obtain ⟨b, off, rfl, _, _⟩ := HC.out 0 (by omega)
    by_cases h1 : n = 1
    · subst h1
      have HT := hide (tru_yes (show rdP x 1 from ⟨⟨by omega, by omega⟩, HP.out.2, fun j hj => absurd hj (by omega)⟩))
      go_wp2
      refine wp_loop_rounds 1 ?_
      rw [rounds_succ]
      go_wp2
      go_ret
      exact ⟨retB1 HT.out.symm, HB1.out⟩
    · obtain ⟨i, rfl⟩ : ∃ i, n = i + 1 := ⟨n - 1, by omega⟩
      have h1d : (i + 1 == 1) = false := by rw [beq_eq_false_iff_ne]; exact h1
      go_wp2
      go_loopw [3, 10] (fun _ q wr => ∃ j : Nat, j ≤ i ∧ q = .int .i64 j ∧ Hid (∀ p, p < j → x p < x (p + 1)) ∧ Below w.heap.size w wr) (fun _ q _ => i - (intOf q).toNat)
      case atStart => exact ⟨0, Nat.zero_le _, rfl, fun p hp => absurd hp (by omega), HB1.out⟩
      case round =>
        obtain ⟨j, hj, rfl, hgood, hbel⟩ := hrel
        by_cases hlt : j < i
        · obtain ⟨b1, off1, e1, hb1, c1⟩ := HSC.out j (by omega)
          injection e1 with e1
          injection e1 with e2 e3
          subst e2 e3
          obtain ⟨b2, off2, e4, hb2, c2⟩ := HSC.out (j + 1) (by omega)
          injection e4 with e4
          injection e4 with e5 e6
          subst e5 e6
          have d1 := (hbel.cell (p := ⟨b, off + j, none⟩) hb1).trans c1
          have d2 := (hbel.cell (p := ⟨b, off + (j + 1), none⟩) hb2).trans c2
          have HBEL := hide hbel
          have z2 : (j : Int) + 1 < ((i + 1 : Nat) : Int) := by omega
          clear c1 c2 hbel
          by_cases hlo : x (j + 1) ≤ x j
          · have hlod : decide (x (j + 1) ≤ x j) = true := decide_eq_true hlo
            have HT := hide (tru_no (show ¬ rdP x (i + 1) from fun h => by have := h.2.2 j (by omega); omega))
            go_wp2_with fail
            go_quiet (fail)
            go_wp2
            go_ret
            exact ⟨retB1 HT.out.symm, bel_w HBEL.out _⟩
          · have hlod : decide (x (j + 1) ≤ x j) = false := decide_eq_false hlo
            have HUP := hide (show x j < x (j + 1) by omega)
            clear hlo
            go_wp2_with fail
            go_quiet (fail)
            go_wp2
            go_roundw
            case rel => exact ⟨j + 1, by omega, by go_num, (fun p hp => by
              by_cases hpj : p = j
              · subst hpj; exact HUP.out
              · exact hgood.out p (by omega)), bel_w HBEL.out _⟩
            case measure => simp [intOf]; omega
        · obtain rfl : j = i := by omega
          have HT := hide (tru_yes (show rdP x (j + 1) from ⟨⟨by omega, n24⟩, HP.out.2, fun p hp => hgood.out p (by omega)⟩))
          have HBEL := hide hbel
          clear hbel
          go_wp2
          go_ret
          exact ⟨retB1 HT.out.symm, HBEL.out⟩
  · have HT := hide (tru_no (show ¬ rdP x n from fun h => hp ⟨⟨by have := h.1.1; omega, by have := h.1.2; omega⟩, h.2.1⟩))
    have HP := hide hp
    clear hp
    go_enter Try.func109, Try.ntmps109
    go_wp2_with fail
    refine HA.out.mono ?_
    rw [tru_no HP.out]
    rintro e w1 ⟨rfl, hb1⟩
    have HB1 := hide hb1
    clear hb1
    go_wp2
    go_ret
    exact ⟨retB1 HT.out.symm, HB1.out⟩
def irQ (c : Int) (x : Nat → Int) (n : Nat) (y : Nat → Int) (k a b : Int) : Nat → Int
  | 0 => 0
  | j + 1 => irQ c x n y k a b j + intV c (y j) k (inT a b (x j)) (irE x n a b j)
theorem irQ_succ (c : Int) (x : Nat → Int) (n : Nat) (y : Nat → Int) (k a b : Int) (j : Nat) : irQ c x n y k a b (j + 1) = irQ c x n y k a b j + intV c (y j) k (inT a b (x j)) (irE x n a b j) := rfl
theorem irQ_eq {c k a b : Int} {x y : Nat → Int} {n : Nat} (hx : rdP x n) (hab : a ≤ b) : ∀ j, irQ c x n y k a b j = irS c x n y k a b j
  | 0 => rfl
  | j + 1 => by rw [irQ_succ, irS_succ, irQ_eq hx hab j, ir_part hx hab]
set_option maxRecDepth 100000 in
set_option maxHeartbeats 8000000 in
theorem implByRates_any (c : Int) (A : Option Addr) (n _n : Nat) (x : Nat → Int) (B : Option Addr) (m cd : Nat) (y : Nat → Int) (k a b : Int) (w : World) (hn : n ≤ maxLen) (hs : SL w A n (fun j => .int .i64 (x j))) (hm : m ≤ maxLen) (hs' : SL w B m (fun j => .int .i64 (y j))) :
    Calls Try.prog 32 #[.int .i64 c, .slice A n n, .slice B m cd, .int .i64 k, .int .i64 a, .int .i64 b] w fun e w' => e = .returned (.tuple #[.int .i64 (ifV (irP c x n y m k a b) (irS c x n y k a b n)), .bool (tru (irP c x n y m k a b))]) ∧ Below w.heap.size w w' := by
  obtain ⟨W, hW⟩ : ∃ u, u = ((w.alloc (.cells #[.int .i64 a] 2)).alloc (.cells #[.int .i64 b] 2)) := ⟨_, rfl⟩
  have HBW : Hid (Below w.heap.size w W) := by rw [hW]; exact ((Below.refl w.heap.size w).alloc (Nat.le_refl _) _).alloc (by simp) _
  have HPA : Hid (W.heap[w.heap.size]? = some (.cells #[.int .i64 a] 2)) := by rw [hW]; exact (blocks2 w _ _).1
  have HPB : Hid (W.heap[w.heap.size + 1]? = some (.cells #[.int .i64 b] 2)) := by rw [hW]; exact (blocks2 w _ _).2
  have HWW := hide hW
  clear hW
  have HZ := hide (show w.heap.size < W.heap.size ∧ w.heap.size + 1 < W.heap.size by rw [HWW.out]; simp; omega)
  have HSW := hide (hs.below HBW.out)
  have HC := cells_a (hs.below HBW.out)
  have HD := cells_a (hs'.below HBW.out)
  have ka := Joins.cell_of_block HPA.out 0
  simp at ka
  have KA := cell_regrown ka
  clear hs hs'
  by_cases hr : rdP x n
  rotate_left
  · have HH := hide (show ¬ irP c x n y m k a b from fun h => hr h.2.2.1)
    have HRD : Hid (∀ (d : Nat) (os : Array Obj), Calls Try.prog 109 #[.slice A n n] («Sort».grow (redrawn W d) os) fun e w' => e = .returned (.bool false) ∧ Below («Sort».grow (redrawn W d) os).heap.size («Sort».grow (redrawn W d) os) w') := by
      intro d os
      have h := implRateDays_any A n x («Sort».grow (redrawn W d) os) hn (HSW.out.below (below_regrown _ _ _))
      rw [tru_no hr] at h
      exact h
    unfold maxLen at hn hm
    clear hr
    go_enter Try.func32, Try.ntmps32
    go_wp2_with fail
    rw [← HWW.out]
    refine wp_region_quiet_below (by kernel_rfl) (by kernel_rfl) ?_
    repeat (first | go_big_quiet_step (exact Calls.regrown_of (HRD.out _ _)) | quiet_step (exact Calls.regrown_of (HRD.out _ _)))
    refine wpQuiet_nil ?_
    intro w1 hw1
    have HB1 : Hid (Below W.heap.size W w1) := by
      obtain ⟨⟨dq, osq⟩, h⟩ := hw1
      rw [h]; exact below_regrown W dq osq
    clear hw1
    go_wp2
    go_ret2
    exact ⟨ret_no HH.out, HBW.out.trans (HB1.out.mono HBW.out.size)⟩
  have HRD : Hid (∀ (d : Nat) (os : Array Obj), Calls Try.prog 109 #[.slice A n n] («Sort».grow (redrawn W d) os) fun e w' => e = .returned (.bool true) ∧ Below («Sort».grow (redrawn W d) os).heap.size («Sort».grow (redrawn W d) os) w') := by
      intro d os
      have h := implRateDays_any A n x («Sort».grow (redrawn W d) os) hn (HSW.out.below (below_regrown _ _ _))
      rw [tru_yes hr] at h
      exact h
  have HR := hide hr
  unfold maxLen at hn hm
  have n1 : 1 ≤ n := hr.1.1
  have n24 : n ≤ 24 := hr.1.2
  clear hr
  by_cases mn : m = n
  rotate_left
  · have HH := hide (show ¬ irP c x n y m k a b from fun h => mn h.2.2.2.1)
    have mnd : ((m : Int) != (n : Int)) = true := by rw [bne_iff_ne]; omega
    have mne : ((m : Int) == (n : Int)) = false := by rw [beq_eq_false_iff_ne]; omega
    go_enter Try.func32, Try.ntmps32
    go_wp2_with fail
    rw [← HWW.out]
    refine wp_region_quiet_below (by kernel_rfl) (by kernel_rfl) ?_
    repeat (first | go_big_quiet_step (exact Calls.regrown_of (HRD.out _ _)) | quiet_step (exact Calls.regrown_of (HRD.out _ _)))
    refine wpQuiet_nil ?_
    intro w1 hw1
    have HB1 : Hid (Below W.heap.size W w1) := by
      obtain ⟨⟨dq, osq⟩, h⟩ := hw1
      rw [h]; exact below_regrown W dq osq
    clear hw1
    go_wp2
    go_ret2
    exact ⟨ret_no HH.out, HBW.out.trans (HB1.out.mono HBW.out.size)⟩
  subst mn
  have mnd : ((m : Int) != (m : Int)) = false := by simp
  obtain ⟨b0, off, rfl, hb0, hc0⟩ := HC.out 0 (by omega)
  simp only [Nat.add_zero] at hc0
  have KC := cell_regrown hc0
  by_cases xa : a < x 0
  · have HH := hide (show ¬ irP c x m y m k a b from fun h => by have := h.2.2.2.2.1; omega)
    have xad : decide (a < x 0) = true := decide_eq_true xa
    go_enter Try.func32, Try.ntmps32
    go_wp2_with fail
    rw [← HWW.out]
    refine wp_region_quiet_below (by kernel_rfl) (by kernel_rfl) ?_
    repeat (first | go_big_quiet_step (exact Calls.regrown_of (HRD.out _ _)) | quiet_step (exact Calls.regrown_of (HRD.out _ _)))
    refine wpQuiet_nil ?_
    intro w1 hw1
    have HB1 : Hid (Below W.heap.size W w1) := by
      obtain ⟨⟨dq, osq⟩, h⟩ := hw1
      rw [h]; exact below_regrown W dq osq
    clear hw1
    go_wp2
    go_ret2
    exact ⟨ret_no HH.out, HBW.out.trans (HB1.out.mono HBW.out.size)⟩
  have xad : decide (a < x 0) = false := decide_eq_false xa
  have HXA := hide (show x 0 ≤ a by omega)
  go_enter Try.func32, Try.ntmps32
  go_wp2_with fail
  rw [← HWW.out]
  refine wp_region_quiet_below (by kernel_rfl) (by kernel_rfl) ?_
  repeat (first | go_big_quiet_step (exact Calls.regrown_of (HRD.out _ _)) | quiet_step (exact Calls.regrown_of (HRD.out _ _)))
  refine wpQuiet_nil ?_
  intro w1 hw1
  have HB1 : Hid (Below W.heap.size W w1) := by
    obtain ⟨⟨dq, osq⟩, h⟩ := hw1
    rw [h]; exact below_regrown W dq osq
  clear hw1
  clear xa ka KA hc0 KC xad hb0 mnd
  go_wp2
  go_loopw [15, 16, 17, 18, 19, 20, 41] (fun s _ _ _ _ _ i wr => ∃ (j : Nat) (S : Int), j ≤ m ∧ i = .int .i64 j ∧ s = .int .i64 S ∧ 0 ≤ S ∧ S ≤ 1015000000000 * (j : Int) ∧ Hid (S = irQ c x m y k a b j) ∧ Hid (∀ p, p < j → intP c (y p) k (inT a b (x p)) (irE x m a b p)) ∧ Below W.heap.size W wr) (fun _ _ _ _ _ _ i _ => m - (intOf i).toNat)
  case atStart => exact ⟨0, 0, Nat.zero_le _, rfl, rfl, by omega, by simp, rfl, fun p hp => absurd hp (by omega), HB1.out⟩
  case round =>
    obtain ⟨j, S, hj, rfl, rfl, S0, S1, hS, hgood, hbel⟩ := hrel
    by_cases hlt : j < m
    · obtain ⟨b1, off1, e1, hb1, c1⟩ := HC.out j hlt
      injection e1 with e1
      injection e1 with e2 e3
      subst e2 e3
      obtain ⟨b2, off2, rfl, hb2, c2⟩ := HD.out j hlt
      have d1 := (hbel.cell (p := ⟨b0, off + j, none⟩) hb1).trans c1
      have d2 := (hbel.cell (p := ⟨b2, off2 + j, none⟩) hb2).trans c2
      have HKA := hide (blk_below hbel HZ.out.1 HPA.out)
      have HKB := hide (blk_below hbel HZ.out.2 HPB.out)
      have db := Joins.cell_of_block HKB.out 0
      simp at db
      have HBEL := hide hbel
      clear c1 c2 hbel
      obtain ⟨u, hu⟩ : ∃ u, u = inT a b (x j) := ⟨_, rfl⟩
      have HS0 := hide hu
      clear hu
      by_cases hq1 : j + 1 < m
      · obtain ⟨b3, off3, e3, hb3, c3⟩ := HC.out (j + 1) hq1
        injection e3 with e3
        injection e3 with e4 e5
        subst e4 e5
        have d3 := (HBEL.out.cell (p := ⟨b0, off + (j + 1), none⟩) hb3).trans c3
        obtain ⟨v, hv⟩ : ∃ v, v = inT a b (x (j + 1)) := ⟨_, rfl⟩
        have HE1 := hide hv
        have HEE := hide (show v = irE x m a b j by rw [irE_in hq1]; exact hv)
        have z1 : decide ((j : Int) + 1 < (m : Int)) = true := decide_eq_true (by omega)
        have z2 : (j : Int) + 1 < (m : Int) := by omega
        clear c3 hv
        by_cases hP : intP c (y j) k u v
        · have HP := hide hP
          have hI0 : 0 ≤ intV c (y j) k u v := (intV_bd hP).1
          have hI1 : intV c (y j) k u v ≤ 1015000000000 := (intV_bd hP).2
          obtain ⟨I, hI⟩ : ∃ I, I = intV c (y j) k u v := ⟨_, rfl⟩
          have HE := hide (show S + I = irQ c x m y k a b (j + 1) by rw [irQ_succ, ← hS.out, hI, HS0.out, HEE.out])
          rw [← hI] at hI0 hI1
          have HI := hide hI
          clear hI hP
          go_wp2_with fail
          refine (fn_inT w.heap.size a (w.heap.size + 1) b (x (j + 1)) wr HKA.out HKB.out).mono ?_
          rw [← HE1.out]
          rintro e w' ⟨rfl, rfl⟩
          go_wp2_with fail
          refine (fn_inT w.heap.size a (w.heap.size + 1) b (x j) wr HKA.out HKB.out).mono ?_
          rw [← HS0.out]
          rintro e w' ⟨rfl, rfl⟩
          go_wp2_with fail
          refine (implInterestOf_any c (y j) k u v wr).mono ?_
          rw [ifV_yes HP.out, tru_yes HP.out, ← HI.out]
          rintro e w2 ⟨rfl, hb2⟩
          have HB2 := hide (HBEL.out.trans (hb2.mono HBEL.out.size))
          clear hb2
          go_wp2
          go_roundw
          case rel => exact ⟨j + 1, _, by omega, by go_num, rfl, by omega, by push_cast; omega, HE.out, (fun p hp => by
            by_cases hpj : p = j
            · subst hpj; rw [← HEE.out, ← HS0.out]; exact HP.out
            · exact hgood.out p (by omega)), HB2.out⟩
          case measure => simp [intOf]; omega
        · have HP := hide hP
          have HH := hide (show ¬ irP c x m y m k a b from fun h => by have h1 := ir_parts h hlt; rw [← HEE.out, ← HS0.out] at h1; exact HP.out h1)
          clear hP
          go_wp2_with fail
          refine (fn_inT w.heap.size a (w.heap.size + 1) b (x (j + 1)) wr HKA.out HKB.out).mono ?_
          rw [← HE1.out]
          rintro e w' ⟨rfl, rfl⟩
          go_wp2_with fail
          refine (fn_inT w.heap.size a (w.heap.size + 1) b (x j) wr HKA.out HKB.out).mono ?_
          rw [← HS0.out]
          rintro e w' ⟨rfl, rfl⟩
          go_wp2_with fail
          refine (implInterestOf_any c (y j) k u v wr).mono ?_
          rw [ifV_no HP.out, tru_no HP.out]
          rintro e w2 ⟨rfl, hb2⟩
          have HB2 := hide (HBEL.out.trans (hb2.mono HBEL.out.size))
          clear hb2
          go_wp2
          go_ret2
          exact ⟨ret_no HH.out, HBW.out.trans (HB2.out.mono HBW.out.size)⟩
      · have HEE := hide (show b = irE x m a b j by rw [irE_end hq1])
        have z1 : decide ((j : Int) + 1 < (m : Int)) = false := decide_eq_false (by omega)
        by_cases hP : intP c (y j) k u b
        · have HP := hide hP
          have hI0 : 0 ≤ intV c (y j) k u b := (intV_bd hP).1
          have hI1 : intV c (y j) k u b ≤ 1015000000000 := (intV_bd hP).2
          obtain ⟨I, hI⟩ : ∃ I, I = intV c (y j) k u b := ⟨_, rfl⟩
          have HE := hide (show S + I = irQ c x m y k a b (j + 1) by rw [irQ_succ, ← hS.out, hI, HS0.out, ← HEE.out])
          rw [← hI] at hI0 hI1
          have HI := hide hI
          clear hI hP
          go_wp2_with fail
          refine (fn_inT w.heap.size a (w.heap.size + 1) b (x j) wr HKA.out HKB.out).mono ?_
          rw [← HS0.out]
          rintro e w' ⟨rfl, rfl⟩
          go_wp2_with fail
          refine (implInterestOf_any c (y j) k u b wr).mono ?_
          rw [ifV_yes HP.out, tru_yes HP.out, ← HI.out]
          rintro e w2 ⟨rfl, hb2⟩
          have HB2 := hide (HBEL.out.trans (hb2.mono HBEL.out.size))
          clear hb2
          go_wp2
          go_roundw
          case rel => exact ⟨j + 1, _, by omega, by go_num, rfl, by omega, by push_cast; omega, HE.out, (fun p hp => by
            by_cases hpj : p = j
            · subst hpj; rw [← HEE.out, ← HS0.out]; exact HP.out
            · exact hgood.out p (by omega)), HB2.out⟩
          case measure => simp [intOf]; omega
        · have HP := hide hP
          have HH := hide (show ¬ irP c x m y m k a b from fun h => by have h1 := ir_parts h hlt; rw [← HEE.out, ← HS0.out] at h1; exact HP.out h1)
          clear hP
          go_wp2_with fail
          refine (fn_inT w.heap.size a (w.heap.size + 1) b (x j) wr HKA.out HKB.out).mono ?_
          rw [← HS0.out]
          rintro e w' ⟨rfl, rfl⟩
          go_wp2_with fail
          refine (implInterestOf_any c (y j) k u b wr).mono ?_
          rw [ifV_no HP.out, tru_no HP.out]
          rintro e w2 ⟨rfl, hb2⟩
          have HB2 := hide (HBEL.out.trans (hb2.mono HBEL.out.size))
          clear hb2
          go_wp2
          go_ret2
          exact ⟨ret_no HH.out, HBW.out.trans (HB2.out.mono HBW.out.size)⟩
    · obtain rfl : j = m := by omega
      have HH := hide (ir_all HR.out rfl HXA.out hgood.out)
      have HV := hide (show S = irS c x j y k a b j by rw [hS.out]; exact irQ_eq HR.out HH.out.2.1.2.2.2 j)
      have HBEL := hide hbel
      clear hbel hgood
      go_wp2
      go_ret2
      exact ⟨ret_val HH.out HV.out, HBW.out.trans (HBEL.out.mono HBW.out.size)⟩
end Go.Proofs.Ytbcajjpgpjadaaa
