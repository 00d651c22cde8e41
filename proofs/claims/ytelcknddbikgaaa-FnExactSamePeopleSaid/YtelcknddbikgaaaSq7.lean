/- SamePeople, by both. -/
import Derived.Test.YtelcknddbikgaaaV7
import Derived.Test.YtelcknddbikgaaaNum
namespace Go.Proofs.Ytelcknddbikgaaa
open Go.RowKit Go.Dues
theorem drewN_add7 (w : World) (a b : Nat) : (w.drewN a).drewN b = w.drewN (a + b) := by unfold World.drewN; simp [Nat.add_assoc]
theorem dr7 {w wr : World} (h : ∃ q, wr = w.drewN q) (b : Nat) : ∃ q, wr.drewN b = w.drewN q := by
  obtain ⟨q, rfl⟩ := h
  exact ⟨_, drewN_add7 _ _ _⟩
def sameP (x : Nat → Nat) (n : Nat) (y : Nat → Nat) (m : Nat) : Prop := n = m ∧ ∀ j, j < n → nbits (x j) = nbits (y j)
theorem specSame1_any (x y : Nat) (w : World) (hx : (Lit.float .f32 x).wf = true) (hy : (Lit.float .f32 y).wf = true) :
    Calls Try.prog 95 #[.float .f32 x, .float .f32 y] w fun e w' => e = .returned (.bool (nbits x == nbits y)) ∧ w = w' := by
  go_enter Try.func95, Try.ntmps95
  go_wp2_with (first | (go_at_call 105; refine (specBits_any _ _ (by assumption)).mono ?_; rintro e w' ⟨rfl, rfl⟩) | go_in)
  go_ret
  exact ⟨rfl, rfl⟩
theorem implSame7_any (x y : Nat) (w : World) (hx : (Lit.float .f32 x).wf = true) (hy : (Lit.float .f32 y).wf = true) :
    Calls Try.prog 73 #[.float .f32 x, .float .f32 y] w fun e w' => e = .returned (.bool (nbits x == nbits y)) ∧ ∃ n, w' = w.drewN n := by
  go_enter Try.func73, Try.ntmps73
  go_wp2_with (first | (go_at_call 96; refine (implBitsOf_any _ _ (by assumption)).mono ?_; rintro e w' ⟨rfl, n, rfl⟩))
  go_ret
  exact ⟨rfl, _, rfl⟩
set_option maxRecDepth 100000 in
set_option maxHeartbeats 4000000 in
theorem specSameAll_any (A : Option Addr) (n c : Nat) (x : Nat → Nat) (B : Option Addr) (m d : Nat) (y : Nat → Nat) (w : World) (hn : n ≤ maxLen) (hs : SL w A n (fun j => .float .f32 (x j))) (hx : ∀ j, j < n → (Lit.float .f32 (x j)).wf = true) (hm : m ≤ maxLen) (hs' : SL w B m (fun j => .float .f32 (y j))) (hy : ∀ j, j < m → (Lit.float .f32 (y j)).wf = true) :
    Calls Try.prog 71 #[.slice A n c, .slice B m d] w fun e w' => e = .returned (.bool (tru (sameP x n y m))) ∧ ∃ q, w' = w.drewN q := by
  have HC := cells_f hs
  have HC' := cells_f hs'
  have HX := hide hx
  have HY := hide hy
  unfold maxLen at hn hm
  clear hs hs' hx hy
  by_cases hnm : (n : Int) = (m : Int)
  rotate_left
  · have hneq : ¬ n = m := fun h => hnm (by rw [h])
    have HT := hide (tru_no (show ¬ sameP x n y m from fun h => hneq h.1))
    go_enter Try.func71, Try.ntmps71
    go_wp2
    go_ret
    exact ⟨retBa HT.out.symm, 0, rfl⟩
  obtain rfl : n = m := by omega
  go_enter Try.func71, Try.ntmps71
  go_wp2
  go_loopw [5] (fun i wr => ∃ k : Nat, k ≤ n ∧ i = .int .i64 k ∧ Hid (∀ j, j < k → nbits (x j) = nbits (y j)) ∧ Hid (∃ q, wr = w.drewN q)) (fun i _ => n - (intOf i).toNat)
  case atStart => exact ⟨0, Nat.zero_le _, rfl, fun j hj => absurd hj (by omega), ⟨0, rfl⟩⟩
  case round =>
    obtain ⟨k, hk, rfl, hg, hw⟩ := hrel
    by_cases hlt : k < n
    · obtain ⟨b1, o1, rfl, hb1, hxk⟩ := HC.out k hlt
      obtain ⟨b2, o2, rfl, hb2, hyk⟩ := HC'.out k hlt
      have hxk2 : wr.cell? ⟨b1, o1 + k, none⟩ = some (.float .f32 (x k)) := by obtain ⟨q, e⟩ := hw.out; rw [e]; exact hxk
      have hyk2 : wr.cell? ⟨b2, o2 + k, none⟩ = some (.float .f32 (y k)) := by obtain ⟨q, e⟩ := hw.out; rw [e]; exact hyk
      have HXK := hide (HX.out k hlt)
      have HYK := hide (HY.out k hlt)
      have hki : (k : Int) < (n : Int) := by omega
      clear hxk hyk
      cases hp : (nbits (x k) == nbits (y k))
      · have HT := hide (tru_no (show ¬ sameP x n y n from fun h => by rw [h.2 k hlt] at hp; simp at hp))
        have HCALL := fun W => hide (Calls.mono (specSame1_any (x k) (y k) W HXK.out HYK.out) (R' := fun e w' => e = .returned (.bool (nbits (x k) == nbits (y k))) ∧ w' = W) fun _ _ ⟨h1, h2⟩ => ⟨h1, h2.symm⟩)
        rw [hp] at HCALL
        go_wp2
        go_quiet ((go_at_call 95; exact Calls.quiet_of_same (HCALL _).out))
        go_wp2
        go_ret
        exact ⟨retBa HT.out.symm, by first | exact dr7 hw.out _ | exact hw.out⟩
      · have HE := hide (show nbits (x k) = nbits (y k) by simpa using hp)
        have HCALL := fun W => hide (Calls.mono (specSame1_any (x k) (y k) W HXK.out HYK.out) (R' := fun e w' => e = .returned (.bool (nbits (x k) == nbits (y k))) ∧ w' = W) fun _ _ ⟨h1, h2⟩ => ⟨h1, h2.symm⟩)
        rw [hp] at HCALL
        go_wp2
        go_quiet ((go_at_call 95; exact Calls.quiet_of_same (HCALL _).out))
        clear hp
        go_wp2
        go_roundw
        case rel => exact ⟨k + 1, by omega, by go_num, (by
          intro j hj
          by_cases hjk : j = k
          · subst hjk; exact HE.out
          · exact hg.out j (by omega)), hide (by first | exact dr7 hw.out _ | exact hw.out)⟩
        case measure => simp [intOf]; omega
    · have HT := hide (tru_yes (show sameP x n y n from ⟨rfl, fun j hj => hg.out j (by omega)⟩))
      have hki : ¬ (k : Int) < (n : Int) := by omega
      go_wp2
      go_ret
      exact ⟨retBa HT.out.symm, hw.out⟩
set_option maxRecDepth 100000 in
set_option maxHeartbeats 4000000 in
theorem equalSame_any (A : Option Addr) (n c : Nat) (x : Nat → Nat) (B : Option Addr) (m d : Nat) (y : Nat → Nat) (w : World) (hn : n ≤ maxLen) (hs : SL w A n (fun j => .float .f32 (x j))) (hx : ∀ j, j < n → (Lit.float .f32 (x j)).wf = true) (hm : m ≤ maxLen) (hs' : SL w B m (fun j => .float .f32 (y j))) (hy : ∀ j, j < m → (Lit.float .f32 (y j)).wf = true) :
    Calls Try.prog 72 #[.slice A n c, .slice B m d, .func (Fn.func 73) #[] #[]] w fun e w' => e = .returned (.bool (tru (sameP x n y m))) ∧ ∃ q, w' = w.drewN q := by
  have HC := cells_f hs
  have HC' := cells_f hs'
  have HX := hide hx
  have HY := hide hy
  unfold maxLen at hn hm
  clear hs hs' hx hy
  by_cases hnm : (n : Int) = (m : Int)
  rotate_left
  · have hneq : ¬ n = m := fun h => hnm (by rw [h])
    have HT := hide (tru_no (show ¬ sameP x n y m from fun h => hneq h.1))
    go_enter Try.func72, Try.ntmps72
    go_wp2
    go_ret
    exact ⟨retBa HT.out.symm, 0, rfl⟩
  obtain rfl : n = m := by omega
  go_enter Try.func72, Try.ntmps72
  go_wp2
  go_loopw [7, 8, 9, 17] (fun _ _ _ i wr => ∃ k : Nat, k ≤ n ∧ i = .int .i64 k ∧ Hid (∀ j, j < k → nbits (x j) = nbits (y j)) ∧ Hid (∃ q, wr = w.drewN q)) (fun _ _ _ i _ => n - (intOf i).toNat)
  case atStart => exact ⟨0, Nat.zero_le _, rfl, fun j hj => absurd hj (by omega), ⟨0, rfl⟩⟩
  case round =>
    obtain ⟨k, hk, rfl, hg, hw⟩ := hrel
    by_cases hlt : k < n
    · obtain ⟨b1, o1, rfl, hb1, hxk⟩ := HC.out k hlt
      obtain ⟨b2, o2, rfl, hb2, hyk⟩ := HC'.out k hlt
      have hxk2 : wr.cell? ⟨b1, o1 + k, none⟩ = some (.float .f32 (x k)) := by obtain ⟨q, e⟩ := hw.out; rw [e]; exact hxk
      have hyk2 : wr.cell? ⟨b2, o2 + k, none⟩ = some (.float .f32 (y k)) := by obtain ⟨q, e⟩ := hw.out; rw [e]; exact hyk
      have HXK := hide (HX.out k hlt)
      have HYK := hide (HY.out k hlt)
      have hki : (k : Int) < (n : Int) := by omega
      clear hxk hyk
      cases hp : (nbits (x k) == nbits (y k))
      · have HT := hide (tru_no (show ¬ sameP x n y n from fun h => by rw [h.2 k hlt] at hp; simp at hp))
        have HCALL := fun W => hide (implSame7_any (x k) (y k) W HXK.out HYK.out)
        rw [hp] at HCALL
        go_wp2_with fail
        refine (HCALL _).out.mono ?_
        rintro e w' ⟨rfl, q2, rfl⟩
        go_wp2
        go_ret
        exact ⟨retBa HT.out.symm, by first | exact dr7 hw.out _ | exact hw.out⟩
      · have HE := hide (show nbits (x k) = nbits (y k) by simpa using hp)
        have HCALL := fun W => hide (implSame7_any (x k) (y k) W HXK.out HYK.out)
        rw [hp] at HCALL
        go_wp2_with fail
        refine (HCALL _).out.mono ?_
        rintro e w' ⟨rfl, q2, rfl⟩
        clear hp
        go_wp2
        go_roundw
        case rel => exact ⟨k + 1, by omega, by go_num, (by
          intro j hj
          by_cases hjk : j = k
          · subst hjk; exact HE.out
          · exact hg.out j (by omega)), hide (by first | exact dr7 hw.out _ | exact hw.out)⟩
        case measure => simp [intOf]; omega
    · have HT := hide (tru_yes (show sameP x n y n from ⟨rfl, fun j hj => hg.out j (by omega)⟩))
      have hki : ¬ (k : Int) < (n : Int) := by omega
      go_wp2
      go_ret
      exact ⟨retBa HT.out.symm, hw.out⟩
def spP (x1 : Nat → Nat) (n1 : Nat) (y1 : Nat → Nat) (m1 : Nat) (x2 : Nat → Nat) (n2 : Nat) (y2 : Nat → Nat) (m2 : Nat) (x3 : Nat → Nat) (n3 : Nat) (y3 : Nat → Nat) (m3 : Nat) : Prop := sameP x1 n1 y1 m1 ∧ sameP x2 n2 y2 m2 ∧ sameP x3 n3 y3 m3
set_option maxHeartbeats 4000000 in
theorem specSamePpl_any (A1 : Option Addr) (n1 c1 : Nat) (x1 : Nat → Nat) (A2 : Option Addr) (n2 c2 : Nat) (x2 : Nat → Nat) (A3 : Option Addr) (n3 c3 : Nat) (x3 : Nat → Nat) (B1 : Option Addr) (m1 d1 : Nat) (y1 : Nat → Nat) (B2 : Option Addr) (m2 d2 : Nat) (y2 : Nat → Nat) (B3 : Option Addr) (m3 d3 : Nat) (y3 : Nat → Nat) (w : World) (hn1 : n1 ≤ maxLen) (hs1 : SL w A1 n1 (fun j => .float .f32 (x1 j))) (hx1 : ∀ j, j < n1 → (Lit.float .f32 (x1 j)).wf = true) (hn2 : n2 ≤ maxLen) (hs2 : SL w A2 n2 (fun j => .float .f32 (x2 j))) (hx2 : ∀ j, j < n2 → (Lit.float .f32 (x2 j)).wf = true) (hn3 : n3 ≤ maxLen) (hs3 : SL w A3 n3 (fun j => .float .f32 (x3 j))) (hx3 : ∀ j, j < n3 → (Lit.float .f32 (x3 j)).wf = true) (hm1 : m1 ≤ maxLen) (ht1 : SL w B1 m1 (fun j => .float .f32 (y1 j))) (hy1 : ∀ j, j < m1 → (Lit.float .f32 (y1 j)).wf = true) (hm2 : m2 ≤ maxLen) (ht2 : SL w B2 m2 (fun j => .float .f32 (y2 j))) (hy2 : ∀ j, j < m2 → (Lit.float .f32 (y2 j)).wf = true) (hm3 : m3 ≤ maxLen) (ht3 : SL w B3 m3 (fun j => .float .f32 (y3 j))) (hy3 : ∀ j, j < m3 → (Lit.float .f32 (y3 j)).wf = true) :
    Calls Try.prog 38 #[.agg #[.slice A1 n1 c1, .slice A2 n2 c2, .slice A3 n3 c3], .agg #[.slice B1 m1 d1, .slice B2 m2 d2, .slice B3 m3 d3]] w fun e w' => e = .returned (.bool (tru (spP x1 n1 y1 m1 x2 n2 y2 m2 x3 n3 y3 m3))) ∧ Below w.heap.size w w' := by
  obtain ⟨W, hW⟩ : ∃ u, u = (w.alloc (.cells #[.slice A1 n1 c1, .slice A2 n2 c2, .slice A3 n3 c3] 40)).alloc (.cells #[.slice B1 m1 d1, .slice B2 m2 d2, .slice B3 m3 d3] 40) := ⟨_, rfl⟩
  have HB : Hid (Below w.heap.size w W) := by rw [hW]; exact ((Below.refl w.heap.size w).alloc (Nat.le_refl _) _).alloc (by simp) _
  have HX1a : Hid (W.heap[w.heap.size]? = some (.cells #[.slice A1 n1 c1, .slice A2 n2 c2, .slice A3 n3 c3] 40)) := by rw [hW]; exact (blocks2 w _ _).1
  have HX2a : Hid (W.heap[w.heap.size + 1]? = some (.cells #[.slice B1 m1 d1, .slice B2 m2 d2, .slice B3 m3 d3] 40)) := by rw [hW]; exact (blocks2 w _ _).2
  have HS1 := hide (hs1.below HB.out)
  have HT1 := hide (ht1.below HB.out)
  have HX1 := hide hx1
  have HY1 := hide hy1
  have HS2 := hide (hs2.below HB.out)
  have HT2 := hide (ht2.below HB.out)
  have HX2 := hide hx2
  have HY2 := hide hy2
  have HS3 := hide (hs3.below HB.out)
  have HT3 := hide (ht3.below HB.out)
  have HX3 := hide hx3
  have HY3 := hide hy3
  have HWW := hide hW
  have k0 := Joins.cell_of_block HX1a.out 0
  have l0 := Joins.cell_of_block HX2a.out 0
  have k1 := Joins.cell_of_block HX1a.out 1
  have l1 := Joins.cell_of_block HX2a.out 1
  have k2 := Joins.cell_of_block HX1a.out 2
  have l2 := Joins.cell_of_block HX2a.out 2
  simp at k0 k1 k2 l0 l1 l2
  clear hs1 hs2 hs3 ht1 ht2 ht3 hx1 hx2 hx3 hy1 hy2 hy3 hW
  by_cases g1 : sameP x1 n1 y1 m1
  rotate_left
  · have G1 := hide (tru_no g1)
    have HT := hide (tru_no (show ¬ spP x1 n1 y1 m1 x2 n2 y2 m2 x3 n3 y3 m3 from fun h => g1 h.1))
    clear g1
    go_enter Try.func38, Try.ntmps38
    go_wp2_with fail
    rw [← HWW.out]
    refine (specSameAll_any A1 n1 c1 x1 B1 m1 d1 y1 W hn1 HS1.out HX1.out hm1 HT1.out HY1.out).mono ?_
    rw [G1.out]
    rintro e w1 ⟨rfl, q1, rfl⟩
    go_wp2
    go_ret
    exact ⟨retBa HT.out.symm, by first | exact bel_q HB.out _ | exact bel_q (bel_q HB.out _) _ | exact bel_q (bel_q (bel_q HB.out _) _) _⟩
  by_cases g2 : sameP x2 n2 y2 m2
  rotate_left
  · have G1 := hide (tru_yes g1)
    have G2 := hide (tru_no g2)
    have HT := hide (tru_no (show ¬ spP x1 n1 y1 m1 x2 n2 y2 m2 x3 n3 y3 m3 from fun h => g2 h.2.1))
    clear g1 g2
    go_enter Try.func38, Try.ntmps38
    go_wp2_with fail
    rw [← HWW.out]
    refine (specSameAll_any A1 n1 c1 x1 B1 m1 d1 y1 W hn1 HS1.out HX1.out hm1 HT1.out HY1.out).mono ?_
    rw [G1.out]
    rintro e w1 ⟨rfl, q1, rfl⟩
    go_wp2_with fail
    refine (specSameAll_any A2 n2 c2 x2 B2 m2 d2 y2 _ hn2 (show SL (World.drewN W _) _ _ _ from HS2.out) HX2.out hm2 (show SL (World.drewN W _) _ _ _ from HT2.out) HY2.out).mono ?_
    rw [G2.out]
    rintro e w2 ⟨rfl, q2, rfl⟩
    go_wp2
    go_ret
    exact ⟨retBa HT.out.symm, by first | exact bel_q HB.out _ | exact bel_q (bel_q HB.out _) _ | exact bel_q (bel_q (bel_q HB.out _) _) _⟩
  by_cases g3 : sameP x3 n3 y3 m3
  rotate_left
  · have G1 := hide (tru_yes g1)
    have G2 := hide (tru_yes g2)
    have G3 := hide (tru_no g3)
    have HT := hide (tru_no (show ¬ spP x1 n1 y1 m1 x2 n2 y2 m2 x3 n3 y3 m3 from fun h => g3 h.2.2))
    clear g1 g2 g3
    go_enter Try.func38, Try.ntmps38
    go_wp2_with fail
    rw [← HWW.out]
    refine (specSameAll_any A1 n1 c1 x1 B1 m1 d1 y1 W hn1 HS1.out HX1.out hm1 HT1.out HY1.out).mono ?_
    rw [G1.out]
    rintro e w1 ⟨rfl, q1, rfl⟩
    go_wp2_with fail
    refine (specSameAll_any A2 n2 c2 x2 B2 m2 d2 y2 _ hn2 (show SL (World.drewN W _) _ _ _ from HS2.out) HX2.out hm2 (show SL (World.drewN W _) _ _ _ from HT2.out) HY2.out).mono ?_
    rw [G2.out]
    rintro e w2 ⟨rfl, q2, rfl⟩
    go_wp2_with fail
    refine (specSameAll_any A3 n3 c3 x3 B3 m3 d3 y3 _ hn3 (show SL (World.drewN W _) _ _ _ from HS3.out) HX3.out hm3 (show SL (World.drewN W _) _ _ _ from HT3.out) HY3.out).mono ?_
    rw [G3.out]
    rintro e w3 ⟨rfl, q3, rfl⟩
    go_wp2
    go_ret
    exact ⟨retBa HT.out.symm, by first | exact bel_q HB.out _ | exact bel_q (bel_q HB.out _) _ | exact bel_q (bel_q (bel_q HB.out _) _) _⟩
  have G1 := hide (tru_yes g1)
  have G2 := hide (tru_yes g2)
  have G3 := hide (tru_yes g3)
  have HT := hide (tru_yes (show spP x1 n1 y1 m1 x2 n2 y2 m2 x3 n3 y3 m3 from ⟨g1, g2, g3⟩))
  clear g1 g2 g3
  go_enter Try.func38, Try.ntmps38
  go_wp2_with fail
  rw [← HWW.out]
  refine (specSameAll_any A1 n1 c1 x1 B1 m1 d1 y1 W hn1 HS1.out HX1.out hm1 HT1.out HY1.out).mono ?_
  rw [G1.out]
  rintro e w1 ⟨rfl, q1, rfl⟩
  go_wp2_with fail
  refine (specSameAll_any A2 n2 c2 x2 B2 m2 d2 y2 _ hn2 (show SL (World.drewN W _) _ _ _ from HS2.out) HX2.out hm2 (show SL (World.drewN W _) _ _ _ from HT2.out) HY2.out).mono ?_
  rw [G2.out]
  rintro e w2 ⟨rfl, q2, rfl⟩
  go_wp2_with fail
  refine (specSameAll_any A3 n3 c3 x3 B3 m3 d3 y3 _ hn3 (show SL (World.drewN W _) _ _ _ from HS3.out) HX3.out hm3 (show SL (World.drewN W _) _ _ _ from HT3.out) HY3.out).mono ?_
  rw [G3.out]
  rintro e w3 ⟨rfl, q3, rfl⟩
  go_wp2
  go_ret
  exact ⟨retBa HT.out.symm, by first | exact bel_q HB.out _ | exact bel_q (bel_q HB.out _) _ | exact bel_q (bel_q (bel_q HB.out _) _) _⟩
set_option maxHeartbeats 4000000 in
theorem implSamePpl_any (A1 : Option Addr) (n1 c1 : Nat) (x1 : Nat → Nat) (A2 : Option Addr) (n2 c2 : Nat) (x2 : Nat → Nat) (A3 : Option Addr) (n3 c3 : Nat) (x3 : Nat → Nat) (B1 : Option Addr) (m1 d1 : Nat) (y1 : Nat → Nat) (B2 : Option Addr) (m2 d2 : Nat) (y2 : Nat → Nat) (B3 : Option Addr) (m3 d3 : Nat) (y3 : Nat → Nat) (w : World) (hn1 : n1 ≤ maxLen) (hs1 : SL w A1 n1 (fun j => .float .f32 (x1 j))) (hx1 : ∀ j, j < n1 → (Lit.float .f32 (x1 j)).wf = true) (hn2 : n2 ≤ maxLen) (hs2 : SL w A2 n2 (fun j => .float .f32 (x2 j))) (hx2 : ∀ j, j < n2 → (Lit.float .f32 (x2 j)).wf = true) (hn3 : n3 ≤ maxLen) (hs3 : SL w A3 n3 (fun j => .float .f32 (x3 j))) (hx3 : ∀ j, j < n3 → (Lit.float .f32 (x3 j)).wf = true) (hm1 : m1 ≤ maxLen) (ht1 : SL w B1 m1 (fun j => .float .f32 (y1 j))) (hy1 : ∀ j, j < m1 → (Lit.float .f32 (y1 j)).wf = true) (hm2 : m2 ≤ maxLen) (ht2 : SL w B2 m2 (fun j => .float .f32 (y2 j))) (hy2 : ∀ j, j < m2 → (Lit.float .f32 (y2 j)).wf = true) (hm3 : m3 ≤ maxLen) (ht3 : SL w B3 m3 (fun j => .float .f32 (y3 j))) (hy3 : ∀ j, j < m3 → (Lit.float .f32 (y3 j)).wf = true) :
    Calls Try.prog 39 #[.agg #[.slice A1 n1 c1, .slice A2 n2 c2, .slice A3 n3 c3], .agg #[.slice B1 m1 d1, .slice B2 m2 d2, .slice B3 m3 d3]] w fun e w' => e = .returned (.bool (tru (spP x1 n1 y1 m1 x2 n2 y2 m2 x3 n3 y3 m3))) ∧ Below w.heap.size w w' := by
  obtain ⟨W, hW⟩ : ∃ u, u = (w.alloc (.cells #[.slice A1 n1 c1, .slice A2 n2 c2, .slice A3 n3 c3] 40)).alloc (.cells #[.slice B1 m1 d1, .slice B2 m2 d2, .slice B3 m3 d3] 40) := ⟨_, rfl⟩
  have HB : Hid (Below w.heap.size w W) := by rw [hW]; exact ((Below.refl w.heap.size w).alloc (Nat.le_refl _) _).alloc (by simp) _
  have HX1a : Hid (W.heap[w.heap.size]? = some (.cells #[.slice A1 n1 c1, .slice A2 n2 c2, .slice A3 n3 c3] 40)) := by rw [hW]; exact (blocks2 w _ _).1
  have HX2a : Hid (W.heap[w.heap.size + 1]? = some (.cells #[.slice B1 m1 d1, .slice B2 m2 d2, .slice B3 m3 d3] 40)) := by rw [hW]; exact (blocks2 w _ _).2
  have HS1 := hide (hs1.below HB.out)
  have HT1 := hide (ht1.below HB.out)
  have HX1 := hide hx1
  have HY1 := hide hy1
  have HS2 := hide (hs2.below HB.out)
  have HT2 := hide (ht2.below HB.out)
  have HX2 := hide hx2
  have HY2 := hide hy2
  have HS3 := hide (hs3.below HB.out)
  have HT3 := hide (ht3.below HB.out)
  have HX3 := hide hx3
  have HY3 := hide hy3
  have HWW := hide hW
  have k0 := Joins.cell_of_block HX1a.out 0
  have l0 := Joins.cell_of_block HX2a.out 0
  have k1 := Joins.cell_of_block HX1a.out 1
  have l1 := Joins.cell_of_block HX2a.out 1
  have k2 := Joins.cell_of_block HX1a.out 2
  have l2 := Joins.cell_of_block HX2a.out 2
  simp at k0 k1 k2 l0 l1 l2
  clear hs1 hs2 hs3 ht1 ht2 ht3 hx1 hx2 hx3 hy1 hy2 hy3 hW
  by_cases g1 : sameP x1 n1 y1 m1
  rotate_left
  · have G1 := hide (tru_no g1)
    have HT := hide (tru_no (show ¬ spP x1 n1 y1 m1 x2 n2 y2 m2 x3 n3 y3 m3 from fun h => g1 h.1))
    clear g1
    go_enter Try.func39, Try.ntmps39
    go_wp2_with fail
    rw [← HWW.out]
    refine (equalSame_any A1 n1 c1 x1 B1 m1 d1 y1 W hn1 HS1.out HX1.out hm1 HT1.out HY1.out).mono ?_
    rw [G1.out]
    rintro e w1 ⟨rfl, q1, rfl⟩
    go_wp2
    go_ret
    exact ⟨retBa HT.out.symm, by first | exact bel_q HB.out _ | exact bel_q (bel_q HB.out _) _ | exact bel_q (bel_q (bel_q HB.out _) _) _⟩
  by_cases g2 : sameP x2 n2 y2 m2
  rotate_left
  · have G1 := hide (tru_yes g1)
    have G2 := hide (tru_no g2)
    have HT := hide (tru_no (show ¬ spP x1 n1 y1 m1 x2 n2 y2 m2 x3 n3 y3 m3 from fun h => g2 h.2.1))
    clear g1 g2
    go_enter Try.func39, Try.ntmps39
    go_wp2_with fail
    rw [← HWW.out]
    refine (equalSame_any A1 n1 c1 x1 B1 m1 d1 y1 W hn1 HS1.out HX1.out hm1 HT1.out HY1.out).mono ?_
    rw [G1.out]
    rintro e w1 ⟨rfl, q1, rfl⟩
    go_wp2_with fail
    refine (equalSame_any A2 n2 c2 x2 B2 m2 d2 y2 _ hn2 (show SL (World.drewN W _) _ _ _ from HS2.out) HX2.out hm2 (show SL (World.drewN W _) _ _ _ from HT2.out) HY2.out).mono ?_
    rw [G2.out]
    rintro e w2 ⟨rfl, q2, rfl⟩
    go_wp2
    go_ret
    exact ⟨retBa HT.out.symm, by first | exact bel_q HB.out _ | exact bel_q (bel_q HB.out _) _ | exact bel_q (bel_q (bel_q HB.out _) _) _⟩
  by_cases g3 : sameP x3 n3 y3 m3
  rotate_left
  · have G1 := hide (tru_yes g1)
    have G2 := hide (tru_yes g2)
    have G3 := hide (tru_no g3)
    have HT := hide (tru_no (show ¬ spP x1 n1 y1 m1 x2 n2 y2 m2 x3 n3 y3 m3 from fun h => g3 h.2.2))
    clear g1 g2 g3
    go_enter Try.func39, Try.ntmps39
    go_wp2_with fail
    rw [← HWW.out]
    refine (equalSame_any A1 n1 c1 x1 B1 m1 d1 y1 W hn1 HS1.out HX1.out hm1 HT1.out HY1.out).mono ?_
    rw [G1.out]
    rintro e w1 ⟨rfl, q1, rfl⟩
    go_wp2_with fail
    refine (equalSame_any A2 n2 c2 x2 B2 m2 d2 y2 _ hn2 (show SL (World.drewN W _) _ _ _ from HS2.out) HX2.out hm2 (show SL (World.drewN W _) _ _ _ from HT2.out) HY2.out).mono ?_
    rw [G2.out]
    rintro e w2 ⟨rfl, q2, rfl⟩
    go_wp2_with fail
    refine (equalSame_any A3 n3 c3 x3 B3 m3 d3 y3 _ hn3 (show SL (World.drewN W _) _ _ _ from HS3.out) HX3.out hm3 (show SL (World.drewN W _) _ _ _ from HT3.out) HY3.out).mono ?_
    rw [G3.out]
    rintro e w3 ⟨rfl, q3, rfl⟩
    go_wp2
    go_ret
    exact ⟨retBa HT.out.symm, by first | exact bel_q HB.out _ | exact bel_q (bel_q HB.out _) _ | exact bel_q (bel_q (bel_q HB.out _) _) _⟩
  have G1 := hide (tru_yes g1)
  have G2 := hide (tru_yes g2)
  have G3 := hide (tru_yes g3)
  have HT := hide (tru_yes (show spP x1 n1 y1 m1 x2 n2 y2 m2 x3 n3 y3 m3 from ⟨g1, g2, g3⟩))
  clear g1 g2 g3
  go_enter Try.func39, Try.ntmps39
  go_wp2_with fail
  rw [← HWW.out]
  refine (equalSame_any A1 n1 c1 x1 B1 m1 d1 y1 W hn1 HS1.out HX1.out hm1 HT1.out HY1.out).mono ?_
  rw [G1.out]
  rintro e w1 ⟨rfl, q1, rfl⟩
  go_wp2_with fail
  refine (equalSame_any A2 n2 c2 x2 B2 m2 d2 y2 _ hn2 (show SL (World.drewN W _) _ _ _ from HS2.out) HX2.out hm2 (show SL (World.drewN W _) _ _ _ from HT2.out) HY2.out).mono ?_
  rw [G2.out]
  rintro e w2 ⟨rfl, q2, rfl⟩
  go_wp2_with fail
  refine (equalSame_any A3 n3 c3 x3 B3 m3 d3 y3 _ hn3 (show SL (World.drewN W _) _ _ _ from HS3.out) HX3.out hm3 (show SL (World.drewN W _) _ _ _ from HT3.out) HY3.out).mono ?_
  rw [G3.out]
  rintro e w3 ⟨rfl, q3, rfl⟩
  go_wp2
  go_ret
  exact ⟨retBa HT.out.symm, by first | exact bel_q HB.out _ | exact bel_q (bel_q HB.out _) _ | exact bel_q (bel_q (bel_q HB.out _) _) _⟩
end Go.Proofs.Ytelcknddbikgaaa
