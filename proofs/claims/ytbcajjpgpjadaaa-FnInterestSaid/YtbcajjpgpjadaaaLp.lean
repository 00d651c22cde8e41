/- The least payment that is enough, by both. -/
import Derived.Test.YtbcajjpgpjadaaaLn
namespace Go.Proofs.Ytbcajjpgpjadaaa
open Go.RowKit Go.Dues
theorem retB {a b : Bool} (h : a = b) : Ending.returned (.bool a) = .returned (.bool b) := by rw [h]
theorem viB {a b : Int} (h : a = b) : Value.int .i64 a = .int .i64 b := by rw [h]
/-- p pays the loan in n terms -/
def enP (c r n p : Int) : Prop := tabP c r p n ∧ restN c r p n.toNat = 0
theorem enP_mono {c r n p q : Int} (h : enP c r n q) (hq : q ≤ p) (hp : p ≤ 1000000000) : enP c r n p := by
  obtain ⟨⟨h1, h2, h3, h4, h5⟩, h6⟩ := h
  have := paidP_mono h1.1 h2.1 hq ⟨h5, h6⟩
  exact ⟨⟨h1, h2, ⟨by omega, hp⟩, h4, this.1⟩, this.2⟩
/-- p is the least that is enough, or the greatest that there is -/
def leastP (c r n p : Int) : Prop := 0 ≤ p ∧ p ≤ 1000000000 ∧ (p = 1000000000 ∨ enP c r n p) ∧ (p = 0 ∨ ¬ enP c r n (p - 1))
theorem leastP_uniq {c r n p q : Int} (hp : leastP c r n p) (hq : leastP c r n q) : p = q := by
  obtain ⟨p0, p1, p2, p3⟩ := hp
  obtain ⟨q0, q1, q2, q3⟩ := hq
  rcases Int.lt_trichotomy p q with h | h | h
  · exfalso
    rcases q3 with q3 | q3
    · omega
    · rcases p2 with p2 | p2
      · omega
      · exact q3 (enP_mono p2 (by omega) (by omega))
  · exact h
  · exfalso
    rcases p3 with p3 | p3
    · omega
    · rcases q2 with q2 | q2
      · omega
      · exact p3 (enP_mono q2 (by omega) (by omega))
noncomputable def leastV (c r n : Int) : Int := @Classical.epsilon Int ⟨0⟩ (fun p => leastP c r n p)
theorem leastV_eq {c r n p : Int} (h : leastP c r n p) : p = leastV c r n := leastP_uniq h (@Classical.epsilon_spec_aux Int ⟨0⟩ (fun p => leastP c r n p) ⟨p, h⟩)
def payP (c r n : Int) : Prop := enP c r n 1000000000
theorem least_en {c r n p : Int} (h : leastP c r n p) : enP c r n p ↔ payP c r n := by
  constructor
  · intro hp; exact enP_mono hp h.2.1 (by omega)
  · intro hp
    rcases h.2.2.1 with h1 | h1
    · rw [h1]; exact hp
    · exact h1
theorem cells_one' {A : Option Addr} {n : Nat} {f : Nat → Value} {w : World} (hs : SL w A n f) : Hid (∀ k, k < n → ∃ b off, A = some ⟨b, off, none⟩ ∧ b < w.heap.size ∧ w.cell? ⟨b, off + k, none⟩ = some (f k)) := by
  intro k hk
  obtain ⟨b, off, h1, h2, h3⟩ := hs.at_ (by omega)
  exact ⟨b, off, h1, h2, h3 k hk⟩
set_option maxHeartbeats 2000000 in
theorem implIsPaid_any (c r p n : Int) (w : World) :
    Calls Try.prog 119 #[.int .i64 c, .int .i64 r, .int .i64 p, .int .i64 n] w fun e w' => e = .returned (.bool (tru (enP c r n p))) ∧ Below w.heap.size w w' := by
  have HT := hide (implLoanTable_any c r p n w)
  by_cases h : tabP c r p n
  · have HH := hide h
    have n0 := h.2.2.2.1.1
    have n1 := h.2.2.2.1.2
    clear h
    go_enter Try.func119, Try.ntmps119
    go_wp2_with fail
    refine HT.out.mono ?_
    rintro e w1 ⟨G, d, G', d', rfl, ho, ho', _, hb⟩
    rw [lenV_yes HH.out] at ho ho' ⊢
    rw [tru_yes HH.out]
    have HS := cells_one' ho'.sl
    have HB := hide hb
    clear ho ho' hb
    obtain ⟨b, off, rfl, hbb, hc⟩ := HS.out (n.toNat - 1) (by omega)
    have HC := hide hc
    have hi1 : (n - 1).toNat = n.toNat - 1 := by omega
    have hi0 : 0 ≤ n - 1 := by omega
    have hi2 : n - 1 < (n.toNat : Int) := by omega
    have hc2 : w1.cell? ⟨b, off + (n.toNat - 1), none⟩ = some (.int .i64 (restN c r p n.toNat)) := by rw [hc]; show some (Value.int .i64 (restN c r p (n.toNat - 1 + 1))) = _; rw [show n.toNat - 1 + 1 = n.toNat by omega]
    by_cases hz : restN c r p n.toNat = 0
    · have HV := hide (tru_yes (show enP c r n p from ⟨HH.out, hz⟩))
      rw [hz] at hc2
      clear hz hc hi1
      go_wp2
      go_ret
      exact ⟨retB HV.out.symm, HB.out⟩
    · have HV := hide (tru_no (show ¬ enP c r n p from fun h => hz h.2))
      have hg : (restN c r p n.toNat == 0) = false := by rw [beq_eq_false_iff_ne]; exact hz
      clear hz hc hi1
      go_wp2
      go_ret
      exact ⟨retB HV.out.symm, HB.out⟩
  · have HH := hide h
    have HV := hide (tru_no (show ¬ enP c r n p from fun hh => h hh.1))
    clear h
    go_enter Try.func119, Try.ntmps119
    go_wp2_with fail
    refine HT.out.mono ?_
    rintro e w1 ⟨G, d, G', d', rfl, ho, ho', _, hb⟩
    rw [tru_no HH.out]
    have HB := hide hb
    clear ho ho' hb
    go_wp2
    go_ret
    exact ⟨retB HV.out.symm, HB.out⟩
set_option maxHeartbeats 2000000 in
theorem fnPays_any (p c r n : Int) (P1 P2 P3 : Nat) (w : World) (h1 : w.heap[P1]? = some (.cells #[.int .i64 c] 2)) (h2 : w.heap[P2]? = some (.cells #[.int .i64 r] 2)) (h3 : w.heap[P3]? = some (.cells #[.int .i64 n] 2)) :
    Calls Try.prog 118 #[.int .i64 p, .pointer (some ⟨P1, 0, none⟩), .pointer (some ⟨P2, 0, none⟩), .pointer (some ⟨P3, 0, none⟩)] w fun e w' => e = .returned (.bool (tru (enP c r n p))) ∧ Below w.heap.size w w' := by
  have k1 := Joins.cell_of_block h1 0
  have k2 := Joins.cell_of_block h2 0
  have k3 := Joins.cell_of_block h3 0
  simp at k1 k2 k3
  clear h1 h2 h3
  go_enter Try.func118, Try.ntmps118
  go_wp2_with fail
  refine (implIsPaid_any c r p n _).mono ?_
  rintro e w1 ⟨rfl, hb⟩
  have HB := hide hb
  clear hb
  go_wp2
  go_ret
  exact ⟨rfl, HB.out⟩
set_option maxHeartbeats 4000000 in
theorem searchPays_any (c r n : Int) (P1 P2 P3 : Nat) (w : World) (h1 : w.heap[P1]? = some (.cells #[.int .i64 c] 2)) (h2 : w.heap[P2]? = some (.cells #[.int .i64 r] 2)) (h3 : w.heap[P3]? = some (.cells #[.int .i64 n] 2)) :
    Calls Try.prog 117 #[.int .i64 1000000000, .func (Fn.func 118) #[] #[.pointer (some ⟨P1, 0, none⟩), .pointer (some ⟨P2, 0, none⟩), .pointer (some ⟨P3, 0, none⟩)]] w fun e w' => ∃ p, e = .returned (.int .i64 p) ∧ leastP c r n p ∧ Below w.heap.size w w' := by
  have H1 := hide h1
  have H2 := hide h2
  have H3 := hide h3
  have l1 := (Array.getElem?_eq_some_iff.1 h1).1
  have l2 := (Array.getElem?_eq_some_iff.1 h2).1
  have l3 := (Array.getElem?_eq_some_iff.1 h3).1
  have HL := hide (And.intro l1 (And.intro l2 l3))
  clear h1 h2 h3 l1 l2 l3
  go_enter Try.func117, Try.ntmps117
  go_wp2
  go_loopw [5, 6, 7] (fun i j _ wr => ∃ a b : Int, i = .int .i64 a ∧ j = .int .i64 b ∧ 0 ≤ a ∧ a ≤ b ∧ b ≤ 1000000000 ∧ Hid (a = 0 ∨ ¬ enP c r n (a - 1)) ∧ Hid (b = 1000000000 ∨ enP c r n b) ∧ Below w.heap.size w wr) (fun i j _ _ => (intOf j - intOf i).toNat)
  case atStart => exact ⟨0, 1000000000, rfl, rfl, by omega, by omega, by omega, .inl rfl, .inl rfl, Below.refl _ _⟩
  case round =>
    obtain ⟨a, b, rfl, rfl, a0, ab, b1, ha, hb, hbel⟩ := hrel
    by_cases hlt : a < b
    · have HBEL := hide hbel
      have HK1 := hide (blk_below hbel HL.out.1 H1.out)
      have HK2 := hide (blk_below hbel HL.out.2.1 H2.out)
      have HK3 := hide (blk_below hbel HL.out.2.2 H3.out)
      have hm0 : a ≤ (a + b) / 2 := by omega
      have hm1 : (a + b) / 2 < b := by omega
      clear hbel
      go_wp2_with fail
      refine (fnPays_any ((a + b) / 2) c r n P1 P2 P3 _ HK1.out HK2.out HK3.out).mono ?_
      rintro e w1 ⟨rfl, hb1⟩
      have HB1 := hide (HBEL.out.trans (hb1.mono HBEL.out.size))
      clear hb1
      by_cases hen : enP c r n ((a + b) / 2)
      · rw [tru_yes hen]
        have HE := hide hen
        clear hen
        go_wp2
        go_roundw
        case rel => exact ⟨a, (a + b) / 2, rfl, rfl, a0, hm0, by omega, ha.out, .inr HE.out, HB1.out⟩
        case measure => simp [intOf]; omega
      · rw [tru_no hen]
        have HE := hide hen
        clear hen
        go_wp2
        go_roundw
        case rel => exact ⟨(a + b) / 2 + 1, b, rfl, rfl, by omega, by omega, b1, .inr (by rw [show (a + b) / 2 + 1 - 1 = (a + b) / 2 by omega]; exact HE.out), hb.out, HB1.out⟩
        case measure => simp [intOf]; omega
    · obtain rfl : a = b := by omega
      have HV := hide (show leastP c r n a from ⟨a0, b1, hb.out, ha.out⟩)
      have HBEL := hide hbel
      clear hbel
      go_wp2
      go_ret
      exact ⟨a, rfl, HV.out, HBEL.out⟩
set_option maxHeartbeats 4000000 in
theorem implLoanPayment_any (c r n : Int) (w : World) :
    Calls Try.prog 36 #[.int .i64 c, .int .i64 r, .int .i64 n] w fun e w' => e = .returned (.tuple #[.int .i64 (ifV (payP c r n) (leastV c r n)), .bool (tru (payP c r n))]) ∧ Below w.heap.size w w' := by
  obtain ⟨W, hW⟩ : ∃ u, u = ((w.alloc (.cells #[.int .i64 c] 2)).alloc (.cells #[.int .i64 r] 2)).alloc (.cells #[.int .i64 n] 2) := ⟨_, rfl⟩
  have HB0 : Hid (Below w.heap.size w W) := by rw [hW]; exact (((Below.refl w.heap.size w).alloc (Nat.le_refl _) _).alloc (by simp) _).alloc (by simp; omega) _
  have H1 : Hid (W.heap[w.heap.size]? = some (.cells #[.int .i64 c] 2)) := by rw [hW]; exact (blocks3 w _ _ _).1
  have H2 : Hid (W.heap[w.heap.size + 1]? = some (.cells #[.int .i64 r] 2)) := by rw [hW]; exact (blocks3 w _ _ _).2.1
  have H3 : Hid (W.heap[w.heap.size + 1 + 1]? = some (.cells #[.int .i64 n] 2)) := by rw [hW]; exact (blocks3 w _ _ _).2.2
  have HZ := hide (show w.heap.size < W.heap.size ∧ w.heap.size + 1 < W.heap.size ∧ w.heap.size + 1 + 1 < W.heap.size by rw [hW]; simp; omega)
  have HWW := hide hW
  clear hW
  have HS := hide (searchPays_any c r n _ _ _ W H1.out H2.out H3.out)
  go_enter Try.func36, Try.ntmps36
  go_wp2_with fail
  rw [← HWW.out]
  clear HWW
  refine HS.out.mono ?_
  rintro e w1 ⟨p, rfl, hl, hb⟩
  have HL := hide hl
  have p0 := hl.1
  have p1 := hl.2.1
  have HB1 := hide (HB0.out.trans (hb.mono HB0.out.size))
  have K1 := hide (blk_below hb HZ.out.1 H1.out)
  have K2 := hide (blk_below hb HZ.out.2.1 H2.out)
  have K3 := hide (blk_below hb HZ.out.2.2 H3.out)
  clear hl hb HS
  have k1 := Joins.cell_of_block K1.out 0
  have k2 := Joins.cell_of_block K2.out 0
  have k3 := Joins.cell_of_block K3.out 0
  simp at k1 k2 k3
  go_wp2_with fail
  refine (implIsPaid_any c r p n _).mono ?_
  rintro e w2 ⟨rfl, hb⟩
  have HB2 := hide (HB1.out.trans (hb.mono HB1.out.size))
  clear hb k1 k2 k3
  by_cases hen : enP c r n p
  · rw [tru_yes hen]
    have HH := hide ((least_en HL.out).1 hen)
    clear hen
    go_wp2
    go_ret2
    exact ⟨ret_val HH.out (leastV_eq HL.out), HB2.out⟩
  · rw [tru_no hen]
    have HH := hide (fun h => hen ((least_en HL.out).2 h))
    clear hen
    go_wp2
    go_ret2
    exact ⟨ret_no HH.out, HB2.out⟩
theorem specMax0_any (a b : Int) (w : World) : Calls Try.prog 112 #[.int .i64 a, .int .i64 b] w fun e w' => e = .returned (.int .i64 (max a b)) ∧ w = w' := by
  by_cases h : b < a
  · have HB := hide (show max a b = a by omega)
    go_enter Try.func112, Try.ntmps112
    go_wp2
    go_ret
    exact ⟨reti HB.out.symm, rfl⟩
  · have HB := hide (show max a b = b by omega)
    go_enter Try.func112, Try.ntmps112
    go_wp2
    go_ret
    exact ⟨reti HB.out.symm, rfl⟩
theorem ret2i {a b a' b' : Int} (h : a = a') (h2 : b = b') : Ending.returned (.tuple #[.int .i64 a, .int .i64 b]) = .returned (.tuple #[.int .i64 a', .int .i64 b']) := by rw [h, h2]
end Go.Proofs.Ytbcajjpgpjadaaa
