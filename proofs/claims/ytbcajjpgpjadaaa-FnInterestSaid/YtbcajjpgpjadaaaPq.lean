/- What FnInterest says, plainly. -/
import Derived.Test.YtbcajjpgpjadaaaIt
import Derived.Test.YtbcajjpgpjadaaaPn
import Derived.Test.YtbcajjpgpjadaaaLp
import Derived.Test.YtbcajjpgpjadaaaLc
import Derived.Test.YtbcajjpgpjadaaaIq
namespace Go.Proofs.Ytbcajjpgpjadaaa
open Go.RowKit Go.Dues
theorem rnd0 : rnd 0 10000 1 = 0 := by decide
theorem rnd_one (z o : Int) : rnd z o 1 = if o - z % o ≤ z % o then z / o + 1 else z / o := by
  unfold rnd
  rw [if_neg (by omega)]
  by_cases h : o - z % o ≤ z % o
  · rw [if_pos ⟨rfl, h⟩, if_pos h]
  · rw [if_neg (by omega), if_neg (by omega), if_neg h]
theorem rnd_nil {o : Int} (ho : 1 ≤ o) : rnd 0 o 1 = 0 := by
  rw [rnd_one, Int.zero_emod, Int.zero_ediv, if_neg (by omega)]
theorem rnd_up {a b o : Int} (h : a ≤ b) (ho : 1 ≤ o) : rnd a o 1 ≤ rnd b o 1 := by
  have hq : a / o ≤ b / o := Int.ediv_le_ediv (by omega) h
  rw [rnd_one, rnd_one]
  by_cases e : a / o = b / o
  · have h1 := Int.mul_ediv_add_emod a o
    have h2 := Int.mul_ediv_add_emod b o
    rw [e] at h1 ⊢
    split <;> split <;> omega
  · split <;> split <;> omega
theorem rest_zero {c r p : Int} (hp : 0 ≤ p) {k : Nat} (h : restN c r p k = 0) : ∀ j, restN c r p (k + j) = 0
  | 0 => h
  | j + 1 => by
    have := rest_zero hp h j
    rw [← Nat.add_assoc, restN_succ, this]
    unfold stepL intr
    rw [Int.zero_mul, rnd0]
    omega
theorem rest_zero' {c r p : Int} (hp : 0 ≤ p) {k j : Nat} (h : restN c r p k = 0) (hj : k ≤ j) : restN c r p j = 0 := by
  have := rest_zero hp h (j - k)
  rwa [show k + (j - k) = j by omega] at this
theorem en_most {c r n : Int} (hc : 0 ≤ c ∧ c ≤ 255000) (hr : 0 ≤ r ∧ r ≤ 990) (hn : 1 ≤ n ∧ n ≤ 120) : enP c r n 1000000000 := by
  have h1 : restN c r 1000000000 1 = 0 := by
    rw [show (1 : Nat) = 0 + 1 from rfl, restN_succ]
    have e : restN c r 1000000000 0 = c := rfl
    rw [e]
    unfold stepL
    have hb := intr_bd (rest := c) (rate := r) (by omega) (by omega) (by omega) (by omega)
    have h2 : c * r ≤ 255000 * 990 := Int.mul_le_mul hc.2 hr.2 hr.1 (by omega)
    have h3 : intr c r ≤ c * r / 10000 + 1 := (rnd1_bd (by omega) (by omega)).2
    omega
  have hz : ∀ j, restN c r 1000000000 (j + 1) = 0 := fun j => rest_zero' (by omega) h1 (by omega)
  refine ⟨⟨⟨by omega, by omega⟩, ⟨by omega, by omega⟩, ⟨by omega, by omega⟩, hn, fun j _ => by rw [hz j]; omega⟩, ?_⟩
  exact rest_zero' (by omega) h1 (by omega)
theorem least_ex {c r n : Int} (m : Nat) : ((m : Nat) : Int) ≤ 1000000000 → enP c r n (m : Int) → ∃ p, leastP c r n p := by
  induction m with
  | zero =>
    intro _ h
    exact ⟨((0 : Nat) : Int), by omega, by omega, .inr h, .inl rfl⟩
  | succ m ih =>
    intro hm h
    by_cases h2 : enP c r n (m : Int)
    · exact ih (by omega) h2
    · refine ⟨((m + 1 : Nat) : Int), by omega, hm, .inr h, .inr ?_⟩
      have e : ((m + 1 : Nat) : Int) - 1 = m := by omega
      rw [e]; exact h2
theorem least_is {c r n : Int} (h : payP c r n) : leastP c r n (leastV c r n) := by
  obtain ⟨M, hM⟩ : ∃ M : Nat, (M : Int) = 1000000000 := ⟨1000000000, rfl⟩
  obtain ⟨p, hp⟩ := least_ex (c := c) (r := r) (n := n) M (by omega) (by rw [hM]; exact h)
  rw [← leastV_eq hp]; exact hp
theorem least_first {c r p : Int} : ∀ n : Nat, n ≤ 120 → restN c r p n = 0 → n ≠ 0 → c ≠ 0 → ∃ k, firstZ c r p k ∧ k + 1 ≤ n
  | 0, _, _, h, _ => absurd rfl h
  | n + 1, hn, h, _, hc => by
    by_cases h2 : ∃ k, k < n ∧ restN c r p (k + 1) = 0
    · obtain ⟨k, hk, hz⟩ := h2
      obtain ⟨q, hq, hq1⟩ := least_first (k + 1) (by omega) hz (by omega) hc
      exact ⟨q, hq, by omega⟩
    · exact ⟨n, ⟨by omega, h, fun j hj e => h2 ⟨j, hj, e⟩⟩, by omega⟩
  termination_by n => n
theorem cnt_is {c r p n : Int} (h : enP c r n p) : cntQ c r p ∧ 1 ≤ cntN c r p ∧ cntN c r p ≤ n ∧ 0 ≤ cntL c r p ∧ cntL c r p ≤ p := by
  obtain ⟨⟨h1, h2, h3, h4, h5⟩, h6⟩ := h
  have hz : ∀ j, n.toNat ≤ j → restN c r p j = 0 := fun j hj => rest_zero' h3.1 h6 hj
  have ht : tabP c r p 120 := ⟨h1, h2, h3, ⟨by omega, by omega⟩, fun j hj => by
    by_cases h : j < n.toNat
    · exact h5 j h
    · rw [hz (j + 1) (by omega)]; omega⟩
  have hf : ∃ k, firstZ c r p k ∧ k + 1 ≤ n.toNat := by
    by_cases hc : c = 0
    · have : restN c r p 0 = 0 := hc
      refine ⟨0, ⟨by omega, rest_zero' h3.1 this (by omega), fun j hj => by omega⟩, by omega⟩
    · exact least_first n.toNat (by omega) h6 (by omega) hc
  obtain ⟨k, hk, hk1⟩ := hf
  have e := firstV_eq hk
  refine ⟨⟨ht, k, hk⟩, ?_⟩
  unfold cntN cntL
  rw [← e]
  have z0 := restN_nonneg (rate := r) (p := p) h1.1 k
  have z1 : restN c r p k ≤ 1000000000000 := by
    cases k with
    | zero => show c ≤ _; omega
    | succ j => exact h5 j (by omega)
  have hb := intr_bd (rest := restN c r p k) (rate := r) z0 z1 h2.1 h2.2
  have hs := hk.2.1
  rw [restN_succ] at hs
  unfold stepL at hs
  omega
theorem by_one {c r k a b : Int} (h : intP c r k a b) (ha : 0 ≤ a) (hab : a ≤ b) {x y : Nat → Int} (hx : x 0 = 0) (hy : y 0 = r) : irP c x 1 y 1 k a b ∧ irS c x 1 y k a b 1 = intV c r k a b := by
  refine ⟨⟨h.1, h.2.2, ⟨⟨by omega, by omega⟩, fun j hj => ?_, fun j hj => absurd hj (by omega)⟩, rfl, by omega, fun j hj => ?_⟩, ?_⟩
  · obtain rfl : j = 0 := by omega
    omega
  · obtain rfl : j = 0 := by omega
    rw [hy]; exact h.2.1
  · show 0 + irT c x 1 y k a b 0 = _
    unfold irT
    have e1 : irLo x a 0 = a := by unfold irLo; rw [hx]; omega
    have e2 : irHi x 1 b 0 = b := by unfold irHi; rw [if_neg (by omega)]
    rw [e1, e2, hy]
    by_cases hlt : a < b
    · rw [if_pos hlt]; omega
    · rw [if_neg hlt]
      obtain rfl : a = b := by omega
      unfold intV
      have e : btwN k a a = 0 := by
        unfold btwN
        split
        · unfold d360 monB; omega
        · omega
      rw [e, Int.mul_zero, Int.mul_zero]
      have := btwM_bd k
      rw [rnd_nil (by omega)]; omega
theorem int_up {c r s k a b : Int} (h : intP c s k a b) (hrs : r ≤ s) : intV c r k a b ≤ intV c s k a b := by
  unfold intV
  have hb := btwN_bd h.2.2
  have := btwM_bd k
  refine rnd_up ?_ (by omega)
  exact Int.mul_le_mul_of_nonneg_left (Int.mul_le_mul_of_nonneg_right hrs hb.1) h.1.1
theorem pen_few {c r a b : Int} (h : penP c r 1000 a b) : 0 ≤ penV c r 1000 a b ∧ penV c r 1000 a b ≤ c / 10 + 1 := by
  have hb := pen_bd h
  have h1 := rnd1_bd (a := c * (r * begV a b)) (b := 10000) hb.2.1.1 (by omega)
  have h2 := rnd1_bd (a := c * 1000) (b := 10000) hb.2.2.1 (by omega)
  have h3 : c * 1000 / 10000 = c / 10 := by omega
  unfold penV
  omega
def lit1 (a : Int) : Nat → Int := fun _ => a
def lit2 (a b : Int) : Nat → Int := fun j => if j = 0 then a else b
theorem sl_lit1 {w : World} {g : Nat} {t : TypeId} {a : Int} (h : w.heap[g]? = some (.cells #[.int .i64 a] t (0, 0))) : SL w (some ⟨g, 0, none⟩) 1 (fun j => .int .i64 (lit1 a j)) :=
  .inr ⟨g, 0, rfl, (Array.getElem?_eq_some_iff.1 h).1, fun j hj => by
    obtain rfl : j = 0 := by omega
    have := Joins.cell_of_block h 0
    simpa [lit1] using this⟩
theorem sl_lit2 {w : World} {g : Nat} {t : TypeId} {a b : Int} (h : w.heap[g]? = some (.cells #[.int .i64 a, .int .i64 b] t (0, 0))) : SL w (some ⟨g, 0, none⟩) 2 (fun j => .int .i64 (lit2 a b j)) :=
  .inr ⟨g, 0, rfl, (Array.getElem?_eq_some_iff.1 h).1, fun j hj => by
    by_cases h0 : j = 0
    · subst h0
      have := Joins.cell_of_block h 0
      simpa [lit2] using this
    · obtain rfl : j = 1 := by omega
      have := Joins.cell_of_block h 1
      simpa [lit2] using this⟩
theorem by_two {c r k a b : Int} (hc : 0 ≤ c ∧ c ≤ 1000000000) (h : timeP k a b) (hr : 0 ≤ r ∧ r + 100 ≤ 100000) (ha : a + 20 ≤ 36524) : irP c (lit2 0 (a + 20)) 2 (lit2 r (r + 100)) 2 k a b := by
  have h0 := h.2.1
  unfold dayP at h0
  refine ⟨hc, h, ⟨⟨by omega, by omega⟩, fun j hj => ?_, fun j hj => ?_⟩, rfl, ?_, fun j hj => ?_⟩
  · unfold lit2; split <;> omega
  · obtain rfl : j = 0 := by omega
    unfold lit2; simp; omega
  · unfold lit2; simp; omega
  · unfold lit2; split <;> omega
theorem table_yes {c r p : Int} {K : Nat} (h : tabP c r p (K : Int)) (w : World) : Calls Try.prog 37 #[.int .i64 c, .int .i64 r, .int .i64 p, .int .i64 (K : Int)] w fun e w' => ∃ G d G' d', e = .returned (.tuple #[.slice G K d, .slice G' K d', .bool true]) ∧ SL w' G K (fun j => .int .i64 (intr (restN c r p j) r)) ∧ SL w' G' K (fun j => .int .i64 (restN c r p (j + 1))) ∧ Below w.heap.size w w' := by
  refine (implLoanTable_any c r p (K : Int) w).mono ?_
  rintro e w' ⟨G, d, G', d', rfl, ho, ho', _, hb⟩
  rw [lenV_yes h, Int.toNat_natCast] at ho ho'
  rw [lenV_yes h, tru_yes h, Int.toNat_natCast]
  exact ⟨G, d, G', d', rfl, ho.sl, ho'.sl, hb⟩
theorem table_no {c r p : Int} {K : Nat} (h : ¬ tabP c r p (K : Int)) (w : World) : Calls Try.prog 37 #[.int .i64 c, .int .i64 r, .int .i64 p, .int .i64 (K : Int)] w fun e w' => ∃ G d G' d', e = .returned (.tuple #[.slice G 0 d, .slice G' 0 d', .bool false]) ∧ Below w.heap.size w w' := by
  refine (implLoanTable_any c r p (K : Int) w).mono ?_
  rintro e w' ⟨G, d, G', d', rfl, _, _, _, hb⟩
  rw [lenV_no h, tru_no h]
  exact ⟨G, d, G', d', rfl, hb⟩
theorem intr_lit (a r : Int) : intr a r = (2 * a * r + 10000) / 20000 := by
  unfold intr
  rw [rnd1_lit, Int.mul_assoc]
theorem sl_cell {w : World} {b off n : Nat} {f : Nat → Value} (h : SL w (some ⟨b, off, none⟩) n f) (j : Nat) (hj : j < n) : w.cell? ⟨b, off + j, none⟩ = some (f j) := by
  obtain ⟨b', off', h1, h2, h3⟩ := h.at_ (by omega)
  injection h1 with h1
  injection h1 with h1 h4
  subst h1 h4
  exact h3 j hj
theorem rest_bd {c r p n : Int} (h : enP c r n p) (j : Nat) (hj : j ≤ n.toNat) : 0 ≤ restN c r p j ∧ restN c r p j ≤ 1000000000000 := by
  refine ⟨restN_nonneg h.1.1.1 j, ?_⟩
  cases j with
  | zero => show c ≤ _; have := h.1.1.2; omega
  | succ k => exact h.1.2.2.2.2 k (by omega)
theorem prod_bd {a r : Int} (h0 : 0 ≤ a) (h1 : a ≤ 1000000000000) (r0 : 0 ≤ r) (r1 : r ≤ 990) : 0 ≤ 2 * a * r ∧ 2 * a * r ≤ 1980000000000000 := by
  have : a * r ≤ 1000000000000 * 990 := Int.mul_le_mul h1 r1 r0 (by omega)
  have h2 : 0 ≤ a * r := Int.mul_nonneg h0 r0
  rw [Int.mul_assoc]
  omega
theorem step_max (R r p : Int) : stepL r p R = if 0 < R + (2 * R * r + 10000) / 20000 - p then R + (2 * R * r + 10000) / 20000 - p else 0 := by
  unfold stepL
  rw [intr_lit]
  generalize (2 * R * r + 10000) / 20000 = I
  by_cases h : 0 < R + I - p
  · rw [if_pos h]; omega
  · rw [if_neg h]; omega
end Go.Proofs.Ytbcajjpgpjadaaa
