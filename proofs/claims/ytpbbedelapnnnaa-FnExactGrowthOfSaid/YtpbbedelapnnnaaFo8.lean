/- The rate of a fund: halves, what is finite, and what is told. -/
import Derived.Test.YtpbbedelapnnnaaFpl
import Derived.Test.YtpbbedelapnnnaaU8
namespace Go
open Ieee
theorem near_even (s : Bool) (n u : Nat) (p : Int) : single.nearest s n (p + u) = single.nearest s (n * 2 ^ u) p := by
  rw [← nearest_scale single s n u (p + u)]
  congr 1; omega
theorem half32 {x : Nat} (hx : x < 2139095040) : fop .quo .f32 x 1073741824 = fop .mul .f32 1056964608 x := by
  have r2 : single.read 1073741824 = .number false 8388608 (-22) := by decide +kernel
  have rh : single.read 1056964608 = .number false 8388608 (-24) := by decide +kernel
  obtain ⟨m, e, h1, -, -⟩ := read_pos single (x := x) (by rw [s_inf]; exact hx)
  have hl : m.log2 ≤ 25 := by
    have h := read_word single false (rung := x) (by rw [s_inf]; exact hx)
    rw [show single.word false x = x from rfl, h1, s_binade] at h
    split at h
    · rename_i hlt
      injection h with _ hm _
      by_cases h0 : m = 0
      · subst h0; decide
      · have := (Nat.log2_lt (k := 24) h0).2 (by omega); omega
    · injection h with _ hm _
      have hr : x % 8388608 < 8388608 := Nat.mod_lt _ (by decide)
      have := (Nat.log2_lt (k := 24) (n := m) (by omega)).2 (by omega); omega
  show (single.div x 1073741824).getD (qn .f32) = (single.mul 1056964608 x).getD (qn .f32)
  unfold Format.div Format.mul
  rw [h1, r2, rh]
  have hp : (Datum.number false 8388608 (-24)).product (.number false m e) = some (.number (false ^^ false) (8388608 * m) (-24 + e)) := rfl
  rw [hp, Option.map_some, Option.getD_some]
  unfold Datum.quotient
  dsimp only
  rw [if_neg (by decide), Option.map_some, Option.getD_some]
  show single.nearest (false ^^ false) _ _ = single.nearest (false ^^ false) _ _
  have h23 : Nat.log2 8388608 = 23 := by decide +kernel
  rw [show single.fractionBits + 2 = 25 from rfl, h23]
  obtain ⟨k, hk⟩ : ∃ k, 25 + 23 - m.log2 = 23 + k := ⟨25 - m.log2, by omega⟩
  rw [hk, Nat.shiftLeft_eq, Nat.pow_add, show (2 : Nat) ^ 23 = 8388608 from rfl, show m * (8388608 * 2 ^ k) = m * 2 ^ k * 8388608 by rw [Nat.mul_comm 8388608, Nat.mul_assoc], Nat.mul_div_cancel _ (by decide), Nat.mul_mod_left]
  rw [show (2 * (m * 2 ^ k) + ((0 : Nat) != 0).toNat) = m * 2 ^ (k + 1) by rw [Nat.pow_succ]; simp; rw [← Nat.mul_assoc, Nat.mul_comm 2, Nat.mul_assoc, Nat.mul_comm 2]]
  rw [show (8388608 : Nat) * m = m * 2 ^ 23 from Nat.mul_comm _ _]
  rw [show e - -22 - ((23 + k : Nat) : Int) - 1 = (e - 1) - ((k + 1 : Nat) : Int) by omega, nearest_scale, show (-24 : Int) + e = (e - 1) - ((23 : Nat) : Int) by omega, nearest_scale]
theorem fin_read {x : Nat} : ffin .f32 x = true ↔ ∃ s m e, single.read x = .number s m e := by
  constructor
  · intro h
    exact ffin_number (k := .f32) h
  · rintro ⟨s, m, e, h⟩
    unfold ffin
    show (match single.read x with | .number .. => true | _ => false) = true
    rw [h]
theorem qn_nf : ffin .f32 (qn .f32) = false := by decide +kernel
theorem inf_nf (s : Bool) : ffin .f32 (single.write (.infinity s)) = false := by cases s <;> decide +kernel
/-- a finite result has finite operands -/
theorem fin_add {x y : Nat} (h : ffin .f32 (fop .add .f32 x y) = true) : ffin .f32 x = true ∧ ffin .f32 y = true := by
  have e : fop .add .f32 x y = (((single.read x).sum (single.read y)).map single.write).getD (qn .f32) := rfl
  rw [e] at h
  rw [fin_read, fin_read]
  cases hx : single.read x with
  | number s m i =>
    cases hy : single.read y with
    | number t n j => exact ⟨⟨_, _, _, rfl⟩, _, _, _, rfl⟩
    | infinity t => rw [hx, hy] at h; have h' : ffin .f32 (single.write (.infinity t)) = true := h; rw [inf_nf] at h'; cases h'
    | nan t f => rw [hx, hy] at h; have h' : ffin .f32 (qn .f32) = true := h; rw [qn_nf] at h'; cases h'
  | infinity s =>
    cases hy : single.read y with
    | number t n j => rw [hx, hy] at h; have h' : ffin .f32 (single.write (.infinity s)) = true := h; rw [inf_nf] at h'; cases h'
    | infinity t =>
      rw [hx, hy] at h
      by_cases hst : s = t
      · have h' : ffin .f32 ((((if s = t then some (.infinity s) else none : Option Datum)).map single.write).getD (qn .f32)) = true := h
        rw [if_pos hst] at h'
        have h'' : ffin .f32 (single.write (.infinity s)) = true := h'
        rw [inf_nf] at h''; cases h''
      · have h' : ffin .f32 ((((if s = t then some (.infinity s) else none : Option Datum)).map single.write).getD (qn .f32)) = true := h
        rw [if_neg hst] at h'
        have h'' : ffin .f32 (qn .f32) = true := h'
        rw [qn_nf] at h''; cases h''
    | nan t f => rw [hx, hy] at h; have h' : ffin .f32 (qn .f32) = true := h; rw [qn_nf] at h'; cases h'
  | nan s f =>
    rw [hx] at h
    have h' : ffin .f32 (qn .f32) = true := by cases hy : single.read y <;> (rw [hy] at h; exact h)
    rw [qn_nf] at h'; cases h'
theorem fin_sub {x y : Nat} (h : ffin .f32 (fop .sub .f32 x y) = true) : ffin .f32 x = true := by
  have e : fop .sub .f32 x y = (((single.read x).sum (single.read y).opposite).map single.write).getD (qn .f32) := rfl
  rw [e] at h
  rw [fin_read]
  generalize (single.read y).opposite = d at h
  cases hx : single.read x with
  | number s m i => exact ⟨_, _, _, rfl⟩
  | infinity s =>
    rw [hx] at h
    cases d with
    | number t n j => have h' : ffin .f32 (single.write (.infinity s)) = true := h; rw [inf_nf] at h'; cases h'
    | infinity t =>
      have h' : ffin .f32 ((((if s = t then some (.infinity s) else none : Option Datum)).map single.write).getD (qn .f32)) = true := h
      by_cases hst : s = t
      · rw [if_pos hst] at h'
        have h'' : ffin .f32 (single.write (.infinity s)) = true := h'
        rw [inf_nf] at h''; cases h''
      · rw [if_neg hst] at h'
        have h'' : ffin .f32 (qn .f32) = true := h'
        rw [qn_nf] at h''; cases h''
    | nan t f => have h' : ffin .f32 (qn .f32) = true := h; rw [qn_nf] at h'; cases h'
  | nan s f =>
    rw [hx] at h
    have h' : ffin .f32 (qn .f32) = true := by cases d <;> exact h
    rw [qn_nf] at h'; cases h'
theorem fin_mul {x y : Nat} (h : ffin .f32 (fop .mul .f32 x y) = true) : ffin .f32 x = true := by
  have e : fop .mul .f32 x y = (((single.read x).product (single.read y)).map single.write).getD (qn .f32) := rfl
  rw [e] at h
  rw [fin_read]
  generalize single.read y = d at h
  cases hx : single.read x with
  | number s m i => exact ⟨_, _, _, rfl⟩
  | infinity s =>
    rw [hx] at h
    cases d with
    | number t n j =>
      have h' : ffin .f32 ((((if n = 0 then none else some (.infinity (s ^^ t)) : Option Datum)).map single.write).getD (qn .f32)) = true := h
      by_cases hn : n = 0
      · rw [if_pos hn] at h'
        have h'' : ffin .f32 (qn .f32) = true := h'
        rw [qn_nf] at h''; cases h''
      · rw [if_neg hn] at h'
        have h'' : ffin .f32 (single.write (.infinity (s ^^ t))) = true := h'
        rw [inf_nf] at h''; cases h''
    | infinity t => have h' : ffin .f32 (single.write (.infinity (s ^^ t))) = true := h; rw [inf_nf] at h'; cases h'
    | nan t f => have h' : ffin .f32 (qn .f32) = true := h; rw [qn_nf] at h'; cases h'
  | nan s f =>
    rw [hx] at h
    have h' : ffin .f32 (qn .f32) = true := by cases d <;> exact h
    rw [qn_nf] at h'; cases h'
end Go
namespace Go.Proofs.Ytpbbedelapnnnaa
open Go.RowKit Go.Dues
/-- ins times a number -/
def tmX (x : Nat → Nat) (b : Nat) (j : Nat) : Nat := fop .mul .f32 (x j) b
def rowOK (v : Nat) (x y z : Nat → Nat) (n b : Nat) : Prop := ∀ j, j < n → ffin .f32 (rnV v (tmX x b) y z j) = true
def lastV (v : Nat) (x y z : Nat → Nat) (n b : Nat) : Nat := rnV v (tmX x b) y z (n - 1)
def lastGe (v : Nat) (x y z : Nat → Nat) (n b : Nat) : Bool := geB (lastV v x y z n b) 0
def midF (lo hi : Nat) : Nat := fop .mul .f32 1056964608 (fop .add .f32 lo hi)
def stF (v : Nat) (x y z : Nat → Nat) (n : Nat) : Nat → Nat × Nat
  | 0 => (0, 1098907648)
  | k + 1 => if lastGe v x y z n (midF (stF v x y z n k).1 (stF v x y z n k).2) = true then ((stF v x y z n k).1, midF (stF v x y z n k).1 (stF v x y z n k).2) else (midF (stF v x y z n k).1 (stF v x y z n k).2, (stF v x y z n k).2)
def miF (v : Nat) (x y z : Nat → Nat) (n k : Nat) : Nat := midF (stF v x y z n k).1 (stF v x y z n k).2
def frP (v : Nat) (x : Nat → Nat) (n : Nat) (y : Nat → Nat) (m : Nat) (z : Nat → Nat) (l : Nat) (r : Int) : Prop :=
  fdP v x n y m z l ∧ (1 ≤ r ∧ r ≤ 40) ∧ rowOK v x y z n 1098907648 ∧ lastGe v x y z n 1098907648 = true ∧ ∀ k : Nat, (k : Int) < r → rowOK v x y z n (miF v x y z n k)
def frV (v : Nat) (x y z : Nat → Nat) (n : Nat) (r : Int) : Nat := (stF v x y z n r.toNat).2
theorem half_le {lo hi : Nat} (h1 : lo ≤ 1098907648) (h2 : hi ≤ 1098907648) : fop .add .f32 lo hi < 2139095040 ∧ midF lo hi ≤ 1098907648 := by
  have e1 : uv 1098907648 + uv 1098907648 = uv 1107296256 := by decide +kernel
  have h3 : fop .add .f32 lo hi ≤ 1107296256 := add_le (by omega) (by omega) (by rw [← e1]; exact Nat.add_le_add (uv_le h1) (uv_le h2))
  refine ⟨by omega, ?_⟩
  unfold midF
  rw [fmul_nw (by decide) (by omega)]
  refine nw2_le ?_
  have e2 : uv 1056964608 * uv 1107296256 = uv 1098907648 * 2 ^ 149 := by decide +kernel
  rw [← e2]
  exact Nat.mul_le_mul_left _ (uv_le h3)
theorem st_le (v : Nat) (x y z : Nat → Nat) (n : Nat) : ∀ k, (stF v x y z n k).1 ≤ 1098907648 ∧ (stF v x y z n k).2 ≤ 1098907648
  | 0 => ⟨Nat.zero_le _, Nat.le_refl _⟩
  | k + 1 => by
    obtain ⟨h1, h2⟩ := st_le v x y z n k
    have h3 := (half_le h1 h2).2
    unfold stF
    by_cases h : lastGe v x y z n (midF (stF v x y z n k).1 (stF v x y z n k).2) = true
    · rw [if_pos h]; exact ⟨h1, h3⟩
    · rw [if_neg h]; exact ⟨h3, h2⟩
theorem fin_row {v : Nat} {x y z : Nat → Nat} {n b : Nat} (h : rowOK v x y z n b) {j : Nat} (hj : j < n) : ffin .f32 (tmX x b j) = true :=
  (fin_add (fin_sub (fin_mul (h j hj)))).2
theorem fin_x {x : Nat → Nat} {b j : Nat} (h : ffin .f32 (tmX x b j) = true) : ffin .f32 (x j) = true := fin_mul h
theorem rf_iff {v : Nat} {x y z : Nat → Nat} {n m l b : Nat} : rfP v (tmX x b) n y m z l ↔ fdP v x n y m z l ∧ rowOK v x y z n b := by
  constructor
  · rintro ⟨⟨h1, h2, h3, h4, h5, h6, h7⟩, h8⟩
    exact ⟨⟨h1, h2, h3, h4, fun j hj => fin_x (h5 j hj), h6, h7⟩, h8⟩
  · rintro ⟨⟨h1, h2, h3, h4, h5, h6, h7⟩, h8⟩
    exact ⟨⟨h1, h2, h3, h4, fun j hj => fin_row h8 hj, h6, h7⟩, h8⟩
end Go.Proofs.Ytpbbedelapnnnaa
