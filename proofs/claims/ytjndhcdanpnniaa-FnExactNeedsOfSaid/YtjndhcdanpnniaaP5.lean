/- Rows and rules: the plain arithmetic; no program is read here. -/
import Derived.Laws.BitsLemmas
import Derived.Test.YtjndhcdanpnniaaOw
namespace Go.Dues
open Go
theorem wrap_nat {n : Nat} (h : n < 9223372036854775808) : IntKind.i64.wrap (n : Int) = n := by rw [IntKind.wrap_i64]; omega
theorem and_nat {a b : Nat} (ha : a < 4611686018427387904) (hb : b < 4611686018427387904) : bits .and .i64 (a : Int) (b : Int) = ((a &&& b : Nat) : Int) :=
  (bits_nat .i64 62 (by decide) (fun n h0 h1 => by rw [IntKind.wrap_i64]; omega) a b (by omega) (by omega)).1
theorem xor_nat {a b : Nat} (ha : a < 4611686018427387904) (hb : b < 4611686018427387904) : bits .xor .i64 (a : Int) (b : Int) = ((a ^^^ b : Nat) : Int) := by
  have hx : a ^^^ b < 2 ^ 62 := Nat.xor_lt_two_pow (by omega) (by omega)
  have h1 : (BitVec.ofInt 64 (a : Int)).toNat = a := by
    rw [BitVec.ofInt_natCast, BitVec.toNat_ofNat]; exact Nat.mod_eq_of_lt (by omega)
  have h2 : (BitVec.ofInt 64 (b : Int)).toNat = b := by
    rw [BitVec.ofInt_natCast, BitVec.toNat_ofNat]; exact Nat.mod_eq_of_lt (by omega)
  show IntKind.i64.wrap ((BitVec.ofInt 64 (a : Int) ^^^ BitVec.ofInt 64 (b : Int)).toNat : Int) = _
  rw [BitVec.toNat_xor, h1, h2]
  exact wrap_nat (by omega)
theorem wrap_zero {n : Nat} (h : n < 18446744073709551616) : IntKind.i64.wrap (n : Int) = 0 ↔ n = 0 := by rw [IntKind.wrap_i64]; omega
theorem wrap_inj {a b : Nat} (ha : a < 18446744073709551616) (hb : b < 18446744073709551616) : IntKind.i64.wrap (a : Int) = IntKind.i64.wrap (b : Int) ↔ a = b := by rw [IntKind.wrap_i64, IntKind.wrap_i64]; omega
theorem wrap_self {x : Int} (h0 : -9223372036854775808 ≤ x) (h1 : x ≤ 9223372036854775807) : IntKind.i64.wrap ((BitVec.ofInt 64 x).toNat : Int) = x := by
  rw [IntKind.wrap_i64, BitVec.toNat_ofInt]
  omega
/-- a number has no digit that another has not -/
theorem sub_iff {x y : Int} (h0 : -9223372036854775808 ≤ x) (h1 : x ≤ 9223372036854775807) (y0 : 0 ≤ y) (y1 : y ≤ 9223372036854775807) :
    bits .andNot .i64 x y = 0 ↔ (0 ≤ x ∧ x ≤ y) ∧ bits .and .i64 x y = x := by
  have e1 : bits .andNot .i64 x y = IntKind.i64.wrap ((BitVec.ofInt 64 x &&& ~~~ BitVec.ofInt 64 y).toNat : Int) := rfl
  have e2 : bits .and .i64 x y = IntKind.i64.wrap ((BitVec.ofInt 64 x &&& BitVec.ofInt 64 y).toNat : Int) := rfl
  have ey : (BitVec.ofInt 64 y).toNat = y.toNat := by rw [BitVec.toNat_ofInt]; omega
  have hb : BitVec.ofInt 64 x &&& ~~~ BitVec.ofInt 64 y = 0#64 ↔ BitVec.ofInt 64 x &&& BitVec.ofInt 64 y = BitVec.ofInt 64 x := by
    constructor
    · intro h
      apply BitVec.eq_of_getLsbD_eq
      intro i hi
      have := congrArg (fun v => BitVec.getLsbD v i) h
      simp [hi] at this ⊢
      exact this
    · intro h
      apply BitVec.eq_of_getLsbD_eq
      intro i hi
      have := congrArg (fun v => BitVec.getLsbD v i) h
      simp [hi] at this ⊢
      exact this
  rw [e1, wrap_zero (BitVec.isLt _)]
  have hz : (BitVec.ofInt 64 x &&& ~~~ BitVec.ofInt 64 y).toNat = 0 ↔ BitVec.ofInt 64 x &&& ~~~ BitVec.ofInt 64 y = 0#64 := by
    rw [← BitVec.toNat_inj]; simp
  rw [hz, hb, e2]
  constructor
  · intro h
    rw [h, wrap_self h0 h1]
    have h2 : (BitVec.ofInt 64 x).toNat ≤ (BitVec.ofInt 64 y).toNat := by
      have := congrArg BitVec.toNat h
      rw [BitVec.toNat_and] at this
      rw [← this]
      exact Nat.and_le_right
    have h3 := wrap_self h0 h1
    rw [wrap_nat (by omega)] at h3
    refine ⟨⟨by omega, by omega⟩, rfl⟩
  · rintro ⟨_, h⟩
    have h3 := wrap_self h0 h1
    have h4 : IntKind.i64.wrap ((BitVec.ofInt 64 x &&& BitVec.ofInt 64 y).toNat : Int) = IntKind.i64.wrap ((BitVec.ofInt 64 x).toNat : Int) := by rw [h, h3]
    rw [wrap_inj (BitVec.isLt _) (BitVec.isLt _)] at h4
    exact BitVec.toNat_inj.1 h4
theorem and_bd {x y : Int} (x0 : 0 ≤ x) (x1 : x ≤ 255) (y0 : 0 ≤ y) (y1 : y ≤ 255) : 0 ≤ bits .and .i64 x y ∧ bits .and .i64 x y ≤ 255 := by
  obtain ⟨a, rfl⟩ := Int.eq_ofNat_of_zero_le x0
  obtain ⟨b, rfl⟩ := Int.eq_ofNat_of_zero_le y0
  rw [and_nat (by omega) (by omega)]
  have := Nat.and_lt_two_pow (n := 8) a (show b < 2 ^ 8 by omega)
  omega
/-- two rows fit one number together -/
theorem both_iff {a b c d : Int} (a0 : 0 ≤ a) (a1 : a ≤ 255) (b0 : 0 ≤ b) (b1 : b ≤ 255) (c0 : 0 ≤ c) (c1 : c ≤ 255) (d0 : 0 ≤ d) (d1 : d ≤ 255) :
    bits .and .i64 (bits .and .i64 (bits .xor .i64 a b) c) d = 0 ↔ bits .and .i64 a (bits .and .i64 c d) = bits .and .i64 b (bits .and .i64 c d) := by
  obtain ⟨a, rfl⟩ := Int.eq_ofNat_of_zero_le a0
  obtain ⟨b, rfl⟩ := Int.eq_ofNat_of_zero_le b0
  obtain ⟨c, rfl⟩ := Int.eq_ofNat_of_zero_le c0
  obtain ⟨d, rfl⟩ := Int.eq_ofNat_of_zero_le d0
  have hx := Nat.xor_lt_two_pow (n := 8) (show a < 2 ^ 8 by omega) (show b < 2 ^ 8 by omega)
  have h1 := Nat.and_lt_two_pow (n := 8) (a ^^^ b) (show c < 2 ^ 8 by omega)
  have h2 := Nat.and_lt_two_pow (n := 8) c (show d < 2 ^ 8 by omega)
  rw [xor_nat (by omega) (by omega), and_nat (by omega) (by omega), and_nat (by omega) (by omega), and_nat (a := c) (by omega) (by omega), and_nat (by omega) (by omega), and_nat (by omega) (by omega)]
  constructor
  · intro h
    have h' : (a ^^^ b) &&& c &&& d = 0 := by omega
    congr 1
    apply Nat.eq_of_testBit_eq
    intro i
    have := congrArg (fun v => Nat.testBit v i) h'
    simp only [Nat.testBit_and, Nat.testBit_xor, Nat.zero_testBit] at this ⊢
    revert this
    cases a.testBit i <;> cases b.testBit i <;> cases c.testBit i <;> cases d.testBit i <;> simp
  · intro h
    have h' : a &&& (c &&& d) = b &&& (c &&& d) := by omega
    have : (a ^^^ b) &&& c &&& d = 0 := by
      apply Nat.eq_of_testBit_eq
      intro i
      have := congrArg (fun v => Nat.testBit v i) h'
      simp only [Nat.testBit_and, Nat.testBit_xor, Nat.zero_testBit] at this ⊢
      revert this
      cases a.testBit i <;> cases b.testBit i <;> cases c.testBit i <;> cases d.testBit i <;> simp
    omega
/-! ### lists that a call makes -/
def gl (L : List Int) (j : Nat) : Int := L[j]?.getD 0
def il (L : List Nat) : List Int := L.map fun k : Nat => Int.ofNat k
theorem il_len (L : List Nat) : (il L).length = L.length := List.length_map ..
theorem il_snoc (L : List Nat) (k : Nat) : il (L ++ [k]) = il L ++ [(k : Int)] := by unfold il; rw [List.map_append]; rfl
theorem map_snoc (L : List Int) (y : Int) : (L ++ [y]).map (Value.int .i64) = L.map (Value.int .i64) ++ [.int .i64 y] := by rw [List.map_append]; rfl
theorem own_ints {w : World} {B e c : Nat} {A : Option Addr} {L : List Int} (h : w.ownsRow B e 1 (.slice A L.length c) L.length (L.map (Value.int .i64))) : OW w B w.heap.size A L.length (fun j => .int .i64 (gl L j)) :=
  OW.of_owns h fun j hj => by
    rw [List.getElem?_map, List.getElem?_eq_getElem hj]
    show some _ = some _
    unfold gl
    rw [List.getElem?_eq_getElem hj]; rfl
/-- the first n numbers for which p holds -/
def flt (p : Nat → Bool) (n : Nat) : List Nat := (List.range n).filter p
theorem flt_zero (p : Nat → Bool) : flt p 0 = [] := rfl
theorem flt_len (p : Nat → Bool) (n : Nat) : (flt p n).length ≤ n := by
  have := List.length_filter_le p (List.range n)
  rw [List.length_range] at this; exact this
theorem flt_yes {p : Nat → Bool} {n : Nat} (h : p n = true) : flt p (n + 1) = flt p n ++ [n] := by
  unfold flt
  rw [List.range_succ, List.filter_append, List.filter_cons_of_pos h, List.filter_nil]
theorem flt_no {p : Nat → Bool} {n : Nat} (h : p n = false) : flt p (n + 1) = flt p n := by
  unfold flt
  rw [List.range_succ, List.filter_append, List.filter_cons_of_neg (by rw [h]; decide), List.filter_nil, List.append_nil]
theorem il_yes {p : Nat → Bool} {n : Nat} (h : p n = true) : il (flt p (n + 1)) = il (flt p n) ++ [(n : Int)] := by rw [flt_yes h, il_snoc]
theorem il_no {p : Nat → Bool} {n : Nat} (h : p n = false) : il (flt p (n + 1)) = il (flt p n) := by rw [flt_no h]
theorem flt_mem {p : Nat → Bool} {n k : Nat} : k ∈ flt p n ↔ k < n ∧ p k = true := by unfold flt; rw [List.mem_filter, List.mem_range]
/-- the pairs of i with those of a list behind it -/
def pr1 (cl : Nat → Nat → Bool) (i : Nat) : List Nat → List Int
  | [] => []
  | k :: r => (if cl i k then [(i : Int), (k : Int)] else []) ++ pr1 cl i r
def prs (cl : Nat → Nat → Bool) : List Nat → List Int
  | [] => []
  | i :: r => pr1 cl i r ++ prs cl r
theorem pr1_len (cl : Nat → Nat → Bool) (i : Nat) : ∀ L, (pr1 cl i L).length ≤ 2 * L.length
  | [] => by simp [pr1]
  | k :: r => by
    have := pr1_len cl i r
    unfold pr1
    rw [List.length_append, List.length_cons]
    split <;> simp <;> omega
theorem prs_len (cl : Nat → Nat → Bool) : ∀ L, (prs cl L).length ≤ 2 * L.length * L.length
  | [] => by simp [prs]
  | i :: r => by
    have h1 := pr1_len cl i r
    have h2 := prs_len cl r
    unfold prs
    rw [List.length_append, List.length_cons]
    have : 2 * (r.length + 1) * (r.length + 1) = 2 * r.length * r.length + 4 * r.length + 2 := by
      rw [Nat.mul_add 2, Nat.add_mul, Nat.mul_add, Nat.mul_add]; omega
    omega
theorem range_from {i n : Nat} (h : i < n) : List.range' i (n - i) = i :: List.range' (i + 1) (n - (i + 1)) := by
  rw [show n - i = (n - (i + 1)) + 1 by omega, List.range'_succ]
theorem range_end {n : Nat} : List.range' n (n - n) = [] := by rw [Nat.sub_self]; rfl

/-! ### rows -/
def fitB (x : Nat → Int) (q : Int) (j : Nat) : Bool := bits .and .i64 q (x (j * 3)) == x (j * 3 + 1)
def fstR (x : Nat → Int) (q : Int) : Nat → Int
  | 0 => -1
  | k + 1 => if fstR x q k < 0 then (if fitB x q k then (k : Int) else -1) else fstR x q k
theorem fstR_none {x : Nat → Int} {q : Int} : ∀ {n : Nat}, (∀ j, j < n → fitB x q j = false) → fstR x q n = -1
  | 0, _ => rfl
  | n + 1, h => by
    show (if fstR x q n < 0 then (if fitB x q n then (n : Int) else -1) else fstR x q n) = -1
    rw [fstR_none (fun j hj => h j (by omega)), if_pos (by omega), h n (by omega)]; rfl
theorem fstR_some {x : Nat → Int} {q : Int} {p : Nat} (hf : fitB x q p = true) (hb : ∀ j, j < p → fitB x q j = false) : ∀ {n : Nat}, p < n → fstR x q n = p
  | 0, h => absurd h (by omega)
  | n + 1, h => by
    show (if fstR x q n < 0 then (if fitB x q n then (n : Int) else -1) else fstR x q n) = p
    by_cases e : p = n
    · subst e
      rw [fstR_none hb, if_pos (by omega), hf]; rfl
    · rw [fstR_some hf hb (by omega), if_neg (by omega)]
theorem fstR_bd (x : Nat → Int) (q : Int) : ∀ n : Nat, -1 ≤ fstR x q n ∧ fstR x q n < n
  | 0 => ⟨by show (-1 : Int) ≤ -1; omega, by show (-1 : Int) < 0; omega⟩
  | n + 1 => by
    have := fstR_bd x q n
    show -1 ≤ (if fstR x q n < 0 then (if fitB x q n then (n : Int) else -1) else fstR x q n) ∧ (if fstR x q n < 0 then (if fitB x q n then (n : Int) else -1) else fstR x q n) < (n + 1 : Nat)
    split
    · split <;> omega
    · omega
def gapB (x : Nat → Int) (n q : Nat) : Bool := decide (fstR x q n < 0)
/-- how many of the first T numbers row j is the first one to fit -/
def cntR (x : Nat → Int) (n j : Nat) : Nat → Int
  | 0 => 0
  | q + 1 => cntR x n j q + if fstR x q n = j then 1 else 0
theorem cntR_bd (x : Nat → Int) (n j : Nat) : ∀ T : Nat, 0 ≤ cntR x n j T ∧ cntR x n j T ≤ T
  | 0 => ⟨by show (0 : Int) ≤ 0; omega, by show (0 : Int) ≤ 0; omega⟩
  | q + 1 => by
    have := cntR_bd x n j q
    show 0 ≤ cntR x n j q + _ ∧ cntR x n j q + _ ≤ ((q + 1 : Nat) : Int)
    split <;> omega
def frB (x : Nat → Int) (n T j : Nat) : Bool := decide (0 < cntR x n j T)
def rcl (x : Nat → Int) (i k : Nat) : Bool := decide (x (i * 3 + 2) ≠ x (k * 3 + 2)) && (bits .and .i64 (x (i * 3 + 1)) (bits .and .i64 (x (i * 3)) (x (k * 3))) == bits .and .i64 (x (k * 3 + 1)) (bits .and .i64 (x (i * 3)) (x (k * 3))))
/-- how many numbers a table of so many cases has -/
def tsz (c : Int) : Nat := 2 ^ c.toNat
theorem tsz_bd {c : Int} (h : 1 ≤ c ∧ c ≤ 8) : 2 ≤ tsz c ∧ tsz c ≤ 256 := by
  have : c = 1 ∨ c = 2 ∨ c = 3 ∨ c = 4 ∨ c = 5 ∨ c = 6 ∨ c = 7 ∨ c = 8 := by omega
  rcases this with rfl | rfl | rfl | rfl | rfl | rfl | rfl | rfl <;> decide
theorem tsz_wrap {c : Int} (h : 1 ≤ c ∧ c ≤ 8) : IntKind.i64.wrap (1 * 2 ^ c.toNat) = (tsz c : Int) ∧ IntKind.i64.wrap (2 ^ c.toNat) = (tsz c : Int) := by
  have : c = 1 ∨ c = 2 ∨ c = 3 ∨ c = 4 ∨ c = 5 ∨ c = 6 ∨ c = 7 ∨ c = 8 := by omega
  rcases this with rfl | rfl | rfl | rfl | rfl | rfl | rfl | rfl <;> decide
def rowP (x : Nat → Int) (T j : Nat) : Prop := (0 ≤ x (j * 3) ∧ x (j * 3) ≤ (T : Int) - 1) ∧ ((0 ≤ x (j * 3 + 1) ∧ x (j * 3 + 1) ≤ x (j * 3)) ∧ bits .and .i64 (x (j * 3 + 1)) (x (j * 3)) = x (j * 3 + 1)) ∧ (0 ≤ x (j * 3 + 2) ∧ x (j * 3 + 2) ≤ 100)
def rowsP (c : Int) (x : Nat → Int) (n : Nat) : Prop := (1 ≤ c ∧ c ≤ 8) ∧ (1 ≤ n ∧ n ≤ 32) ∧ ∀ j, j < n → rowP x (tsz c) j
end Go.Dues
