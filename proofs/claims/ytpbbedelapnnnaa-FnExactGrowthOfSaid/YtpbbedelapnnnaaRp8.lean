/- RunPeople: the years one after another. -/
import Derived.Test.YtpbbedelapnnnaaNp8
namespace Go.Proofs.Ytpbbedelapnnnaa
open Go.RowKit Go.Dues
/-- the counts after so many years -/
def rpV (x y z : Nat → Nat) (n : Nat) : Nat → Nat → Nat
  | 0 => x
  | k + 1 => nxV (rpV x y z n k) y z n
def rpP (x : Nat → Nat) (n : Nat) (y : Nat → Nat) (m : Nat) (z : Nat → Nat) (l : Nat) (t : Int) : Prop :=
  ppP x n y m z l ∧ (0 ≤ t ∧ t ≤ 64) ∧ ∀ i : Nat, (i : Int) < t → npP (rpV x y z n i) n y m z l
theorem fs_fin {p q : Nat} (h : FS .f32 p q) (hq : ffin .f32 q = true) : p = q := by
  rcases h with h | ⟨_, h2⟩
  · exact h
  · rw [ffin_nan hq] at h2; cases h2
theorem shB_fin {p : Nat} (h : shB p = true) : ffin .f32 p = true := by
  have h0 : FloatKind.f32.format.read 0 = .number false 0 (-149) := by decide +kernel
  have h1 : FloatKind.f32.format.read 1065353216 = .number false 8388608 (-23) := by decide +kernel
  unfold shB geB leB od Ieee.Format.order at h
  rw [h0, h1] at h
  unfold ffin
  cases hd : FloatKind.f32.format.read p with
  | number s m e => rfl
  | infinity s => rw [hd] at h; cases s <;> exact nomatch (show false = true from h)
  | nan s t => rw [hd] at h; exact nomatch (show false = true from h)
/-- people that were handed back whole -/
theorem gavep_yes {w w' : World} {e : Ending} {p : Prop} {n : Nat} {X Y Z : Nat → Nat} (h : GaveP w w' e p n n n X Y Z) (hp : p) (hx : ∀ j, j < n → ffin .f32 (X j) = true) (hy : ∀ j, j < n → ffin .f32 (Y j) = true) (hz : ∀ j, j < n → ffin .f32 (Z j) = true) :
    ∃ G1 d1 G2 d2 G3 d3, ∃ l1 u1 l2 u2 l3 u3, e = .returned (.tuple #[.agg #[.slice G1 n d1, .slice G2 n d2, .slice G3 n d3], .bool true]) ∧
      OW w' l1 u1 G1 n (fun j => .float .f32 (X j)) ∧ OW w' l2 u2 G2 n (fun j => .float .f32 (Y j)) ∧ OW w' l3 u3 G3 n (fun j => .float .f32 (Z j)) ∧
      (w.heap.size ≤ l1 ∧ l1 ≤ u1 ∧ u1 ≤ w'.heap.size) ∧ (w.heap.size ≤ l2 ∧ l2 ≤ u2 ∧ u2 ≤ w'.heap.size) ∧ (w.heap.size ≤ l3 ∧ l3 ≤ u3 ∧ u3 ≤ w'.heap.size) ∧ (u1 ≤ l2 ∨ u2 ≤ l1) ∧ (u1 ≤ l3 ∨ u3 ≤ l1) ∧ (u2 ≤ l3 ∨ u3 ≤ l2) ∧ Below w.heap.size w w' := by
  obtain ⟨G1, d1, z1, G2, d2, z2, G3, d3, z3, l1, u1, l2, u2, l3, u3, he, o1, o2, o3, f1, f2, f3, b1, b2, b3, c1, c2, c3, -, hb⟩ := h
  rw [lenV_yes hp] at he o1 o2 o3 f1 f2 f3
  rw [tru_yes hp] at he
  exact ⟨G1, d1, G2, d2, G3, d3, l1, u1, l2, u2, l3, u3, he, o1.congr (fun j hj => by rw [fs_fin (f1 j hj) (hx j hj)]), o2.congr (fun j hj => by rw [fs_fin (f2 j hj) (hy j hj)]), o3.congr (fun j hj => by rw [fs_fin (f3 j hj) (hz j hj)]), b1, b2, b3, c1, c2, c3, hb⟩
/-- people that were not -/
theorem gavep_not {w w' : World} {e : Ending} {p : Prop} {n m l : Nat} {X Y Z : Nat → Nat} (h : GaveP w w' e p n m l X Y Z) (hp : ¬ p) :
    ∃ G1 d1 G2 d2 G3 d3, ∃ l1 u1 l2 u2 l3 u3, e = .returned (.tuple #[.agg #[.slice G1 0 d1, .slice G2 0 d2, .slice G3 0 d3], .bool false]) ∧
      (∀ f, OW w' l1 u1 G1 0 f) ∧ (∀ f, OW w' l2 u2 G2 0 f) ∧ (∀ f, OW w' l3 u3 G3 0 f) ∧
      (w.heap.size ≤ l1 ∧ l1 ≤ u1 ∧ u1 ≤ w'.heap.size) ∧ (w.heap.size ≤ l2 ∧ l2 ≤ u2 ∧ u2 ≤ w'.heap.size) ∧ (w.heap.size ≤ l3 ∧ l3 ≤ u3 ∧ u3 ≤ w'.heap.size) ∧ (u1 ≤ l2 ∨ u2 ≤ l1) ∧ (u1 ≤ l3 ∨ u3 ≤ l1) ∧ (u2 ≤ l3 ∨ u3 ≤ l2) ∧ Below w.heap.size w w' := by
  obtain ⟨G1, d1, z1, G2, d2, z2, G3, d3, z3, l1, u1, l2, u2, l3, u3, he, o1, o2, o3, f1, f2, f3, b1, b2, b3, c1, c2, c3, -, hb⟩ := h
  rw [lenV_no hp, lenV_no hp, lenV_no hp, tru_no hp] at he
  exact ⟨G1, d1, G2, d2, G3, d3, l1, u1, l2, u2, l3, u3, he, fun f => .inl rfl, fun f => .inl rfl, fun f => .inl rfl, b1, b2, b3, c1, c2, c3, hb⟩
/-- what a year hands on -/
theorem np_next {x y z : Nat → Nat} {n m l : Nat} (h : npP x n y m z l) : ppP (nxV x y z n) n y m z l := ⟨h.1.1, h.1.2.1, h.1.2.2.1, h.2, h.1.2.2.2.2.1, h.1.2.2.2.2.2⟩
theorem rp_pp {x y z : Nat → Nat} {n m l : Nat} (h : ppP x n y m z l) : ∀ k, (∀ i, i < k → npP (rpV x y z n i) n y m z l) → ppP (rpV x y z n k) n y m z l
  | 0, _ => h
  | k + 1, hk => np_next (hk k (Nat.lt_succ_self k))
/-- three rows of the run's own, named by a struct -/
def RnS (w0 wr : World) (N n : Nat) (X Y Z : Nat → Nat) : Prop :=
  ∃ G1 d1 G2 d2 G3 d3, ∃ l1 u1 l2 u2 l3 u3, wr.heap[N]? = some (.cells #[.slice G1 n d1, .slice G2 n d2, .slice G3 n d3] 29) ∧
    OW wr l1 u1 G1 n (fun j => .float .f32 (X j)) ∧ OW wr l2 u2 G2 n (fun j => .float .f32 (Y j)) ∧ OW wr l3 u3 G3 n (fun j => .float .f32 (Z j)) ∧
    (w0.heap.size ≤ l1 ∧ l1 ≤ u1 ∧ u1 ≤ wr.heap.size) ∧ (w0.heap.size ≤ l2 ∧ l2 ≤ u2 ∧ u2 ≤ wr.heap.size) ∧ (w0.heap.size ≤ l3 ∧ l3 ≤ u3 ∧ u3 ≤ wr.heap.size) ∧
    (u1 ≤ l2 ∨ u2 ≤ l1) ∧ (u1 ≤ l3 ∨ u3 ≤ l1) ∧ (u2 ≤ l3 ∨ u3 ≤ l2) ∧ (N < l1 ∨ u1 ≤ N) ∧ (N < l2 ∨ u2 ≤ N) ∧ (N < l3 ∨ u3 ≤ N) ∧ w0.heap.size ≤ N ∧ Below w0.heap.size w0 wr
/-- a struct is written whole -/
def put3 (w : World) (N : Nat) (a b c : Value) : World := ((w.setCell ⟨N, 0, none⟩ a).setCell ⟨N, 1, none⟩ b).setCell ⟨N, 2, none⟩ c
theorem put3_block {w : World} {N : Nat} {a b c a' b' c' : Value} {t : TypeId} (h : w.heap[N]? = some (.cells #[a', b', c'] t)) : (put3 w N a b c).heap[N]? = some (.cells #[a, b, c] t) :=
  Joins.block_setCell (Joins.block_setCell (Joins.block_setCell h (i := 0) a) (i := 1) b) (i := 2) c
theorem put3_else {w : World} {N M : Nat} {a b c : Value} (h : M ≠ N) : (put3 w N a b c).heap[M]? = w.heap[M]? := by
  unfold put3
  rw [Below.heap_setCell _ _ _ M h, Below.heap_setCell _ _ _ M h, Below.heap_setCell _ _ _ M h]
theorem put3_size {w : World} {N : Nat} {a b c : Value} : (put3 w N a b c).heap.size = w.heap.size := by unfold put3; simp
theorem put3_below {w0 w : World} {N g : Nat} {a b c : Value} (h : Below g w0 w) (hg : g ≤ N) : Below g w0 (put3 w N a b c) := ((h.setCell (by exact hg) _).setCell (by exact hg) _).setCell (by exact hg) _
theorem put3_ow {w : World} {lo hi n N : Nat} {A : Option Addr} {f : Nat → Value} {a b c : Value} (h : OW w lo hi A n f) (hN : N < lo ∨ hi ≤ N) : OW (put3 w N a b c) lo hi A n f := ((h.setCell (by exact hN)).setCell (by exact hN)).setCell (by exact hN)
end Go.Proofs.Ytpbbedelapnnnaa
