/- Slices that read as functions: what a slice value holds, and slices of integers among the arguments. -/
import Derived.WalkKit
import Derived.WalkLawsBesides
import Derived.Deep.Draws
import Derived.Below
import Derived.ChangeSlices
import Derived.Lib.SmallJoins
import Derived.IntWalk
namespace Go
open Go.RowKit

theorem hide {p : Prop} (h : p) : RowKit.Hid p := h
theorem unhide {p : Prop} (h : RowKit.Hid p) : p := h

/-! ### what a slice value holds -/
/-- A slice value with n elements of one cell each: nothing is asked where there are none. -/
def SL (w : World) (A : Option Addr) (n : Nat) (f : Nat → Value) : Prop :=
  n = 0 ∨ ∃ b off, A = some ⟨b, off, none⟩ ∧ b < w.heap.size ∧ ∀ j, j < n → w.cell? ⟨b, off + j, none⟩ = some (f j)

section
variable {w w' : World} {A : Option Addr} {n : Nat} {f : Nat → Value}
theorem SL.below (h : SL w A n f) (hb : Below w.heap.size w w') : SL w' A n f := by
  rcases h with h | ⟨b, off, h1, h2, h3⟩
  · exact .inl h
  · exact .inr ⟨b, off, h1, Nat.lt_of_lt_of_le h2 hb.size, fun j hj => (hb.cell (p := ⟨b, off + j, none⟩) h2).trans (h3 j hj)⟩
theorem SL.at_ (h : SL w A n f) (hn : n ≠ 0) : ∃ b off, A = some ⟨b, off, none⟩ ∧ b < w.heap.size ∧ ∀ j, j < n → w.cell? ⟨b, off + j, none⟩ = some (f j) := by
  rcases h with h | h
  · exact absurd h hn
  · exact h
theorem SL.drewN (h : SL w A n f) (k : Nat) : SL (w.drewN k) A n f := h
theorem SL.of_drewN {k : Nat} (h : SL (w.drewN k) A n f) : SL w A n f := h
/-- the same below block B: a call that made memory of its own from B on -/
theorem SL.belowN (h : SL w A n f) {B : Nat} (hB : ∀ b off, A = some ⟨b, off, none⟩ → n ≠ 0 → b < B) (hb : Below B w w') : SL w' A n f := by
  rcases h with h | ⟨b, off, h1, h2, h3⟩
  · exact .inl h
  · by_cases hn : n = 0
    · exact .inl hn
    · exact .inr ⟨b, off, h1, Nat.lt_of_lt_of_le h2 hb.size, fun j hj => (hb.cell (p := ⟨b, off + j, none⟩) (hB b off h1 hn)).trans (h3 j hj)⟩
theorem SL.set {p : Addr} {v : Value} (h : SL w A n f) (hne : ∀ b off, A = some ⟨b, off, none⟩ → n ≠ 0 → p.block ≠ b) : SL (w.setCell p v) A n f := by
  rcases h with h | ⟨b, off, h1, h2, h3⟩
  · exact .inl h
  · by_cases hn : n = 0
    · exact .inl hn
    · have hb := hne b off h1 hn
      refine .inr ⟨b, off, h1, by simpa [World.setCell] using h2, fun j hj => ?_⟩
      rw [World.cell?_setCell_other w p ⟨b, off + j, none⟩ v (fun e => hb (by rw [e]))]
      exact h3 j hj
theorem new_at (w : World) (o : Obj) : (w.alloc o).heap[w.heap.size]? = some o := by show (w.heap.push o)[w.heap.size]? = some o; simp
theorem new_keep (w : World) (o : Obj) {i : Nat} {u : Option Obj} (hi : i < w.heap.size) (h : w.heap[i]? = u) : (w.alloc o).heap[i]? = u := (Below.heap_alloc w o i hi).trans h
theorem blk_below {w w' : World} {B i : Nat} {u : Option Obj} (hb : Below B w w') (hi : i < B) (h : w.heap[i]? = u) : w'.heap[i]? = u := (hb.block i hi).trans h
theorem blk_set {w : World} {p : Addr} {v : Value} {i : Nat} {u : Option Obj} (hne : p.block ≠ i) (h : w.heap[i]? = u) : (w.setCell p v).heap[i]? = u := (Below.heap_setCell w p v i (fun e => hne e.symm)).trans h
theorem blocks1 (w : World) (o0 : Obj) : (w.alloc o0).heap[w.heap.size]? = some o0 := new_at w o0
theorem blocks2 (w : World) (o0 o1 : Obj) : ((w.alloc o0).alloc o1).heap[w.heap.size]? = some o0 ∧ ((w.alloc o0).alloc o1).heap[w.heap.size + 1]? = some o1 :=
  ⟨new_keep _ _ (by simp) (new_at w o0), by have := new_at (w.alloc o0) o1; simpa using this⟩
theorem blocks3 (w : World) (o0 o1 o2 : Obj) : (((w.alloc o0).alloc o1).alloc o2).heap[w.heap.size]? = some o0 ∧ (((w.alloc o0).alloc o1).alloc o2).heap[w.heap.size + 1]? = some o1 ∧ (((w.alloc o0).alloc o1).alloc o2).heap[w.heap.size + 1 + 1]? = some o2 :=
  ⟨new_keep _ _ (by simp; omega) (blocks2 w o0 o1).1, new_keep _ _ (by simp) (blocks2 w o0 o1).2, by have := new_at ((w.alloc o0).alloc o1) o2; simpa using this⟩
theorem bd64 {x : Int} (h : (Lit.int IntKind.i64 x).wf = true) : -9223372036854775808 ≤ x ∧ x ≤ 9223372036854775807 := by
  have hmin : IntKind.i64.min = -9223372036854775808 := rfl
  have hmax : IntKind.i64.max = 9223372036854775807 := rfl
  simp only [Lit.wf, Bool.and_eq_true, decide_eq_true_eq] at h
  omega
theorem own_lt {w : World} {B e size g n c m : Nat} {xs : List Value} (h : w.ownsRow B e size (.slice (some ⟨g, 0, none⟩) n c) m xs) : g < w.heap.size := by
  rcases h.2 with ⟨h, _⟩ | ⟨g', cap, cur, h1, _, h2, _⟩
  · cases h
  · injection h1 with h1
    injection h1 with h1
    injection h1 with h1
    subst h1
    exact (Array.getElem?_eq_some_iff.1 h2).1
theorem SL.at_new {g : Nat} {p : Addr} {v : Value} (h : SL w (some ⟨g, 0, none⟩) n f) (hne : p.block ≠ g) : SL (w.setCell p v) (some ⟨g, 0, none⟩) n f :=
  h.set fun b off e _ => by injection e with e; injection e with e; rw [← e]; exact hne
end

/-! ### a slice of floats among the arguments -/
section
open Go.ChangeShapes Go.WideShapes Go.Deep
variable {H : Type} {enc : TypeId × Value → H} {P : Program} {w : World}
/-- A SLICE OF ONE-CELL ELEMENTS, OPENED: it holds f; each element reads as its type. -/
theorem open_sl {t e : TypeId} {v : Value} {d : DataW H} {ps : List MemPlace} (ht : P.underlying t = some (.slice e)) (hc : P.cellsOf e = 1)
    (hd : DataW.Trod enc P w 0 (fun _ => true) true t v d ps) (hv : ∃ A n c, v = .slice A n c) :
    ∃ A n c f, v = .slice A n c ∧ n ≤ maxLen ∧ SL w A n f ∧ ∀ j, j < n → ∃ m y, DataW.trod enc P w 0 (fun _ => true) true m e [f j] = some y := by
  obtain ⟨A, n, c, rfl⟩ := hv
  obtain ⟨fuel, hf⟩ := hd
  rcases DataW.trod_slice ht hf with ⟨h0, _⟩ | ⟨a, len, cap, elems, rest, m, hm', h0, hx, hb, hl, hm, hlen, hel, hsp, hns⟩
  · have h0' : ([Value.slice A n c] : List Value) = [.slice none 0 0] := h0
    simp only [List.cons.injEq, Value.slice.injEq, and_true] at h0'
    obtain ⟨rfl, rfl, rfl⟩ := h0'
    exact ⟨_, _, _, fun _ => .bool false, rfl, Nat.zero_le _, .inl rfl, fun j hj => absurd hj (by omega)⟩
  · have h0' : ([Value.slice A n c] : List Value) = [.slice (some a) len cap] := h0
    simp only [List.cons.injEq, Value.slice.injEq, and_true] at h0'
    obtain ⟨rfl, rfl, rfl⟩ := h0'
    rw [hc] at hel
    have each : ∀ j, j < n → ∃ u y, w.cell? (a.add j) = some u ∧ DataW.trod enc P w 0 (fun _ => true) true m e [u] = some y := by
      intro j hj
      have h1 := hel j hj
      rw [Nat.mul_one, List.getElem?_eq_getElem (by omega), Option.bind_eq_some_iff] at h1
      obtain ⟨cs', hcs, hy⟩ := h1
      have h2 := World.cells?_some hcs
      have h3 : ∃ u, cs' = [u] := by
        have hl1 : cs'.length = 1 := h2.2.1
        match cs', hl1 with
        | [u], _ => exact ⟨u, rfl⟩
      obtain ⟨u, rfl⟩ := h3
      exact ⟨u, _, cell_of_cells?_one hcs, hy⟩
    by_cases hn : n = 0
    · exact ⟨_, _, _, fun _ => .bool false, rfl, Nat.le_trans hl hm, .inl hn, fun j hj => absurd hj (by omega)⟩
    · have h0c := each 0 (by omega)
      obtain ⟨u0, y0, hc0, _⟩ := h0c
      have hsp0 : a.spot = none := by
        have : (a.add 0) = a := by unfold Addr.add; rw [if_pos rfl]
        rw [this] at hc0
        unfold World.cell? at hc0
        split at hc0
        · split at hc0
          · cases hc0
          · rename_i hs; simpa using hs
        · cases hc0
      obtain ⟨b, off, sp⟩ := a
      simp only at hsp0
      subst hsp0
      have hadd : ∀ j, (Addr.mk b off none).add j = ⟨b, off + j, none⟩ := by
        intro j; unfold Addr.add
        split
        · rename_i h; subst h; rfl
        · rfl
      have hblk : b < w.heap.size := by
        rw [hadd] at hc0
        unfold World.cell? at hc0
        split at hc0
        · rename_i h; exact (Array.getElem?_eq_some_iff.1 h).1
        · cases hc0
      refine ⟨_, _, _, fun j => (w.cell? ⟨b, off + j, none⟩).getD (.bool false), rfl, Nat.le_trans hl hm, .inr ⟨b, off, rfl, hblk, fun j hj => ?_⟩, fun j hj => ?_⟩
      · obtain ⟨u, y, h1, _⟩ := each j hj
        rw [hadd] at h1
        show w.cell? ⟨b, off + j, none⟩ = some ((w.cell? ⟨b, off + j, none⟩).getD (.bool false))
        rw [h1]; rfl
      · obtain ⟨u, y, h1, h2⟩ := each j hj
        rw [hadd] at h1
        refine ⟨m, y, ?_⟩
        show DataW.trod enc P w 0 (fun _ => true) true m e [(w.cell? ⟨b, off + j, none⟩).getD (.bool false)] = some y
        rw [h1]; exact h2

/-- A SLICE OF int64, OPENED. -/
theorem open_is {t e : TypeId} {v : Value} {d : DataW H} {ps : List MemPlace} (ht : P.underlying t = some (.slice e)) (he : P.underlying e = some (.int .i64)) (hc : P.cellsOf e = 1)
    (hd : DataW.Trod enc P w 0 (fun _ => true) true t v d ps) (hv : ∃ A n c, v = .slice A n c) :
    ∃ A n c, ∃ x : Nat → Int, v = .slice A n c ∧ n ≤ maxLen ∧ SL w A n (fun j => .int .i64 (x j)) ∧ ∀ j, j < n → -9223372036854775808 ≤ x j ∧ x j ≤ 9223372036854775807 := by
  obtain ⟨A, n, c, f, rfl, hm, hs, hf⟩ := open_sl ht hc hd hv
  have each : ∀ j, j < n → ∃ b : Int, f j = .int .i64 b ∧ -9223372036854775808 ≤ b ∧ b ≤ 9223372036854775807 := by
    intro j hj
    obtain ⟨m, y, h⟩ := hf j hj
    obtain ⟨b, h1, _, h2⟩ := DataW.trod_int he h
    have hmin : IntKind.i64.min = -9223372036854775808 := rfl
    have hmax : IntKind.i64.max = 9223372036854775807 := rfl
    simp only [Lit.wf, Bool.and_eq_true, decide_eq_true_eq] at h2
    exact ⟨b, by injection h1, by omega, by omega⟩
  refine ⟨A, n, c, fun j => match f j with | .int _ b => b | _ => 0, rfl, hm, ?_, ?_⟩
  · rcases hs with h | ⟨b, off, h1, h2, h3⟩
    · exact .inl h
    · refine .inr ⟨b, off, h1, h2, fun j hj => ?_⟩
      obtain ⟨b', e1, _⟩ := each j hj
      rw [h3 j hj]
      simp only [e1]
  · intro j hj
    obtain ⟨b', e1, e2⟩ := each j hj
    simp only [e1]; exact e2

/-- A STRUCT OF TWO SLICES OF int64, BY VALUE, OPENED. -/
theorem open_two {r : Reach} {b0 : Nat} {t ts e : TypeId} {f0 f1 : Field} {v : Value} {d : DataW H} {p : List MemPlace} (hs : P.underlying t = some (.struct #[f0, f1])) (hone : oneCellFields P #[f0, f1] = true) (hC : P.cellsOf t = 2)
    (h0 : f0.type = ts) (h1 : f1.type = ts) (ht : P.underlying ts = some (.slice e)) (he : P.underlying e = some (.int .i64)) (hc : P.cellsOf e = 1)
    (hv : Value.okWide P w r b0 t v) (hd : DataW.Trod enc P w 0 (fun _ => true) true t v d p) :
    ∃ A n c A' n' c', ∃ x y : Nat → Int, v = .agg #[.slice A n c, .slice A' n' c'] ∧ n ≤ maxLen ∧ n' ≤ maxLen ∧ SL w A n (fun j => .int .i64 (x j)) ∧ SL w A' n' (fun j => .int .i64 (y j)) ∧
      (∀ j, j < n → -9223372036854775808 ≤ x j ∧ x j ≤ 9223372036854775807) ∧ (∀ j, j < n' → -9223372036854775808 ≤ y j ∧ y j ≤ 9223372036854775807) := by
  obtain ⟨v0, v1, y0, y1, m, rfl, _, _, hy0, hy1⟩ := Joins.open_agg2 hs hone hC hv hd
  rw [h0] at hy0
  rw [h1] at hy1
  have form : ∀ (u : Value) (z : DataW H × List MemPlace), DataW.trod enc P w 0 (fun _ => true) true m ts [u] = some z → (∃ A n c, u = .slice A n c) ∧ DataW.Trod enc P w 0 (fun _ => true) true ts u z.1 z.2 := by
    intro u z hz
    rcases DataW.trod_slice ht hz with ⟨hh, _⟩ | ⟨a, len, cap, _, _, _, _, hh, _⟩
    · simp only [List.cons.injEq, and_true] at hh
      subst hh
      exact ⟨⟨_, _, _, rfl⟩, m, hz⟩
    · simp only [List.cons.injEq, and_true] at hh
      subst hh
      exact ⟨⟨_, _, _, rfl⟩, m, hz⟩
  obtain ⟨hv0, t0⟩ := form v0 y0 hy0
  obtain ⟨hv1, t1⟩ := form v1 y1 hy1
  obtain ⟨A, n, c, x, rfl, a1, a2, a3⟩ := open_is ht he hc t0 hv0
  obtain ⟨A', n', c', y, rfl, b1, b2, b3⟩ := open_is ht he hc t1 hv1
  exact ⟨A, n, c, A', n', c', x, y, rfl, a1, b1, a2, b2, a3, b3⟩
end
end Go
