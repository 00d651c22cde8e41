/- Slices that the call itself made: whose block is known, and that may be written. -/
import Derived.Test.YtjndhcdanpnniaaSlb
namespace Go
open Go.RowKit

/-- the slice A of n elements has its cells at the head of a block from lo on, before hi, not frozen -/
def OW (w : World) (lo hi : Nat) (A : Option Addr) (n : Nat) (f : Nat → Value) : Prop :=
  n = 0 ∨ ∃ g cs t, A = some ⟨g, 0, none⟩ ∧ lo ≤ g ∧ g < hi ∧ w.heap[g]? = some (.cells cs t (0, 0)) ∧ ∀ j, j < n → cs[j]? = some (f j)
/-- only blocks from lo on, before hi, have turned -/
structure Within (lo hi : Nat) (w w' : World) : Prop where
  os : w'.os = w.os
  tape : w'.tape = w.tape
  output : w'.output = w.output
  size : w'.heap.size = w.heap.size
  block : ∀ b, b < lo ∨ hi ≤ b → w'.heap[b]? = w.heap[b]?

section
variable {w w' w'' : World} {lo hi lo' hi' : Nat} {A : Option Addr} {n : Nat} {f : Nat → Value}
theorem OW.sl (h : OW w lo hi A n f) : SL w A n f := by
  rcases h with h | ⟨g, cs, t, h1, _, _, h2, h3⟩
  · exact .inl h
  · refine .inr ⟨g, 0, h1, (Array.getElem?_eq_some_iff.1 h2).1, fun j hj => ?_⟩
    rw [Nat.zero_add, Joins.cell_of_block h2 j]
    exact h3 j hj
theorem OW.below (h : OW w lo hi A n f) (hb : Below w.heap.size w w') : OW w' lo hi A n f := by
  rcases h with h | ⟨g, cs, t, h1, h2, h3, h4, h5⟩
  · exact .inl h
  · exact .inr ⟨g, cs, t, h1, h2, h3, blk_below hb (Array.getElem?_eq_some_iff.1 h4).1 h4, h5⟩
theorem OW.within (h : OW w lo hi A n f) (hb : Within lo' hi' w w') (hd : hi ≤ lo' ∨ hi' ≤ lo) : OW w' lo hi A n f := by
  rcases h with h | ⟨g, cs, t, h1, h2, h3, h4, h5⟩
  · exact .inl h
  · exact .inr ⟨g, cs, t, h1, h2, h3, (hb.block g (by omega)).trans h4, h5⟩
theorem OW.wide (h : OW w lo hi A n f) (h1 : lo' ≤ lo) (h2 : hi ≤ hi') : OW w lo' hi' A n f := by
  rcases h with h | ⟨g, cs, t, h3, h4, h5, h6, h7⟩
  · exact .inl h
  · exact .inr ⟨g, cs, t, h3, by omega, by omega, h6, h7⟩
theorem OW.congr {f' : Nat → Value} (h : OW w lo hi A n f) (hf : ∀ j, j < n → f j = f' j) : OW w lo hi A n f' := by
  rcases h with h | ⟨g, cs, t, h3, h4, h5, h6, h7⟩
  · exact .inl h
  · exact .inr ⟨g, cs, t, h3, h4, h5, h6, fun j hj => by rw [h7 j hj, hf j hj]⟩
theorem OW.drewN (h : OW w lo hi A n f) (k : Nat) : OW (w.drewN k) lo hi A n f := h
theorem OW.setCell {p : Addr} {v : Value} (h : OW w lo hi A n f) (hp : p.block < lo ∨ hi ≤ p.block) : OW (w.setCell p v) lo hi A n f := by
  rcases h with h | ⟨g, cs, t, h1, h2, h3, h4, h5⟩
  · exact .inl h
  · exact .inr ⟨g, cs, t, h1, h2, h3, blk_set (by omega) h4, h5⟩
theorem own_shape {B e size n : Nat} {v : Value} {xs : List Value} (h : w.ownsRow B e size v n xs) : ∃ G d, v = .slice G n d := by
  rcases h.2 with ⟨h1, h2⟩ | ⟨g, cap, cur, h1, _⟩
  · exact ⟨_, _, by rw [h1, h2]⟩
  · exact ⟨_, _, h1⟩
theorem OW.of_owns {B e c : Nat} {xs : List Value} (h : w.ownsRow B e 1 (.slice A n c) n xs) (hx : ∀ j, j < n → xs[j]? = some (f j)) : OW w B w.heap.size A n f := by
  rcases h.2 with ⟨_, h⟩ | ⟨g, cap, cur, h1, h2, h3, h4, _, h5, h6⟩
  · exact .inl h
  · injection h1 with h1
    refine .inr ⟨g, cur, e, h1, h2, (Array.getElem?_eq_some_iff.1 h3).1, h3, fun j hj => ?_⟩
    have h7 := hx j hj
    rw [← h6, Nat.mul_one, List.getElem?_take, if_pos hj, Array.getElem?_toList] at h7
    exact h7
theorem Within.refl (lo hi : Nat) (w : World) : Within lo hi w w := ⟨rfl, rfl, rfl, rfl, fun _ _ => rfl⟩
theorem Within.trans (h : Within lo hi w w') (h' : Within lo hi w' w'') : Within lo hi w w'' := ⟨h'.os.trans h.os, h'.tape.trans h.tape, h'.output.trans h.output, h'.size.trans h.size, fun b hb => (h'.block b hb).trans (h.block b hb)⟩
theorem Within.wide (h : Within lo hi w w') (h1 : lo' ≤ lo) (h2 : hi ≤ hi') : Within lo' hi' w w' := ⟨h.os, h.tape, h.output, h.size, fun b hb => h.block b (by omega)⟩
theorem Within.bel (h : Within lo hi w w') {B : Nat} (hB : B ≤ lo) : Below B w w' := ⟨h.os, h.tape, h.output, by rw [h.size]; exact Nat.le_refl _, fun b hb => h.block b (.inl (by omega))⟩
theorem Within.set {p : Addr} {v : Value} (h : Within lo hi w w') (h1 : lo ≤ p.block) (h2 : p.block < hi) : Within lo hi w (w'.setCell p v) :=
  ⟨h.os, h.tape, h.output, by rw [← h.size]; simp [World.setCell], fun b hb => (Below.heap_setCell w' p v b (by omega)).trans (h.block b hb)⟩
theorem Within.drewN (h : Within lo hi w w') (k : Nat) : Within lo hi w (w'.drewN k) := ⟨h.os, h.tape, h.output, h.size, h.block⟩
theorem SL.within (h : SL w A n f) (hb : Within lo hi w w') (hd : ∀ b off, A = some ⟨b, off, none⟩ → n ≠ 0 → b < lo ∨ hi ≤ b) : SL w' A n f := by
  rcases h with h | ⟨b, off, h1, h2, h3⟩
  · exact .inl h
  · by_cases hn : n = 0
    · exact .inl hn
    · exact .inr ⟨b, off, h1, by rw [hb.size]; exact h2, fun j hj => (World.cell?_of_block (hb.block b (hd b off h1 hn))).trans (h3 j hj)⟩
end
/-- memory has grown, and of what was there only blocks from lo on, before hi, have turned -/
structure Marked (lo hi : Nat) (w w' : World) : Prop where
  os : w'.os = w.os
  tape : w'.tape = w.tape
  output : w'.output = w.output
  size : w.heap.size ≤ w'.heap.size
  block : ∀ b, b < w.heap.size → b < lo ∨ hi ≤ b → w'.heap[b]? = w.heap[b]?
section
variable {w w' : World} {lo hi lo' hi' : Nat} {A : Option Addr} {n : Nat} {f : Nat → Value}
theorem marked_of (h : Within lo hi w w') : Marked lo hi w w' := ⟨h.os, h.tape, h.output, by rw [h.size]; exact Nat.le_refl _, fun b _ hb => h.block b hb⟩
theorem marked_alloc {o : Obj} (h : Within lo hi (w.alloc o) w') : Marked lo hi w w' :=
  ⟨h.os, h.tape, h.output, by rw [h.size]; simp, fun b hb hd => (h.block b hd).trans (Below.heap_alloc w o b hb)⟩
theorem Marked.bel (h : Marked lo hi w w') {B : Nat} (h1 : B ≤ lo) (h2 : B ≤ w.heap.size) : Below B w w' := ⟨h.os, h.tape, h.output, h.size, fun b hb => h.block b (by omega) (.inl (by omega))⟩
theorem blk_marked (h : Marked lo hi w w') {i : Nat} {u : Option Obj} (hi' : i < w.heap.size) (hd : i < lo ∨ hi ≤ i) (hu : w.heap[i]? = u) : w'.heap[i]? = u := (h.block i hi' hd).trans hu
theorem OW.marked (h : OW w lo hi A n f) (hb : Marked lo' hi' w w') (hd : hi ≤ lo' ∨ hi' ≤ lo) : OW w' lo hi A n f := by
  rcases h with h | ⟨g, cs, t, h1, h2, h3, h4, h5⟩
  · exact .inl h
  · exact .inr ⟨g, cs, t, h1, h2, h3, (hb.block g (Array.getElem?_eq_some_iff.1 h4).1 (by omega)).trans h4, h5⟩
end
end Go
