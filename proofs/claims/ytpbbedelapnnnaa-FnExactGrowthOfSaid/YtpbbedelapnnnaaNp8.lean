/- The next year's people: what is told. -/
import Derived.Test.YtpbbedelapnnnaaMp8
import Derived.Test.YtpbbedelapnnnaaS7
import Derived.Test.YtpbbedelapnnnaaU7
import Derived.Test.YtpbbedelapnnnaaLa8
namespace Go.Proofs.Ytpbbedelapnnnaa
open Go.RowKit Go.Dues
/-- the counts of the next year -/
def nxV (x y z : Nat → Nat) (n j : Nat) : Nat :=
  if j = 0 then fdot x z n else if j + 1 = n then fop .add .f32 (fop .mul .f32 (x (j - 1)) (y (j - 1))) (fop .mul .f32 (x j) (y j)) else fop .mul .f32 (x (j - 1)) (y (j - 1))
theorem nx_0 (x y z : Nat → Nat) (n : Nat) : nxV x y z n 0 = fdot x z n := if_pos rfl
theorem nx_last (x y z : Nat → Nat) {n m : Nat} (h : m + 2 = n) : nxV x y z n (m + 1) = fop .add .f32 (fop .mul .f32 (x m) (y m)) (fop .mul .f32 (x (m + 1)) (y (m + 1))) := by
  unfold nxV
  rw [if_neg (by omega), if_pos (by omega), Nat.add_sub_cancel]
theorem nx_mid (x y z : Nat → Nat) {n m : Nat} (h : ¬ m + 2 = n) : nxV x y z n (m + 1) = fop .mul .f32 (x m) (y m) := by
  unfold nxV
  rw [if_neg (by omega), if_neg (by omega), Nat.add_sub_cancel]
theorem dot_step {x y : Nat → Nat} {k r m r' : Nat} (h : FS .f32 r (fdot x y k)) (hm : FR .f32 m (fop .mul .f32 (x k) (y k))) (h' : FR .f32 r' (fop .add .f32 r m)) : FS .f32 r' (fdot x y (k + 1)) := fdot_step h hm h'
/-- what is told of the next year -/
def npP (x : Nat → Nat) (n : Nat) (y : Nat → Nat) (m : Nat) (z : Nat → Nat) (l : Nat) : Prop := ppP x n y m z l ∧ ∀ j, j < n → hdB (nxV x y z n j) = true
theorem np_pp {x y z u : Nat → Nat} {n m l : Nat} (h : ppP x n y m z l) (hu : ∀ j, j < n → FS .f32 (u j) (nxV x y z n j)) : ppP u n y m z l ↔ npP x n y m z l := by
  obtain ⟨h1, h2, h3, h4, h5, h6⟩ := h
  constructor
  · intro g
    exact ⟨⟨h1, h2, h3, h4, h5, h6⟩, fun j hj => by rw [← hdB_same (hu j hj)]; exact g.2.2.2.1 j hj⟩
  · intro g
    exact ⟨h1, h2, h3, fun j hj => by rw [hdB_same (hu j hj)]; exact g.2 j hj, h5, h6⟩
theorem hd_fin {x : Nat} (h : hdB x = true) : ffin .f32 x = true := by unfold hdB at h; simp at h; exact h.1
/-- people that are handed back -/
def GaveP (w w' : World) (e : Ending) (p : Prop) (n m l : Nat) (X Y Z : Nat → Nat) : Prop :=
  ∃ G1 d1, ∃ z1 : Nat → Nat, ∃ G2 d2, ∃ z2 : Nat → Nat, ∃ G3 d3, ∃ z3 : Nat → Nat, ∃ l1 u1 l2 u2 l3 u3, e = .returned (.tuple #[.agg #[.slice G1 (lenV p n) d1, .slice G2 (lenV p m) d2, .slice G3 (lenV p l) d3], .bool (tru p)]) ∧
    OW w' l1 u1 G1 (lenV p n) (fun j => .float .f32 (z1 j)) ∧ OW w' l2 u2 G2 (lenV p m) (fun j => .float .f32 (z2 j)) ∧ OW w' l3 u3 G3 (lenV p l) (fun j => .float .f32 (z3 j)) ∧
    (∀ j, j < lenV p n → FS .f32 (z1 j) (X j)) ∧ (∀ j, j < lenV p m → FS .f32 (z2 j) (Y j)) ∧ (∀ j, j < lenV p l → FS .f32 (z3 j) (Z j)) ∧
    (w.heap.size ≤ l1 ∧ l1 ≤ u1 ∧ u1 ≤ w'.heap.size) ∧ (w.heap.size ≤ l2 ∧ l2 ≤ u2 ∧ u2 ≤ w'.heap.size) ∧ (w.heap.size ≤ l3 ∧ l3 ≤ u3 ∧ u3 ≤ w'.heap.size) ∧ (u1 ≤ l2 ∨ u2 ≤ l1) ∧ (u1 ≤ l3 ∨ u3 ≤ l1) ∧ (u2 ≤ l3 ∨ u3 ≤ l2) ∧ True ∧ Below w.heap.size w w'
theorem gavep_no {w w' : World} {p : Prop} {n m l : Nat} {X Y Z : Nat → Nat} (h : ¬ p) (hb : Below w.heap.size w w') : GaveP w w' (.returned (.tuple #[.agg #[.slice none 0 0, .slice none 0 0, .slice none 0 0], .bool false])) p n m l X Y Z :=
  ⟨none, 0, fun _ => 0, none, 0, fun _ => 0, none, 0, fun _ => 0, w.heap.size, w.heap.size, w.heap.size, w.heap.size, w.heap.size, w.heap.size, by rw [lenV_no h, lenV_no h, lenV_no h, tru_no h], .inl (lenV_no h), .inl (lenV_no h), .inl (lenV_no h), fun j hj => absurd hj (by rw [lenV_no h]; omega), fun j hj => absurd hj (by rw [lenV_no h]; omega), fun j hj => absurd hj (by rw [lenV_no h]; omega), ⟨Nat.le_refl _, Nat.le_refl _, hb.size⟩, ⟨Nat.le_refl _, Nat.le_refl _, hb.size⟩, ⟨Nat.le_refl _, Nat.le_refl _, hb.size⟩, .inl (Nat.le_refl _), .inl (Nat.le_refl _), .inl (Nat.le_refl _), trivial, hb⟩
end Go.Proofs.Ytpbbedelapnnnaa
