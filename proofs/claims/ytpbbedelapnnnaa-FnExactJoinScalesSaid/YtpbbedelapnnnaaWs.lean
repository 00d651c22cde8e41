/- WithholdSums, by both. -/
import Derived.Test.YtpbbedelapnnnaaPy
namespace Go.Proofs.Ytpbbedelapnnnaa
open Go.RowKit Go.Dues
def wsP (sx sy : Nat → Int) (n m : Nat) (px : Nat → Int) (pn : Nat) (r : Int) : Prop := Val sx sy n m ∧ (0 ≤ r ∧ r ≤ 3) ∧ paysP px pn
/-- what is withheld of pay j -/
def wsV (sx sy : Nat → Int) (n : Nat) (px : Nat → Int) (r : Int) (j : Nat) : Int := dueV sx sy n (psum px (j + 1)) r - dueV sx sy n (psum px j) r
theorem owns_below {w w' : World} {B e size n : Nat} {v : Value} {xs : List Value} (h : w.ownsRow B e size v n xs) (hb : Below w.heap.size w w') : w'.ownsRow B e size v n xs := by
  refine ⟨h.1, ?_⟩
  rcases h.2 with h1 | ⟨g, cap, cur, h1, h2, h3, h4⟩
  · exact .inl h1
  · exact .inr ⟨g, cap, cur, h1, h2, blk_below hb (Array.getElem?_eq_some_iff.1 h3).1 h3, h4⟩
theorem ws_step {P : Nat → Value} {xs : List Value} {k : Nat} {u : Value} (hl : xs.length = k) (h : ∀ j, j < k → xs[j]? = some (P j)) (hu : u = P k) : ∀ j, j < k + 1 → (xs ++ [u])[j]? = some (P j) := by
  intro j hj
  by_cases hjk : j = k
  · subst hjk
    rw [List.getElem?_append_right (by omega), hl, Nat.sub_self, hu]
    rfl
  · rw [List.getElem?_append_left (by omega)]
    exact h j (by omega)
theorem ret_nil {v : Value} {b b' : Bool} (h : b = b') : Ending.returned (.tuple #[v, .bool b]) = .returned (.tuple #[v, .bool b']) := by rw [h]

end Go.Proofs.Ytpbbedelapnnnaa
