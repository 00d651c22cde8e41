/- Scales that a call gave. -/
import Derived.Test.YtpbbedelapnnnaaMs
import Derived.Test.YtpbbedelapnnnaaG1
namespace Go.Proofs.Ytpbbedelapnnnaa
open Go.RowKit Go.Dues
def GaveT (w w' : World) (e : Ending) (p : Prop) (n n' : Nat) (x y : Nat → Int) : Prop :=
  ∃ G d G' d', e = .returned (.tuple #[.agg #[.slice G (lenV p n) d, .slice G' (lenV p n') d'], .bool (tru p)]) ∧ OW2 w' w.heap.size w'.heap.size G (lenV p n) x G' (lenV p n') y ∧ Below w.heap.size w w'
theorem gavet_no {w w' : World} {p : Prop} {n n' : Nat} {x y : Nat → Int} (h : ¬ p) (hb : Below w.heap.size w w') : GaveT w w' (.returned (.tuple #[.agg #[.slice none 0 0, .slice none 0 0], .bool false])) p n n' x y := by
  refine ⟨none, 0, none, 0, ?_, ?_, hb⟩
  · rw [lenV_no h, lenV_no h, tru_no h]
  · rw [lenV_no h, lenV_no h]; exact OW2.none_ _ _ _ _ _
theorem gavet_yes {w w' : World} {p : Prop} {n n' d d' : Nat} {x y : Nat → Int} {G G' : Option Addr} (h : p) (ho : OW2 w' w.heap.size w'.heap.size G n x G' n' y) (hb : Below w.heap.size w w') : GaveT w w' (.returned (.tuple #[.agg #[.slice G n d, .slice G' n' d'], .bool true])) p n n' x y := by
  refine ⟨G, d, G', d', ?_, ?_, hb⟩
  · rw [lenV_yes h, lenV_yes h, tru_yes h]
  · rw [lenV_yes h, lenV_yes h]; exact ho
end Go.Proofs.Ytpbbedelapnnnaa
