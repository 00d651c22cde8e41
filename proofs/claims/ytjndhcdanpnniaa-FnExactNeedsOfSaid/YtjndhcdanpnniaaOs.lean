/- A row of the call's own stays where a callee only makes memory behind it. -/
import Derived.Test.YtjndhcdanpnniaaSlb
import Derived.Laws.AppendOwn
namespace Go
open Go.RowKit
theorem own_stays {w w' : World} {B size n : Nat} {e : TypeId} {v : Value} {xs : List Value} (h : w.ownsRow B e size v n xs) (hb : Below w.heap.size w w') : w'.ownsRow B e size v n xs := by
  refine ⟨h.1, ?_⟩
  rcases h.2 with h0 | ⟨g, cap, cur, h1, h2, h3, h4⟩
  · exact .inl h0
  · exact .inr ⟨g, cap, cur, h1, h2, blk_below hb (Array.getElem?_eq_some_iff.1 h3).1 h3, h4⟩
end Go
