/- Dues and nets, by the program: closures that tell an amount or an error. -/
import Derived.Test.YtpbbedelapnnnaaDs
import Derived.Test.YtpbbedelapnnnaaSc
import Derived.Deep.RegionHeld3
namespace Go.Proofs.Ytpbbedelapnnnaa
open Go.RowKit Go.Dues
theorem ret_vb {v : Value} {b b' : Bool} (h : b = b') : Ending.returned (.tuple #[v, .bool b]) = .returned (.tuple #[v, .bool b']) := by rw [h]
theorem below_left {a b c : World} {B : Nat} (h1 : Below B a b) (h2 : Below b.heap.size b c) (hs : B ≤ b.heap.size) : Below B a c := h1.trans (h2.mono hs)

/-- a scale and a way of rounding are valid -/
def wayP (x y : Nat → Int) (n m : Nat) (r : Int) : Prop := Val x y n m ∧ (0 ≤ r ∧ r ≤ 3)
/-- what the closure of dues captures -/
def DueAt (w : World) (S R : Nat) (A : Option Addr) (n c : Nat) (A' : Option Addr) (n' c' : Nat) (r : Int) : Prop := w.heap[S]? = some (.cells #[.slice A n c, .slice A' n' c'] 46) ∧ w.heap[R]? = some (.cells #[.int .i64 r] 2)
theorem DueAt.below {w w' : World} {S R : Nat} {A : Option Addr} {n c : Nat} {A' : Option Addr} {n' c' : Nat} {r : Int} (h : DueAt w S R A n c A' n' c' r) (hb : Below w.heap.size w w') : DueAt w' S R A n c A' n' c' r :=
  ⟨blk_below hb (Array.getElem?_eq_some_iff.1 h.1).1 h.1, blk_below hb (Array.getElem?_eq_some_iff.1 h.2).1 h.2⟩

end Go.Proofs.Ytpbbedelapnnnaa
