/- Dues and nets, by the reference. -/
import Derived.Test.YtpbbedelapnnnaaDu
import Derived.Test.YtpbbedelapnnnaaRd
namespace Go.Proofs.Ytpbbedelapnnnaa
open Go.RowKit Go.Dues
/-- what a scale by a pointer is: its cells and lists -/
def canP (x y : Nat → Int) (n m : Nat) (v r : Int) : Prop := Val x y n m ∧ (0 ≤ v ∧ v ≤ 1000000000000) ∧ (0 ≤ r ∧ r ≤ 3)



end Go.Proofs.Ytpbbedelapnnnaa
