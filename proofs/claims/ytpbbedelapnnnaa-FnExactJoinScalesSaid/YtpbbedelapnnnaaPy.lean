/- Pays, by both. -/
import Derived.Test.YtpbbedelapnnnaaDi
import Derived.Test.YtpbbedelapnnnaaAm
import Derived.Test.YtpbbedelapnnnaaOw
namespace Go.Proofs.Ytpbbedelapnnnaa
open Go.RowKit Go.Dues
def payN (n : Nat) : Prop := 1 ≤ n ∧ n ≤ 60
def listP (x : Nat → Int) (n : Nat) : Prop := payN n ∧ ∀ j, j < n → 0 ≤ x j ∧ x j ≤ 1000000000000
end Go.Proofs.Ytpbbedelapnnnaa
