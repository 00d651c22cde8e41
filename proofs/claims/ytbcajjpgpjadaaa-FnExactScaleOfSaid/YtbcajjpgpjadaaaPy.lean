/- Pays, by both. -/
import Derived.Test.YtbcajjpgpjadaaaDi
import Derived.Test.YtbcajjpgpjadaaaAm
import Derived.Test.YtbcajjpgpjadaaaOw
namespace Go.Proofs.Ytbcajjpgpjadaaa
open Go.RowKit Go.Dues
def payN (n : Nat) : Prop := 1 ≤ n ∧ n ≤ 60
def listP (x : Nat → Int) (n : Nat) : Prop := payN n ∧ ∀ j, j < n → 0 ≤ x j ∧ x j ≤ 1000000000000
end Go.Proofs.Ytbcajjpgpjadaaa
