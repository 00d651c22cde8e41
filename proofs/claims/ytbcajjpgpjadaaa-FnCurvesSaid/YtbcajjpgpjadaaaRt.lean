/- Rates at amounts, and mean rates, by both. -/
import Derived.Test.YtbcajjpgpjadaaaDi
namespace Go.Proofs.Ytbcajjpgpjadaaa
open Go.RowKit Go.Dues
def rateP (x y : Nat → Int) (n m : Nat) (v : Int) : Prop := Val x y n m ∧ (0 ≤ v ∧ v ≤ 1000000000000)

end Go.Proofs.Ytbcajjpgpjadaaa
