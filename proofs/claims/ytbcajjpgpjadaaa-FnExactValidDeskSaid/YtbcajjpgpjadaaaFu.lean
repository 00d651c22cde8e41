/- FundRun, by both. -/
import Derived.Test.YtbcajjpgpjadaaaGp
import Derived.Test.YtbcajjpgpjadaaaLi
import Derived.Test.YtbcajjpgpjadaaaOx
import Derived.Test.YtbcajjpgpjadaaaP7
namespace Go.Proofs.Ytbcajjpgpjadaaa
open Go.RowKit Go.Dues
def fuP (s : Int) (x : Nat → Int) (n : Nat) (y : Nat → Int) (m : Nat) (f : Int) : Prop := (0 ≤ s ∧ s ≤ 1000000000000) ∧ allP x n 1 60 0 1000000000000 ∧ allP y m 1 60 (-9999) 10000 ∧ (n : Int) = m ∧ (0 ≤ f ∧ f ≤ 10000) ∧ frOk s x y f n
def fuV (s : Int) (x y : Nat → Int) (f : Int) (k : Nat) : Int := frV s x y f (k + 1)
end Go.Proofs.Ytbcajjpgpjadaaa
