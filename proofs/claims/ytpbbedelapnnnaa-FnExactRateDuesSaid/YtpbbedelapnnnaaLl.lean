/- LineDues, by both. -/
import Derived.Test.YtpbbedelapnnnaaLq
import Derived.Deep.RegionHeldLaw
import Derived.Deep.AppendLies
namespace Go.Proofs.Ytpbbedelapnnnaa
open Go.RowKit Go.Dues
def ldZ (x kd rt : Nat → Int) (r : Int) (j : Nat) : Int := duV (x j) (rt (kd j).toNat) r
end Go.Proofs.Ytpbbedelapnnnaa
