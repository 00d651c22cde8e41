/- RunFund, by both. -/
import Derived.Test.YtpbbedelapnnnaaU7
namespace Go.Proofs.Ytpbbedelapnnnaa
open Go.RowKit Go.Dues
end Go.Proofs.Ytpbbedelapnnnaa
