/- Amounts of a list, by the program. -/
import Derived.Test.YtpbbedelapnnnaaVi
import Derived.Test.YtpbbedelapnnnaaRd
namespace Go.Proofs.Ytpbbedelapnnnaa
open Go.RowKit Go.Dues
end Go.Proofs.Ytpbbedelapnnnaa
