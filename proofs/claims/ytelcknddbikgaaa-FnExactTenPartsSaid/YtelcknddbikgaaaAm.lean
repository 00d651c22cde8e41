/- Amounts of a list, by the program. -/
import Derived.Test.YtelcknddbikgaaaVi
import Derived.Test.YtelcknddbikgaaaRd
namespace Go.Proofs.Ytelcknddbikgaaa
open Go.RowKit Go.Dues
end Go.Proofs.Ytelcknddbikgaaa
