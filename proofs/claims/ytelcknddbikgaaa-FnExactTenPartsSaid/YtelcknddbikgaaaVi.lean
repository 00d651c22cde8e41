/- What a valid scale is, by the program. -/
import Derived.Test.YtelcknddbikgaaaVs
namespace Go.Proofs.Ytelcknddbikgaaa
open Go.RowKit Go.Dues

end Go.Proofs.Ytelcknddbikgaaa
