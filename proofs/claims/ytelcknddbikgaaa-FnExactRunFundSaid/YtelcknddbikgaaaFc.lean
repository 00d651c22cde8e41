/- Life tables, by both: the whole. -/
import Derived.Test.YtelcknddbikgaaaFb
namespace Go.Proofs.Ytelcknddbikgaaa
open Go.RowKit Go.Dues
end Go.Proofs.Ytelcknddbikgaaa
