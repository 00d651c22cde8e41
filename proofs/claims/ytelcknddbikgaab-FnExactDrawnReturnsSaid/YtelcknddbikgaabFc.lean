/- Life tables, by both: the whole. -/
import Derived.Test.YtelcknddbikgaabFb
namespace Go.Proofs.Ytelcknddbikgaab
open Go.RowKit Go.Dues
end Go.Proofs.Ytelcknddbikgaab
