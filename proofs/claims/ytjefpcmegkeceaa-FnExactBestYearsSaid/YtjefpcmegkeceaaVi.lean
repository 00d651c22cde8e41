/- What a valid scale is, by the program. -/
import Derived.Test.YtjefpcmegkeceaaVs
namespace Go.Proofs.Ytjefpcmegkeceaa
open Go.RowKit Go.Dues

end Go.Proofs.Ytjefpcmegkeceaa
