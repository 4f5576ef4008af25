/- Package era: Near, Split, Join; Fold and Unfold of words of each size. -/
import Derived.Test.YtjbbnlcghnjlfaaEraA
import Derived.Test.YtjbbnlcghnjlfaaOctA
namespace Go.Proofs.Ytjbbnlcghnjlfaa
open Go.RowKit
set_option linter.unusedVariables false
set_option linter.unusedSimpArgs false

end Go.Proofs.Ytjbbnlcghnjlfaa
