import Derived.Test.YtenaliaefbkbcaaGreatRa
namespace Go.Proofs.YtenaliaefbkbcaaGreat
open Go Go.RowKit
set_option linter.unusedSimpArgs false
set_option linter.unusedVariables false


end Go.Proofs.YtenaliaefbkbcaaGreat
