import Derived.Test.YtgbejhdmjfebjaaGreatRa
namespace Go.Proofs.YtgbejhdmjfebjaaGreat
open Go Go.RowKit
set_option linter.unusedSimpArgs false
set_option linter.unusedVariables false


end Go.Proofs.YtgbejhdmjfebjaaGreat
