/- Sessions: Use, Renew, Great, Many of the reference. Bounds: as holders; at most 900000 shares. -/
import Derived.Test.YtbkchcpfnoclhaaGreatV13
namespace Go.Proofs.YtbkchcpfnoclhaaGreat
set_option maxRecDepth 100000
open Go Go.RowKit
set_option linter.unusedVariables false
set_option linter.unusedSimpArgs false
end Go.Proofs.YtbkchcpfnoclhaaGreat
