/- Right of package msg. -/
import Derived.Test.YtdoeoncmhaihbaaGreatPk12
import Derived.Test.YtdoeoncmhaihbaaGreatPk08
namespace Go.Proofs.YtdoeoncmhaihbaaGreat
set_option maxRecDepth 100000
open Go.RowKit
end Go.Proofs.YtdoeoncmhaihbaaGreat
