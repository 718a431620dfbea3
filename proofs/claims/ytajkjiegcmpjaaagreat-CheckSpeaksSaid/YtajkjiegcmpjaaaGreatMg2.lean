/- Right of package msg. -/
import Derived.Test.YtajkjiegcmpjaaaGreatPk13
import Derived.Test.YtajkjiegcmpjaaaGreatPk08
namespace Go.Proofs.YtajkjiegcmpjaaaGreat
set_option maxRecDepth 100000
open Go.RowKit
end Go.Proofs.YtajkjiegcmpjaaaGreat
