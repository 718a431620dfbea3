/- Right of package msg. -/
import Derived.Test.YtajkjiegcmpjaaaPk11
import Derived.Test.YtajkjiegcmpjaaaPk07
namespace Go.Proofs.Ytajkjiegcmpjaaa
set_option maxRecDepth 100000
open Go.RowKit
end Go.Proofs.Ytajkjiegcmpjaaa
