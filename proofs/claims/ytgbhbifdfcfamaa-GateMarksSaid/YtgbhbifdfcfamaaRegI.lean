/- A list of numbers written out in a region that draws its order: op_build (RegO). -/
import Derived.Test.YtgbhbifdfcfamaaFD
import Derived.Test.YtgbhbifdfcfamaaRegT
import Derived.Test.YtgbhbifdfcfamaaFC
