/- The tables of the rounds' words and of sizes, as the rows list them. -/
import Derived.Test.YtgnlfgamdohadaaDoorOk
import Derived.Test.YtgnlfgamdohadaaDoorOp
import Derived.Stop.LaidErr
