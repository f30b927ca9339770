/- The tables of the rounds' words and of sizes, as the rows list them. -/
import Derived.Test.YtnigcngaegafoaaDoorOk
import Derived.Test.YtnigcngaegafoaaDoorOp
import Derived.Stop.LaidErr
