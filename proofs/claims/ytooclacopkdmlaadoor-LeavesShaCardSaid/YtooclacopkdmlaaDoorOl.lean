/- The tables of the rounds' words and of sizes, as the rows list them. -/
import Derived.Test.YtooclacopkdmlaaDoorOk
import Derived.Test.YtooclacopkdmlaaDoorOp
import Derived.Stop.LaidErr
