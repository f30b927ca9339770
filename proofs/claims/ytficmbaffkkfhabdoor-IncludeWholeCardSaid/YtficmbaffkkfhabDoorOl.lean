/- The tables of the rounds' words and of sizes, as the rows list them. -/
import Derived.Test.YtficmbaffkkfhabDoorOk
import Derived.Test.YtficmbaffkkfhabDoorOp
import Derived.Stop.LaidErr
