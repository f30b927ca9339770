/- The tables of the rounds' words and of sizes, as the rows list them. -/
import Derived.Test.YtficmbaffkkfhaaDoorOr
import Derived.Test.YtficmbaffkkfhaaDoorWo
import Derived.Stop.LaidErr
