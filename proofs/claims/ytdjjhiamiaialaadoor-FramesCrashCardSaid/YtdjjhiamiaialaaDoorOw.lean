/- Both tables, of sizes and of sixteen, as the rows list them. -/
import Derived.Test.YtdjjhiamiaialaaDoorOq
import Derived.Test.YtdjjhiamiaialaaDoorOc
import Derived.Stop.LaidErr
