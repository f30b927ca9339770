/- Both tables, of sizes and of sixteen, as the rows list them. -/
import Derived.Test.YtcbmcbcpclgciaaDoorOq
import Derived.Test.YtcbmcbcpclgciaaDoorOc
import Derived.Stop.LaidErr
