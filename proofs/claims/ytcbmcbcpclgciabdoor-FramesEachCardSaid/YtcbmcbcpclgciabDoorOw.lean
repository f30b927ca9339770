/- Both tables, of sizes and of sixteen, as the rows list them. -/
import Derived.Test.YtcbmcbcpclgciabDoorOq
import Derived.Test.YtcbmcbcpclgciabDoorOc
import Derived.Stop.LaidErr
