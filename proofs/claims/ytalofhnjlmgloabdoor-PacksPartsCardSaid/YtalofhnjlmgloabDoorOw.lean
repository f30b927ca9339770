/- Both tables, of sizes and of sixteen, as the rows list them. -/
import Derived.Test.YtalofhnjlmgloabDoorOq
import Derived.Test.YtalofhnjlmgloabDoorOc
import Derived.Stop.LaidErr
