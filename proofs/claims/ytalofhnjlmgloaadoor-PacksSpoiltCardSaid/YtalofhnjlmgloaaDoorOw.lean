/- Both tables, of sizes and of sixteen, as the rows list them. -/
import Derived.Test.YtalofhnjlmgloaaDoorOq
import Derived.Test.YtalofhnjlmgloaaDoorOc
import Derived.Stop.LaidErr
