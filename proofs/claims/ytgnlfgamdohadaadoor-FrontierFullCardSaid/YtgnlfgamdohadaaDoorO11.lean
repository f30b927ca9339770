/- The tables of the rounds' words, of sizes and of TrailingZeros, as the rows list them. -/
import Derived.Test.YtgnlfgamdohadaaDoorOl
import Derived.Test.YtgnlfgamdohadaaDoorOn
