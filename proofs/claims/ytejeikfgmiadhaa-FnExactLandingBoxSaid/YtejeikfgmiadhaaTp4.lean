/- Turned places. -/
import Derived.Test.YtejeikfgmiadhaaTp
import Derived.Test.YtejeikfgmiadhaaPb
