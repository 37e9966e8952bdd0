/- package vec's contracts, together (but for Sorted) -/
import Derived.Test.YthnklbcaodhbfaaVW1
import Derived.Test.YthnklbcaodhbfaaVW2
import Derived.Test.YthnklbcaodhbfaaVW5
import Derived.Test.YthnklbcaodhbfaaVW6
