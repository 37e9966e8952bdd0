/- package vec's contracts, together (but for Sorted) -/
import Derived.Test.YtfhehnciieeddadVW1
import Derived.Test.YtfhehnciieeddadVW2
import Derived.Test.YtfhehnciieeddadVW5
import Derived.Test.YtfhehnciieeddadVW6
