/- package vec's contracts, together (but for Sorted) -/
import Derived.Test.YtfhehnciieeddacVW1
import Derived.Test.YtfhehnciieeddacVW2
import Derived.Test.YtfhehnciieeddacVW5
import Derived.Test.YtfhehnciieeddacVW6
