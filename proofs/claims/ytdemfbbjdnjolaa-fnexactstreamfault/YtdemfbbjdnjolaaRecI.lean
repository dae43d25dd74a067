/- The contracts of chapter 9's functions in the program, gathered. -/
import Derived.Test.YtdemfbbjdnjolaaRecF
