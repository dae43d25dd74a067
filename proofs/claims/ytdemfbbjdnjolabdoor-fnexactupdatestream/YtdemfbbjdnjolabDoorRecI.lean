/- The contracts of chapter 9's functions in the program, gathered. -/
import Derived.Test.YtdemfbbjdnjolabDoorJoint7
import Derived.Test.YtdemfbbjdnjolabDoorRecUp
import Derived.Test.YtdemfbbjdnjolabDoorLaid


