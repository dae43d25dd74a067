/- The contracts of chapter 9's functions in the program, gathered. -/
import Derived.Test.YtdbpnibcblelbaaGreatDoorJoint28
import Derived.Test.YtdbpnibcblelbaaGreatDoorJoint34
import Derived.Test.YtdbpnibcblelbaaGreatDoorJoint31
import Derived.Test.YtdbpnibcblelbaaGreatDoorJoint35
import Derived.Test.YtdbpnibcblelbaaGreatDoorJoint36


