/- The contracts of chapter 11, of the specification and of the program, gathered. -/
import Derived.Test.YtiabacnmmojfjaaGreatDoorJoint25
import Derived.Test.YtiabacnmmojfjaaGreatDoorShkU
import Derived.Test.YtiabacnmmojfjaaGreatDoorJoint30
import Derived.Test.YtiabacnmmojfjaaGreatDoorShkH
import Derived.Test.YtiabacnmmojfjaaGreatDoorShkW
import Derived.Test.YtiabacnmmojfjaaGreatDoorShkY
import Derived.Test.YtiabacnmmojfjaaGreatDoorShkZ


