/- The contracts of chapter 11, of the specification and of the program, gathered. -/
import Derived.Test.YtiabacnmmojfjabGreatDoorJoint15
import Derived.Test.YtiabacnmmojfjabGreatDoorShkU
import Derived.Test.YtiabacnmmojfjabGreatDoorJoint19
import Derived.Test.YtiabacnmmojfjabGreatDoorShkH
import Derived.Test.YtiabacnmmojfjabGreatDoorShkW
import Derived.Test.YtiabacnmmojfjabGreatDoorShkY
import Derived.Test.YtiabacnmmojfjabGreatDoorShkZ


