/- The contracts of chapter 11, of the specification and of the program, gathered. -/
import Derived.Test.YtiabacnmmojfjabGreatDoorShkA
import Derived.Test.YtiabacnmmojfjabGreatDoorShkU
import Derived.Test.YtiabacnmmojfjabGreatDoorJoint28
import Derived.Test.YtiabacnmmojfjabGreatDoorShkH
import Derived.Test.YtiabacnmmojfjabGreatDoorShkW
import Derived.Test.YtiabacnmmojfjabGreatDoorShkY
import Derived.Test.YtiabacnmmojfjabGreatDoorShkZ


