/- The contracts of chapter 11, of the specification and of the program, gathered. -/
import Derived.Test.YtiabacnmmojfjaaShkA
import Derived.Test.YtiabacnmmojfjaaShkS
import Derived.Test.YtiabacnmmojfjaaShkU
import Derived.Test.YtiabacnmmojfjaaShkL


