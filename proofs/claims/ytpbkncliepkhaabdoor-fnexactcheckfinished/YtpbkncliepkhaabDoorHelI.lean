/- The contracts of chapter 10's functions in the program and in the specification, gathered. -/
import Derived.Test.YtpbkncliepkhaabDoorHelT
import Derived.Test.YtpbkncliepkhaabDoorHelF


