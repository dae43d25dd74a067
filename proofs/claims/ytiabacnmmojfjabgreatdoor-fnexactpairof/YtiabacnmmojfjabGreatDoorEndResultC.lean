import Derived.Test.YtiabacnmmojfjabGreatDoorJoint7
import Derived.Test.YtiabacnmmojfjabGreatDoorEndC
import Derived.Test.YtiabacnmmojfjabGreatDoorJoint9
namespace Go.Proofs.YtiabacnmmojfjabGreatDoor
open Go.ChangeShapes Go.WideShapes Go.ChangeAt Go.RowKit
abbrev zAb:=Int×EndD×List MsgD
def endResultC:Cod zAb:=zB2 (intC .i64) (zB2 endC msgsC)
theorem zAF {w:World} {a:zAb} {vs:List Value} (h:endResultC.rep w a vs):∃ p2_1_2 q2_1_2 p2_1_4 q2_1_4 p2_4 q2_4 p2_5 q2_5 p2_6_1 q2_6_1 p2_6_2 q2_6_2 p2_6_3 q2_6_3 p2_6_4 q2_6_4 p3 q3,vs=[.int .i64 a.1,.int .i64 a.2.1.1.1,.slice p2_1_2 a.2.1.1.2.1.length q2_1_2,.int .i64 a.2.1.1.2.2.1,.slice p2_1_4 a.2.1.1.2.2.2.length q2_1_4,.int .i64 a.2.1.2.1,.int .i64 a.2.1.2.2.1,.slice p2_4 a.2.1.2.2.2.1.length q2_4,.slice p2_5 a.2.1.2.2.2.2.1.length q2_5,.slice p2_6_1 a.2.1.2.2.2.2.2.1.length q2_6_1,.slice p2_6_2 a.2.1.2.2.2.2.2.2.1.length q2_6_2,.slice p2_6_3 a.2.1.2.2.2.2.2.2.2.1.length q2_6_3,.slice p2_6_4 a.2.1.2.2.2.2.2.2.2.2.length q2_6_4,.slice p3 a.2.2.length q3]∧Rd w p2_1_2 q2_1_2 a.2.1.1.2.1∧Rd w p2_1_4 q2_1_4 a.2.1.1.2.2.2∧RdL msgC w p2_4 q2_4 a.2.1.2.2.2.1∧Rd w p2_5 q2_5 a.2.1.2.2.2.2.1∧Rd w p2_6_1 q2_6_1 a.2.1.2.2.2.2.2.1∧Rd w p2_6_2 q2_6_2 a.2.1.2.2.2.2.2.2.1∧Rd w p2_6_3 q2_6_3 a.2.1.2.2.2.2.2.2.2.1∧Rd w p2_6_4 q2_6_4 a.2.1.2.2.2.2.2.2.2.2∧RdL msgC w p3 q3 a.2.2:=by
 obtain⟨us0,ts0,rfl,h0,us1,ts1,rfl,h1,h2⟩:=h;have e0:us0=[Value.int .i64 _]:=h0;subst e0;obtain⟨p2_1_2,q2_1_2,p2_1_4,q2_1_4,p2_4,q2_4,p2_5,q2_5,p2_6_1,q2_6_1,p2_6_2,q2_6_2,p2_6_3,q2_6_3,p2_6_4,q2_6_4,rfl,r2_1_2,r2_1_4,r2_4,r2_5,r2_6_1,r2_6_2,r2_6_3,r2_6_4⟩:=zAC h1;obtain⟨p3,q3,rfl,r3⟩:=h2;exact⟨p2_1_2,q2_1_2,p2_1_4,q2_1_4,p2_4,q2_4,p2_5,q2_5,p2_6_1,q2_6_1,p2_6_2,q2_6_2,p2_6_3,q2_6_3,p2_6_4,q2_6_4,p3,q3,rfl,r2_1_2,r2_1_4,r2_4,r2_5,r2_6_1,r2_6_2,r2_6_3,r2_6_4,r3⟩
end Go.Proofs.YtiabacnmmojfjabGreatDoor
