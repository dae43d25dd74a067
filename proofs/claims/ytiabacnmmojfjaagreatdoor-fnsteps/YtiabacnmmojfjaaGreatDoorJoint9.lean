import Derived.Test.YtiabacnmmojfjaaGreatDoorJoint8
namespace Go.Proofs.YtiabacnmmojfjaaGreatDoor
open Go.ChangeShapes Go.WideShapes Go.ChangeAt Go.RowKit
abbrev zEd:=Int×MsgD
def msgResultC:Cod zEd:=zCI (intC .i64) msgC
abbrev zT:=Int×List UInt8×Int×List UInt8
def sideC:Cod zT:=zCI (intC .i64) (zCI bytC (zCI (intC .i64) bytC))
theorem zAM {w:World} {a:zT} {vs:List Value} (h:sideC.rep w a vs):∃ p2 q2 p4 q4,vs=[.int .i64 a.1,.slice p2 a.2.1.length q2,.int .i64 a.2.2.1,.slice p4 a.2.2.2.length q4]∧Rd w p2 q2 a.2.1∧Rd w p4 q4 a.2.2.2:=by
 obtain⟨us0,ts0,rfl,h0,us1,ts1,rfl,h1,us2,ts2,rfl,h2,h3⟩:=h;have e0:us0=[Value.int .i64 _]:=h0;subst e0;obtain⟨p2,q2,rfl,r2⟩:=h1;have e2:us2=[Value.int .i64 _]:=h2;subst e2;obtain⟨p4,q4,rfl,r4⟩:=h3;exact⟨p2,q2,p4,q4,rfl,r2,r4⟩
theorem zCZ {w:World} {a:zT} {p2:Option Addr} {q2:Nat} {p4:Option Addr} {q4:Nat} (r2:Rd w p2 q2 a.2.1) (r4:Rd w p4 q4 a.2.2.2):sideC.rep w a [.int .i64 a.1,.slice p2 a.2.1.length q2,.int .i64 a.2.2.1,.slice p4 a.2.2.2.length q4]:=⟨[.int .i64 a.1],_,rfl,rfl,⟨[.slice p2 a.2.1.length q2],_,rfl,⟨p2,q2,rfl,r2⟩,⟨[.int .i64 a.2.2.1],_,rfl,rfl,⟨p4,q4,rfl,r4⟩⟩⟩⟩
def zMo (a:zT):Nat:=a.2.1.length+a.2.2.2.length
end Go.Proofs.YtiabacnmmojfjaaGreatDoor
