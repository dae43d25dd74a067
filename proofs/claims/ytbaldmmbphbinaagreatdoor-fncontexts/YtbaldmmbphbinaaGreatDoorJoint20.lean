import Derived.Test.YtbaldmmbphbinaaGreatDoorJoint19
import Derived.Test.YtbaldmmbphbinaaGreatDoorJoint10
import Derived.Test.YtbaldmmbphbinaaGreatDoorJoint7
import Derived.Test.YtbaldmmbphbinaaGreatDoorJoint6
import Derived.Test.YtbaldmmbphbinaaGreatDoorJoint18
import Derived.Test.YtbaldmmbphbinaaGreatDoorJoint13
import Derived.Test.YtbaldmmbphbinaaGreatDoorJoint12
import Derived.Test.YtbaldmmbphbinaaGreatDoorJoint9
import Derived.Test.YtbaldmmbphbinaaGreatDoorJoint8
import Derived.Test.YtbaldmmbphbinaaGreatDoorJoint2
import Derived.Test.YtbaldmmbphbinaaGreatDoorJoint5
set_option maxHeartbeats 2000000
set_option maxRecDepth 4000
namespace Go.Proofs.YtbaldmmbphbinaaGreatDoor
open Go.ChangeShapes Go.WideShapes Go.ChangeAt Go.RowKit
theorem zBL (b:Nat) (p:Option Addr) (q:Nat) (cs:List UInt8) (t:Int) (w:World) (hs:Src w b p q cs t) (ht:0≤t) (ht2:t≤700000000):
  Calls Tryz.prog 17 #[.pointer (some ⟨b,0,none⟩)] w fun e w'=>∃ v x t',e=.returned v∧Own w' w.heap.size v x∧x.length≤21∧t≤t'∧t'≤t+30∧Src w' b p q cs t'∧w.grownBy w' (some b):=by
 go_enter Tryz.func17,Tryz.ntmps17;go_wp2_with fail;refine(zV b p q cs t 9 _ hs (by omega) (by omega) (by omega) (by omega)).mono ?_;rintro e w1 ⟨n,rfl,x0,y0,hs1,hg1⟩;clear hs;go_wp2_with fail;refine(zAc b p q cs (t+1) w1.heap.size [1,4,8,20,1+n,0,21] 7 _ (hs1.keep (zA _ _)) (by omega) (by omega) rfl (by decide) (by decide) (by have:=hs1.lt;omega) (zBQ _ _ _ [1,4,8,20,1+n,0,21] rfl)).mono ?_;rintro e w2 ⟨r,hr,rfl,hs2,hg2⟩
 have hr2:0≤r∧r≤21:=by simp at hr;omega
 have hg:w.grownBy w2 (some b):=zB (zB hg1 (World.grownBy_alloc _ _ _)) hg2;have hz:w.heap.size≤w2.heap.size:=hg.size;clear hs1 hg1 hg2 hr;go_wp2_with fail;refine(zDz b p q cs (t+1+1) r _ hs2 (by omega) (by omega) hr2.1 (by omega)).mono ?_;rintro e w3 ⟨u,bs,rfl,hbl,ko,hs3,hg3⟩;go_wp2;go_ret;exact⟨u,bs,t+1+1+r,rfl,ko.lower hz,by omega,by omega,by omega,hs3,zB hg hg3⟩
end Go.Proofs.YtbaldmmbphbinaaGreatDoor
namespace Go.Proofs.YtbaldmmbphbinaaGreatDoor
open Go.RowKit
theorem zAr (p p2:Option Addr) (q q2 b o:Nat) (x ctx:List UInt8) (r:Int) (c:zH) (w:World) (hr:Rd w p q x) (hr2:Rd w p2 q2 ctx) (c0:w.cell? ⟨b,o,none⟩=some (.int .i64 c.1)) (c1:w.cell? ⟨b,o+1,none⟩=some (.int .i64 c.2.1)) (c2:w.cell? ⟨b,o+2,none⟩=some (.int .i64 c.2.2)) (hx:x.length≤64) (hl:ctx.length≤20) (hc:okC c=true):
  Calls Tryz.prog 33 #[.slice p x.length q,.int .i64 r,.slice p2 ctx.length q2,.pointer (some ⟨b,o,none⟩)] w fun e w'=>∃ u,e=.returned u∧Own w' w.heap.size u (dgN x r ctx c)∧Below w.heap.size w w':=by
 have HD:Hid (dgN x r ctx c=zX (kyN x r false++[UInt8.ofNat ctx.length]++ctx++pcL c)):=rfl
 have KK:Hid (∀ W,Rd W p q x→Calls Tryz.prog 65 #[.slice p x.length q,.int .i64 r,.bool false] W fun e w'=>∃ u,e=.returned u∧Own w' W.heap.size u (kyN x r false)∧Below W.heap.size W w'):=fun W h=>zHS p q x r false W h hx
 have KP:Hid (∀ W,Below w.heap.size w W→Calls Tryz.prog 66 #[.pointer (some ⟨b,o,none⟩)] W fun e w'=>∃ u,e=.returned u∧Own w' W.heap.size u (pcL c)∧Below W.heap.size W w'):=fun W h=>zGI b o c W (zE c0 h) (zE c1 h) (zE c2 h) hc
 have HL1:(kyN x r false).length=32:=zFS _ _ _
 have HL2:(pcL c).length≤20:=by exact(show(4:Nat)≤20 by decide)
 obtain⟨kk,HK⟩:∃ kk,Hid (kyN x r false=kk):=⟨_,rfl⟩;obtain⟨pc,HP⟩:∃ pc,Hid (pcL c=pc):=⟨_,rfl⟩;rw[HK.out] at HD KK HL1;rw[HP.out] at HD KP HL2
 have HJL:Hid ((kk++[UInt8.ofNat ctx.length]++ctx++pc).length≤600):=by show _≤_;simp;omega
 have KD:Hid (∀ (W:World) (a:Option Addr) (d:Nat),Rd W a d (kk++[UInt8.ofNat ctx.length]++ctx++pc)→Calls Tryz.prog 63 #[.slice a (kk++[UInt8.ofNat ctx.length]++ctx++pc).length d] W fun e w'=>∃ u,e=.returned u∧Own w' W.heap.size u (dgN x r ctx c)∧Below W.heap.size W w'):=fun W a d h=>by rw[HD.out];exact zB0 a d _ W h HJL.out
 obtain⟨js,HJS⟩:∃ js,Hid (kk++[UInt8.ofNat ctx.length]++ctx++pc=js):=⟨_,rfl⟩;rw[HJS.out] at KD HJL
 have HCB:Hid ((UInt8.ofNat ctx.length).toNat=ctx.length):=by show _=_;rw[UInt8.toNat_ofNat',Nat.mod_eq_of_lt (by omega)]
 obtain⟨dg,HG⟩:∃ dg,Hid (dgN x r ctx c=dg):=⟨_,rfl⟩;rw[HG.out] at KD ⊢;have HR:Hid (Rd w p q x):=hr;have HR2:Hid (Rd w p2 q2 ctx):=hr2;clear hr hr2 c0 c1 c2 hx hc HD HL1 HL2 HK HP HG;go_enter Tryz.func33,Tryz.ntmps33;go_wp2_with fail;refine(KK.out _ HR.out).mono ?_;rintro e w1 ⟨u1,rfl,k1,hb1⟩;obtain⟨pa,qa,rfl,ra⟩:=k1.rd;clear k1;have rk:=zCQ w1 [.int .u8 (ctx.length:Int)] [UInt8.ofNat ctx.length] 5 1 (by simp only[List.map_cons,List.map_nil,u8v];rw[HCB.out]) rfl (by decide);have hbk:=zA w1 (.cells #[.int .u8 (ctx.length:Int)] 5);replace ra:=ra.keep hbk;replace hb1:=Below.step hb1 hbk;clear hbk;go_wp2_with fail;refine(KP.out _ hb1).mono ?_;rintro e w2 ⟨u2,rfl,k2,hb2⟩;obtain⟨pb,qb,rfl,rb⟩:=k2.rd;replace ra:=ra.keep hb2;replace rk:=rk.keep hb2;replace hb1:=Below.step hb1 hb2;clear k2 hb2;have Pj:=zFI w2 ⟨pa,qa,kk⟩ ⟨some ⟨w1.heap.size,0,none⟩,1,[UInt8.ofNat ctx.length]⟩ ⟨p2,q2,ctx⟩ ⟨pb,qb,pc⟩ 22 ra rk (HR2.out.keep hb1) rb;have hbj:=Below.step hb1 (zA w2 (.cells #[.slice pa kk.length qa,.slice (some ⟨w1.heap.size,0,none⟩) 1 1,.slice p2 ctx.length q2,.slice pb pc.length qb] 22));have KJ:=zKH [⟨pa,qa,kk⟩,⟨some ⟨w1.heap.size,0,none⟩,1,[UInt8.ofNat ctx.length]⟩,⟨p2,q2,ctx⟩,⟨pb,qb,pc⟩] w2.heap.size 0 4 _ Pj (by rw[zDA];dsimp only;rw[HJS.out];exact Nat.le_trans HJL.out (by decide)) (by simp);rw[zDA] at KJ
 dsimp only at KJ
 rw[HJS.out] at KJ;clear ra rb rk Pj hb1;go_wp2_with fail;refine KJ.mono ?_;rintro e w3 ⟨u3,rfl,k3,hb3⟩;obtain⟨pj,qj,rfl,rj⟩:=k3.rd;replace hbj:=Below.step hbj hb3;clear k3 hb3 KJ;go_wp2_with fail;refine(KD.out _ _ _ rj).mono ?_;rintro e w4 ⟨u4,rfl,k4,hb4⟩;go_wp2;go_ret;exact⟨_,rfl,k4.lower hbj.size,Below.step hbj hb4⟩
theorem zHW (p p2:Option Addr) (q q2 b o:Nat) (x ctx:List UInt8) (r:Int) (c:zH) (place:Int) (w:World) (hr:Rd w p q x) (hr2:Rd w p2 q2 ctx) (c0:w.cell? ⟨b,o,none⟩=some (.int .i64 c.1)) (c1:w.cell? ⟨b,o+1,none⟩=some (.int .i64 c.2.1)) (c2:w.cell? ⟨b,o+2,none⟩=some (.int .i64 c.2.2)) (hx:x.length≤64) (hl:ctx.length≤20) (hc:okC c=true) (hp0:0≤place) (hp1:place≤255):
  Calls Tryz.prog 68 #[.slice p x.length q,.int .i64 r,.slice p2 ctx.length q2,.pointer (some ⟨b,o,none⟩),.int .i64 place] w fun e w'=>∃ u,e=.returned u∧Own w' w.heap.size u (mcN x r ctx c place)∧Below w.heap.size w w':=by
 have HM:Hid (mcN x r ctx c place=macN (kyN x r true) (dgN x r ctx c++[UInt8.ofNat place.toNat])):=rfl
 have KK:Hid (∀ W,Rd W p q x→Calls Tryz.prog 65 #[.slice p x.length q,.int .i64 r,.bool true] W fun e w'=>∃ u,e=.returned u∧Own w' W.heap.size u (kyN x r true)∧Below W.heap.size W w'):=fun W h=>zHS p q x r true W h hx
 have KD:Hid (∀ W,Below w.heap.size w W→Calls Tryz.prog 33 #[.slice p x.length q,.int .i64 r,.slice p2 ctx.length q2,.pointer (some ⟨b,o,none⟩)] W fun e w'=>∃ u,e=.returned u∧Own w' W.heap.size u (dgN x r ctx c)∧Below W.heap.size W w'):=fun W h=>zAr p p2 q q2 b o x ctx r c W (hr.keep h) (hr2.keep h) (zE c0 h) (zE c1 h) (zE c2 h) hx hl hc
 have HL1:(kyN x r true).length=32:=zFS _ _ _;have HL2:(dgN x r ctx c).length=32:=zCT _ _ _ _;obtain⟨kk,HK⟩:∃ kk,Hid (kyN x r true=kk):=⟨_,rfl⟩;obtain⟨dg,HG⟩:∃ dg,Hid (dgN x r ctx c=dg):=⟨_,rfl⟩;rw[HK.out] at HM KK HL1;rw[HG.out] at HM KD HL2;have HDL:Hid (dg.length=32):=HL2
 have HPB:Hid ((((UInt8.ofNat place.toNat).toNat:Nat):Int)=place):=by show _=_;rw[UInt8.toNat_ofNat',Nat.mod_eq_of_lt (by omega)];omega
 obtain⟨js,HJS⟩:∃ js,Hid (dg++[UInt8.ofNat place.toNat]=js):=⟨_,rfl⟩
 have HJL:Hid (js.length≤536):=by show _≤_;rw[← HJS.out];simp;omega
 rw[HJS.out] at HM
 have KM:Hid (∀ (W:World) (a a':Option Addr) (d d':Nat),Rd W a d kk→Rd W a' d' js→Calls Tryz.prog 92 #[.slice a kk.length d,.slice a' js.length d'] W fun e w'=>∃ u,e=.returned u∧Own w' W.heap.size u (mcN x r ctx c place)∧Below W.heap.size W w'):=fun W a a' d d' h h'=>by rw[HM.out];exact zJB a a' d d' kk js W h h' (by omega) HJL.out
 obtain⟨mc,HC⟩:∃ mc,Hid (mcN x r ctx c place=mc):=⟨_,rfl⟩;rw[HC.out] at KM ⊢;have HR:Hid (Rd w p q x):=hr;clear hr hr2 c0 c1 c2 hx hc hl HM HL1 HL2 HK HG HC;go_enter Tryz.func68,Tryz.ntmps68;go_wp2_with fail;refine(KK.out _ HR.out).mono ?_;rintro e w1 ⟨u1,rfl,k1,hb1⟩;obtain⟨pa,qa,rfl,ra⟩:=k1.rd;clear k1;go_wp2_with fail;refine(KD.out _ hb1).mono ?_;rintro e w2 ⟨u2,rfl,kd,hb2⟩;obtain⟨pd,qd,rfl,-⟩:=kd.rd;have rk:=zCQ w2 [.int .u8 place] [UInt8.ofNat place.toNat] 5 1 (by simp only[List.map_cons,List.map_nil,u8v];rw[HPB.out]) rfl (by decide);have hbk:=zA w2 (.cells #[.int .u8 place] 5);have kd':=kd.stay hbk;replace hb2:=Below.step hb2 hbk;clear hbk kd;go_wp2_with (at_builtin;go_loud (refine zG rfl (.tmp 18) (.tmp 21) rfl w1.heap.size _ dg rfl kd' _ 1 [UInt8.ofNat place.toNat] rfl rk (by have:=HDL.out;simp;omega) hb2.size ?_);intro v6 w6 ho6 hg6);have B6:=hb2.grown hg6 hb2.size (fun k hk=>kd'.ge k hk);rw[HJS.out] at ho6;obtain⟨p6,q6,rfl,r6⟩:=ho6.rd;replace ra:=ra.keep B6;replace hb1:=Below.step hb1 B6;clear hb2 rk kd' hg6 B6 ho6;go_wp2_with fail;refine(KM.out _ _ _ _ _ ra r6).mono ?_;rintro e w4 ⟨u4,rfl,k4,hb4⟩;go_wp2;go_ret;exact⟨_,rfl,k4.lower hb1.size,Below.step hb1 hb4⟩
theorem zHX (w:World) (x y z v:Pc) (t:TypeId) (hx:Rd w x.p x.q x.bs) (hy:Rd w y.p y.q y.bs) (hz:Rd w z.p z.q z.bs) (hv:Rd w v.p v.q v.bs):
  RdL bytC (w.alloc (.cells #[x.val,y.val,z.val,v.val] t)) (some ⟨w.heap.size,0,none⟩) 4 [x.bs,y.bs,z.bs,v.bs]:=by
 have hb:=zA w (.cells #[x.val,y.val,z.val,v.val] t);have A:=Arr.new w [x.val,y.val,z.val,v.val] t;refine⟨by simp,by unfold maxLen;decide,(fun e=>by cases e),fun _=>⟨w.heap.size,0,rfl,fun i a hi=>?_⟩⟩
 match i,hi with
 | 0,hi=>cases hi;exact⟨[x.val],⟨x.p,x.q,rfl,hx.keep hb⟩,fun j u hj=>by
   match j,hj with
   | 0,hj=>cases hj;exact A.cell 0⟩
 | 1,hi=>cases hi;exact⟨[y.val],⟨y.p,y.q,rfl,hy.keep hb⟩,fun j u hj=>by
   match j,hj with
   | 0,hj=>cases hj;exact A.cell 1⟩
 | 2,hi=>cases hi;exact⟨[z.val],⟨z.p,z.q,rfl,hz.keep hb⟩,fun j u hj=>by
   match j,hj with
   | 0,hj=>cases hj;exact A.cell 2⟩
 | 3,hi=>cases hi;exact⟨[v.val],⟨v.p,v.q,rfl,hv.keep hb⟩,fun j u hj=>by
   match j,hj with
   | 0,hj=>cases hj;exact A.cell 3⟩
theorem zB3 (p p2:Option Addr) (q q2 b o:Nat) (x ctx:List UInt8) (r:Int) (c:zH) (place:Int) (w:World) (hr:Rd w p q x) (hr2:Rd w p2 q2 ctx) (c0:w.cell? ⟨b,o,none⟩=some (.int .i64 c.1)) (c1:w.cell? ⟨b,o+1,none⟩=some (.int .i64 c.2.1)) (c2:w.cell? ⟨b,o+2,none⟩=some (.int .i64 c.2.2)) (hx:x.length≤64) (hl:ctx.length≤20) (hc:okC c=true) (hp0:0≤place) (hp1:place≤255):
  Calls Tryz.prog 34 #[.slice p x.length q,.int .i64 r,.slice p2 ctx.length q2,.pointer (some ⟨b,o,none⟩),.int .i64 place] w fun e w'=>∃ u,e=.returned u∧Own w' w.heap.size u (mkN x r ctx c place)∧Below w.heap.size w w':=by
 have HM:Hid (mkN x r ctx c place=zAQ [ctx,pcL c,[UInt8.ofNat place.toNat],mcN x r ctx c place]):=rfl;have HLN:(mkN x r ctx c place).length=ctx.length+41:=zCx x r ctx c place
 have KP:Hid (∀ W,Below w.heap.size w W→Calls Tryz.prog 66 #[.pointer (some ⟨b,o,none⟩)] W fun e w'=>∃ u,e=.returned u∧Own w' W.heap.size u (pcL c)∧Below W.heap.size W w'):=fun W h=>zGI b o c W (zE c0 h) (zE c1 h) (zE c2 h) hc
 have KC:Hid (∀ W,Below w.heap.size w W→Calls Tryz.prog 68 #[.slice p x.length q,.int .i64 r,.slice p2 ctx.length q2,.pointer (some ⟨b,o,none⟩),.int .i64 place] W fun e w'=>∃ u,e=.returned u∧Own w' W.heap.size u (mcN x r ctx c place)∧Below W.heap.size W w'):=fun W h=>zHW p p2 q q2 b o x ctx r c place W (hr.keep h) (hr2.keep h) (zE c0 h) (zE c1 h) (zE c2 h) hx hl hc hp0 hp1
 obtain⟨mc,HC⟩:∃ mc,Hid (mcN x r ctx c place=mc):=⟨_,rfl⟩;obtain⟨pc,HP⟩:∃ pc,Hid (pcL c=pc):=⟨_,rfl⟩;rw[HC.out,HP.out] at HM;rw[HC.out] at KC;rw[HP.out] at KP
 have HML:Hid ((zAQ [ctx,pc,[UInt8.ofNat place.toNat],mc]).length≤1000000):=by show _≤_;rw[← HM.out];omega
 obtain⟨mk,HK⟩:∃ mk,Hid (mkN x r ctx c place=mk):=⟨_,rfl⟩;rw[HK.out] at HM ⊢
 have HPB:Hid ((((UInt8.ofNat place.toNat).toNat:Nat):Int)=place):=by show _=_;rw[UInt8.toNat_ofNat',Nat.mod_eq_of_lt (by omega)];omega
 have HR2:Hid (Rd w p2 q2 ctx):=hr2;clear hr hr2 c0 c1 c2 hx hc hl HK HC HP HLN;go_enter Tryz.func34,Tryz.ntmps34;go_wp2_with fail;refine(KP.out _ (Below.refl _ _)).mono ?_;rintro e w1 ⟨u1,rfl,k1,hb1⟩;obtain⟨pa,qa,rfl,ra⟩:=k1.rd;clear k1;have rk:=zCQ w1 [.int .u8 place] [UInt8.ofNat place.toNat] 5 1 (by simp only[List.map_cons,List.map_nil,u8v];rw[HPB.out]) rfl (by decide);have hbk:=zA w1 (.cells #[.int .u8 place] 5);replace ra:=ra.keep hbk;replace hb1:=Below.step hb1 hbk;clear hbk;go_wp2_with fail;refine(KC.out _ hb1).mono ?_;rintro e w2 ⟨u2,rfl,k2,hb2⟩;obtain⟨pb,qb,rfl,rb⟩:=k2.rd;replace ra:=ra.keep hb2;replace rk:=rk.keep hb2;replace hb1:=Below.step hb1 hb2;clear k2 hb2;have R4:=zHX w2 ⟨p2,q2,ctx⟩ ⟨pa,qa,pc⟩ ⟨some ⟨w1.heap.size,0,none⟩,1,[UInt8.ofNat place.toNat]⟩ ⟨pb,qb,mc⟩ 22 (HR2.out.keep hb1) ra rk rb;have hbj:=Below.step hb1 (zA w2 (.cells #[.slice p2 ctx.length q2,.slice pa pc.length qa,.slice (some ⟨w1.heap.size,0,none⟩) 1 1,.slice pb mc.length qb] 22));have KB:=zH7 [ctx,pc,[UInt8.ofNat place.toNat],mc] (some ⟨w2.heap.size,0,none⟩) 4 _ R4 HML.out;rw[← HM.out] at KB;clear ra rb rk R4 hb1;go_wp2_with fail;refine KB.mono ?_;rintro e w3 ⟨u3,rfl,k3,hb3⟩;go_wp2;go_ret;exact⟨_,rfl,k3.lower hbj.size,Below.step hbj hb3⟩
theorem zL6 {x:List UInt8} {r:Int} (h:akC x r=0):x.length=32:=by
 unfold akC at h;cases h1:is32 x
 ·rw[h1] at h;cases h
 ·simpa [is32] using h1
end Go.Proofs.YtbaldmmbphbinaaGreatDoor
namespace Go.Proofs.YtbaldmmbphbinaaGreatDoor
open Go.ChangeShapes Go.WideShapes Go.ChangeAt Go.RowKit
theorem zEz (l:List zO) (p:Option Addr) (q:Nat) (w:World) (hr:RdL signC w p q l):
  Calls Tryz.prog 31 #[.slice p l.length q] w fun e w'=>e=.returned (.int .i64 (sgC l))∧w'=w:=by
 have HR:Hid (RdL signC w p q l):=hr;have hq1:l.length≤q:=hr.1;have hq2:q≤2 ^ 63-1:=hr.2.1;clear hr
 by_cases hl:l.length≤40
 ·have hlI:¬ (40<(l.length:Int)):=by omega
  have HC:Hid (sgC l=sgF l):=by show _=_;rw[sgC,if_pos hl]
  go_enter Tryz.func31,Tryz.ntmps31;go_wp2
  go_loopw [3] (fun i wr=>wr=w∧∃ k:Nat,k≤l.length∧i=.int .i64 k∧sgC l=sgF (l.drop k))
   (fun i _=>l.length-(intOf i).toNat)
  case atStart=>exact⟨rfl,0,Nat.zero_le _,rfl,HC.out⟩
  case round=>
   obtain⟨rfl,k,hk,rfl,hn⟩:=hrel
   by_cases hlt:k<l.length
   ·have hI:(k:Int)<(l.length:Int):=by omega
    obtain⟨b,o,e1,hc⟩:=HR.out.2.2.2 (by omega);subst e1;obtain⟨a,ha⟩:∃ a,l[k]?=some a:=⟨l[k],by simp[hlt]⟩;obtain⟨us,hrep,hcell⟩:=hc k a ha;obtain⟨pa,qa,rfl,ra⟩:=zDx hrep;have c0:=hcell 0 _ rfl;have c1:=hcell 1 _ rfl;have c2:=hcell 2 _ rfl;rw[show signC.n=3 from rfl] at c0 c1 c2;rw[Nat.add_zero] at c0;clear hc hcell hrep ra;have HO:Hid (sgO a=if inB a.1 1 99&&inB a.2.1 0 9 then (if is32 a.2.2 then 0 else 1) else 3):=rfl
    have H0:Hid (sgO a=0→sgC l=sgF (l.drop (k+1))):=fun h=>hn.trans (zHN ha h)
    have H1:Hid (sgO a≠0→sgC l=sgO a):=fun h=>hn.trans (zJP ha h)
    clear hn;cases h1:inB a.1 1 99
    ·have hz:Hid (sgO a=3):=by show _=_;rw[HO.out,h1];rfl
     have hz2:Hid (sgC l=3):=(H1.out (by rw[hz.out];decide)).trans hz.out;go_wp2_with fail;refine(zAm _ _ _ _).mono ?_;rintro e w2 ⟨rfl,rfl⟩;rw[h1];go_wp2;go_ret;exact⟨by rw[hz2.out];rfl,rfl⟩
    ·cases h2:inB a.2.1 0 9
     ·have hz:Hid (sgO a=3):=by show _=_;rw[HO.out,h1,h2];rfl
      have hz2:Hid (sgC l=3):=(H1.out (by rw[hz.out];decide)).trans hz.out;go_wp2_with fail;refine(zAm _ _ _ _).mono ?_;rintro e w2 ⟨rfl,rfl⟩;rw[h1];go_wp2_with fail;refine(zAm _ _ _ _).mono ?_;rintro e w2 ⟨rfl,rfl⟩;rw[h2];go_wp2;go_ret;exact⟨by rw[hz2.out];rfl,rfl⟩
     ·cases h3:is32 a.2.2
      ·have hz:Hid (sgO a=1):=by show _=_;rw[HO.out,h1,h2,h3];rfl
       have hz2:Hid (sgC l=1):=(H1.out (by rw[hz.out];decide)).trans hz.out;go_wp2_with fail;refine(zAm _ _ _ _).mono ?_;rintro e w2 ⟨rfl,rfl⟩;rw[h1];go_wp2_with fail;refine(zAm _ _ _ _).mono ?_;rintro e w2 ⟨rfl,rfl⟩;rw[h2];go_wp2_with fail;refine(zB2 pa qa a.2.2 _).mono ?_;rintro e w2 ⟨rfl,rfl⟩;rw[h3];go_wp2;go_ret;exact⟨by rw[hz2.out];rfl,rfl⟩
      ·have hz:Hid (sgO a=0):=by show _=_;rw[HO.out,h1,h2,h3];rfl
       have hz2:Hid (sgC l=sgF (l.drop (k+1))):=H0.out hz.out;go_wp2_with fail;refine(zAm _ _ _ _).mono ?_;rintro e w2 ⟨rfl,rfl⟩;rw[h1];go_wp2_with fail;refine(zAm _ _ _ _).mono ?_;rintro e w2 ⟨rfl,rfl⟩;rw[h2];go_wp2_with fail;refine(zB2 pa qa a.2.2 _).mono ?_;rintro e w2 ⟨rfl,rfl⟩;rw[h3];go_wp2_with fail;go_roundw
       case rel=>exact⟨trivial,k+1,by omega,by go_num,hz2.out⟩
       case measure=>simp[intOf];omega
   ·have e:k=l.length:=by omega
    subst e;have hn2:Hid (sgC l=0):=hn.trans (zJQ l);clear hn;go_wp2;go_ret;exact⟨by rw[hn2.out];rfl,rfl⟩
 ·have hlI:40<(l.length:Int):=by omega
  rw[show sgC l=2 by rw[sgC,if_neg hl]];clear hl;go_enter Tryz.func31,Tryz.ntmps31;go_wp2;go_ret;exact⟨rfl,rfl⟩
theorem zE0 (l:List zO) (p p2:Option Addr) (q q2:Nat) (place id:Int) (d:List UInt8) (w:World) (hr:RdL signC w p q l) (hd:Rd w p2 q2 d) (hpl:(Lit.int .i64 place).wf=true):
  Calls Tryz.prog 102 #[.slice p l.length q,.int .i64 place,.int .i64 id,.slice p2 d.length q2] w fun e w'=>e=.returned (.bool (ckA l place id d))∧w'=w:=by
 have HR:Hid (RdL signC w p q l):=hr;have HD:Hid (Rd w p2 q2 d):=hd;have hq1:l.length≤q:=hr.1;have hq2:q≤2 ^ 63-1:=hr.2.1
 have hw:wrap64 ((l.length:Int)-1)=(l.length:Int)-1:=by unfold wrap64;omega
 clear hr hd
 by_cases h0:0≤place∧place<(l.length:Int)
 ·obtain⟨k,rfl⟩:∃ k:Nat,place=(k:Int):=⟨place.toNat,by omega⟩
  have hk:k<l.length:=by omega
  have hkI:(k:Int)<(l.length:Int):=by omega
  obtain⟨a,ha⟩:∃ a,l[k]?=some a:=⟨l[k],by simp[hk]⟩;have HB:Hid (inB (k:Int) 0 ((l.length:Int)-1)=true):=zBP (by omega) (by omega);obtain⟨b,o,e1,hc⟩:=HR.out.2.2.2 (by omega);subst e1;obtain⟨us,hrep,hcell⟩:=hc k a ha;obtain⟨pa,qa,rfl,ra⟩:=zDx hrep;have c0:=hcell 0 _ rfl;have c2:=hcell 2 _ rfl;rw[show signC.n=3 from rfl] at c0 c2;rw[Nat.add_zero] at c0;rw[zJS ha];clear hc hcell hrep h0;cases he:(a.1==id)
  ·go_enter Tryz.func102,Tryz.ntmps102;go_wp2_with fail
   try rw[hw]
   refine(zAm _ _ _ _).mono ?_;rintro e w2 ⟨rfl,rfl⟩;rw[HB.out];go_wp2;go_ret;exact⟨rfl,rfl⟩
  ·go_enter Tryz.func102,Tryz.ntmps102;go_wp2_with fail
   try rw[hw]
   refine(zAm _ _ _ _).mono ?_;rintro e w2 ⟨rfl,rfl⟩;rw[HB.out];go_wp2_with fail;refine(zDv pa p2 qa q2 a.2.2 d _ ra HD.out).mono ?_;rintro e w2 ⟨rfl,rfl⟩;go_wp2;go_ret;exact⟨by simp;exact Bool.eq_iff_iff.2 (by simp[zAb]),rfl⟩
 ·have HB:Hid (inB place 0 ((l.length:Int)-1)=false):=zAI (by omega);rw[zGq h0];clear h0;go_enter Tryz.func102,Tryz.ntmps102;go_wp2_with fail
  try rw[hw]
  refine(zAm _ _ _ _).mono ?_;rintro e w2 ⟨rfl,rfl⟩;rw[HB.out];go_wp2;go_ret;exact⟨rfl,rfl⟩
theorem zJe (w:World) (B:Nat) (h:B≤w.heap.size):OwnL 67 signC (w.alloc (.cells #[] 67)) B (.slice (some ⟨w.heap.size,0,none⟩) 0 0) [] [] []:=
 ⟨World.ownsRow_lit (base:=B) (e:=67) (size:=3) w #[] 0 h (by unfold maxLen;decide) (by simp),⟨rfl,rfl⟩,by simp[Value.ownBlock]⟩
def okS (l:List zO):Prop:=∀ s∈l,0≤s.1∧s.1≤100∧s.2.2.length≤32
theorem zL7:okS []:=fun _ h=>by cases h
theorem zHY {l:List zO} {a:zO} (h:okS l) (h1:0≤a.1) (h2:a.1≤100) (h3:a.2.2.length≤32):okS (l++[a]):=fun s hs=>by
 rcases List.mem_append.1 hs with hs | hs
 ·exact h s hs
 ·rcases List.mem_singleton.1 hs with rfl;exact⟨h1,h2,h3⟩
theorem zKk (n:Nat):okS (List.replicate n (0,0,[])):=fun s hs=>by
 rw[List.eq_of_mem_replicate hs];exact⟨by decide,by decide,by decide⟩
def zMm (w w':World) (b:Nat) (p:Option Addr) (q:Nat) (cs:List UInt8) (t:Int) (v:Value):Prop:=
 ∃ (l:List zO) (xs:List Value) (fp:List Nat) (t':Int),OwnL 67 signC w' w.heap.size v l xs fp∧l.length≤41∧okS l∧t≤t'∧t'≤t+2000∧Src w' b p q cs t'∧w.grownBy w' (some b)
def zNM (w wr:World) (b:Nat) (p:Option Addr) (q:Nat) (cs:List UInt8) (t n0:Int) (v k:Value):Prop:=
 ∃ (l:List zO) (xs:List Value) (fp:List Nat) (t':Int),(l.length:Int)≤n0∧k=.int .i64 (n0-l.length)∧OwnL 67 signC wr w.heap.size v l xs fp∧okS l∧t≤t'∧t'≤t+1+3*l.length∧Src wr b p q cs t'∧w.grownBy wr (some b)
theorem zEe (b:Nat) (p:Option Addr) (q:Nat) (cs:List UInt8) (t:Int) (w:World) (hs:Src w b p q cs t) (ht:0≤t) (ht2:t≤700000000):
  Calls Tryz.prog 29 #[.pointer (some ⟨b,0,none⟩)] w fun e w'=>∃ v,e=.returned v∧zMm w w' b p q cs t v:=by
 have hb0:Hid (b<w.heap.size):=hs.lt;have O1:=zJe w w.heap.size (Nat.le_refl _);go_enter Tryz.func29,Tryz.ntmps29;go_wp2_with fail;refine(zV b p q cs t 5 _ (hs.keep (zA _ _)) (by omega) (by omega) (by omega) (by omega)).mono ?_;rintro e v0 ⟨n0,rfl,x0,y0,hs0,hg0⟩;replace O1:=O1.drawC hg0 hb0.out;have hg:w.grownBy v0 (some b):=zB (World.grownBy_alloc _ _ _) hg0;have hhs:=hs0;clear hg0 hs hs0;go_wp2_with fail
 go_loopw [3,4] (fun v k wr=>zNM w wr b p q cs t n0 v k)
  (fun _ k _=>(intOf k).toNat)
 case atStart=>exact⟨[],[],[],t+1,by simp;omega,by simp,O1,zL7,by omega,by simp,hhs,hg⟩
 case round=>
  clear O1 hg hhs;obtain⟨out,xs,fp,t1,hol,rfl,ho,hok,ht3,ht4,hs1,hg1⟩:=hrel
  by_cases hlt:(out.length:Int)<n0
  ·have hI:0<n0-(out.length:Int):=by omega
   obtain⟨po,qo,rfl,hord⟩:=ho.rd;have hqo1:out.length≤qo:=hord.1;have hqo2:qo≤2 ^ 63-1:=hord.2.1;have HOK:Hid (okS out):=hok;clear hord hok;obtain⟨j0,hj,hy0,hy1,hy2⟩:=info_parts zDq;go_wp2_with (at_make;refine wpList_make_full _ rfl _ _ 22 rfl w.heap.size 5 j0 (.int .u8 0) 1 Tryz.underlying22 hj hy0 hy1 .i64 .i64 _ _ 32 rfl rfl rfl rfl (by rw[hy2];decide) (by unfold maxLen;decide) hg1.size ?_;intro w2 hown hgrow);have kd:=zAT hown;obtain⟨gd,hgw⟩:∃ gd,Hid (wr.heap.size=gd):=⟨_,rfl⟩
   have hoin:Hid (∀ j,j∈(Value.slice po out.length qo).ownBlock.toList++fp→j<gd):=fun j hj=>by rw[← hgw.out];exact(ho.ins j hj).2
   rw[hgw.out] at kd
   have hgd:Hid (∀ k,(Value.slice (some ⟨gd,0,none⟩) 32 32).ownBlock=some k→w.heap.size≤k):=fun k hk=>kd.ge k hk
   have hgd2:Hid (w.heap.size≤gd):=hgd.out gd rfl;replace ho:=ho.other (Only.grown hgrow) (fun k hk e=>by cases e);replace hs1:=hs1.other hgrow (fun k hk=>by cases hk);replace hg1:w.grownBy w2 (some b):=zA0 hg1 hgrow (fun k hk=>by cases hk);rw[hgw.out];clear hown hgrow hj hy0 hy1 hy2;go_wp2_with fail;refine(zV b p q cs (t1) 3 _ hs1 (by omega) (by omega) (by omega) (by omega)).mono ?_;rintro e w3 ⟨r0,rfl,z0,z0b,hs3,hgn⟩;replace ho:=ho.drawC hgn hb0.out;replace hg1:=zB hg1 hgn;replace kd:=kd.other hgn (fun k hk e=>by have:=hgd.out k hk;have:=hb0.out;simp at e;omega);clear hgn hs1;obtain⟨m0,rfl⟩:=Int.eq_ofNat_of_zero_le z0;have kd5:w3.ownsRow w.heap.size 5 1 (.slice (some ⟨gd,0,none⟩) 32 32) 32 ((zs 32).map u8v):=kd;have cn:=zQ (World.ownsRow.cellAt kd5 0 (by omega)) rfl;have fz:=World.ownsRow.frozenAt kd5;have R1:=World.ownsRow.stored kd5 0 (u8v (UInt8.ofNat m0));rw[show((zs 32).map u8v).set 0 (u8v (UInt8.ofNat m0))=((zs 32).set 0 (UInt8.ofNat m0)).map u8v by rw[List.map_set]] at R1
   have hu:u8v (UInt8.ofNat m0)=.int .u8 (m0:Int):=by unfold u8v;rw[UInt8.toNat_ofNat'];congr 1;omega
   rw[hu] at R1;obtain⟨dd,hdd⟩:∃ dd,Hid ((zs 32).set 0 (UInt8.ofNat m0)=dd):=⟨_,rfl⟩
   have HD32:Hid (dd.length=32):=by show _=_;rw[← hdd.out,List.length_set];exact zA3 _
   rw[hdd.out] at R1
   replace kd:Own (w3.setCell ⟨gd,0,none⟩ (.int .u8 (m0:Int))) w.heap.size (.slice (some ⟨gd,0,none⟩) 32 32) dd:=by
    unfold Own;rw[HD32.out];exact R1.1
   have hgs:=R1.2;replace ho:=ho.other (Only.grown hgs) (fun k hk e=>by have:=hoin.out k hk;simp at e;omega);replace hs3:=hs3.other hgs (fun k hk=>by simp at hk;have:=hgd2.out;have:=hb0.out;omega);replace hg1:w.grownBy _ (some b):=zA0 hg1 hgs (fun k hk=>by simp at hk;have:=hgd2.out;omega);clear kd5 R1 hgs hu;go_wp2_with fail;generalize hW3:w3.setCell ⟨gd,0,none⟩ (.int .u8 (m0:Int))=W3 at *;clear hW3 cn fz;refine(zV b p q cs (t1+1) 3 _ hs3 (by omega) (by omega) (by omega) (by omega)).mono ?_;rintro e w4 ⟨r1,rfl,x1,y1,hs4,hgn⟩;replace ho:=ho.drawC hgn hb0.out;replace hg1:=zB hg1 hgn;replace kd:=kd.other hgn (fun k hk e=>by have:=hgd.out k hk;have:=hb0.out;simp at e;omega);clear hgn hs3;go_wp2_with fail;refine(zV b p q cs (t1+1+1) 3 _ hs4 (by omega) (by omega) (by omega) (by omega)).mono ?_;rintro e w5 ⟨r2,rfl,x2,y2,hs5,hgn⟩;replace ho:=ho.drawC hgn hb0.out;replace hg1:=zB hg1 hgn;replace kd:=kd.other hgn (fun k hk e=>by have:=hgd.out k hk;have:=hb0.out;simp at e;omega);clear hgn hs4
   have HDJ:Hid (∀ j,(Value.slice (some ⟨gd,0,none⟩) 32 32).ownBlock=some j→j∈(Value.slice po out.length qo).ownBlock.toList++fp→False):=fun j hj hj2=>by have:=hoin.out j hj2;simp[Value.ownBlock] at hj;omega
   have hal5:=zA w5 (.cells #[.int .i64 (1+r1),.int .i64 (1+r2),.slice (some ⟨gd,0,none⟩) 32 32] 67)
   have hnew:∀ j u,([.int .i64 (1+r1),.int .i64 (1+r2),.slice (some ⟨gd,0,none⟩) 32 32]:List Value)[j]?=some u→(w5.alloc (.cells #[.int .i64 (1+r1),.int .i64 (1+r2),.slice (some ⟨gd,0,none⟩) 32 32] 67)).cell? ((⟨w5.heap.size,0,none⟩:Addr).add j)=some u:=fun j u hj=>(Arr.new w5 [.int .i64 (1+r1),.int .i64 (1+r2),.slice (some ⟨gd,0,none⟩) 32 32] 67).cells j u hj
   have ho5:=ho.stay hal5;have hs6:=hs5.keep hal5;have kd6:=kd.stay hal5;have hg5:w.grownBy (w5.alloc (.cells #[.int .i64 (1+r1),.int .i64 (1+r2),.slice (some ⟨gd,0,none⟩) 32 32] 67)) (some b):=zB hg1 (World.grownBy_alloc _ _ _);have hrow5:Hid ((w5.alloc (.cells #[.int .i64 (1+r1),.int .i64 (1+r2),.slice (some ⟨gd,0,none⟩) 32 32] 67)).ownsRow w.heap.size 67 3 (.slice po out.length qo) out.length xs):=ho5.row;obtain⟨i0,hi,hz0,hz1,hz2⟩:=info_parts zBT;have HB5:Hid (w.heap.size≤(w5.alloc (.cells #[.int .i64 (1+r1),.int .i64 (1+r2),.slice (some ⟨gd,0,none⟩) 32 32] 67)).heap.size):=hg5.size;have hoI:=ho5.ins;clear hs5 hg1 hal5 ho kd;go_wp2_with (at_builtin;refine wpList_append_lies _ rfl (.tmp 19) (.tmp 28) 34 rfl w.heap.size 67 i0 (.agg #[.int .i64 0,.int .i64 0,.slice none 0 0]) 3 40 Tryz.underlying34 hi hz0 hz1 hz2 rfl (by decide) (.slice po out.length qo) out.length xs rfl hrow5.out ⟨w5.heap.size,0,none⟩ 1 1 [.int .i64 (1+r1),.int .i64 (1+r2),.slice (some ⟨gd,0,none⟩) 32 32] rfl rfl hnew (by intro u hu;simp at hu;rcases hu with rfl | rfl | rfl <;> rfl) (by decide) (by unfold maxLen;omega) (by omega) HB5.out _ rfl ?_;intro g6 c6 w6 hown6 hgrow6 hat6 hlt6);have OP:=ho5.push (zAd (a:=(1+r1,1+r2,dd)) kd6) (fun j hj hj2=>HDJ.out j (mem_opt.1 hj) hj2) (k:=out.length+1) (v':=.slice (some ⟨g6,0,none⟩) (out.length+1) c6) (g:=g6) hown6 (by simp) hgrow6 rfl hat6;have hs7:=hs6.other hgrow6 (fun k hk=>by have h1:=(hoI k (List.mem_append_left _ (mem_opt.2 hk))).1;have:=hb0.out;omega);have hg6:w.grownBy w6 (some b):=zA0 hg5 hgrow6 (fun k hk=>(hoI k (List.mem_append_left _ (mem_opt.2 hk))).1);have HOK2:Hid (okS (out++[(1+r1,1+r2,dd)])):=zHY HOK.out (by show 0≤1+r1;omega) (by show 1+r1≤100;omega) (by show dd.length≤32;rw[HD32.out];exact Nat.le_refl _);clear ho5 hs6 hg5 kd6 hown6 hgrow6 hat6 hnew hrow5 hoI;go_wp2_with fail;go_roundw
   case rel=>exact⟨_,_,_,t1+1+1+1,by simp;omega,by simp;omega,OP,HOK2.out,by omega,by simp;omega,hs7,hg6⟩
   case measure=>simp[intOf];omega
  ·have hI:¬ (0<n0-(out.length:Int)):=by omega
   obtain⟨po,qo,rfl,hord⟩:=ho.rd;have hqo1:out.length≤qo:=hord.1;have hqo2:qo≤2 ^ 63-1:=hord.2.1;have HOK:Hid (okS out):=hok;clear hord hok;go_wp2_with fail;refine(zV b p q cs (t1) 14 _ hs1 (by omega) (by omega) (by omega) (by omega)).mono ?_;rintro e w2 ⟨r,rfl,x3,y3,hs2,hgn⟩;replace ho:=ho.drawC hgn hb0.out;replace hg1:=zB hg1 hgn;clear hgn hs1
   by_cases h0:r=0
   ·subst h0;go_wp2_with fail;refine(zAc b p q cs (t1+1) w2.heap.size [0,1,100] 3 _ (hs2.keep (zA _ _)) (by omega) (by omega) rfl (by decide) (by decide) (by have:=hs2.lt;omega) (zBQ _ _ _ [0,1,100] rfl)).mono ?_;rintro e w3 ⟨a1,ha1,rfl,hs3,hgp⟩;replace ho:=(ho.stay (zA _ _)).drawC hgp hb0.out;replace hg1:=zB hg1 (zB (World.grownBy_alloc _ _ _) hgp);clear hgp hs2;go_wp2_with fail;refine(zAc b p q cs (t1+1+1) w3.heap.size [1,10] 2 _ (hs3.keep (zA _ _)) (by omega) (by omega) rfl (by decide) (by decide) (by have:=hs3.lt;omega) (zBQ _ _ _ [1,10] rfl)).mono ?_;rintro e w4 ⟨a2,ha2,rfl,hs4,hgp⟩;replace ho:=(ho.stay (zA _ _)).drawC hgp hb0.out;replace hg1:=zB hg1 (zB (World.grownBy_alloc _ _ _) hgp);clear hgp hs3
    have ha1b:Hid (0≤a1∧a1≤100):=by show _∧_;simp only[List.mem_cons,List.not_mem_nil,or_false] at ha1;omega
    clear ha1 ha2;go_wp2_with fail;refine(zLo b p q cs (t1+1+1+1) _ hs4 (by omega) (by omega)).mono ?_;rintro e w5 ⟨u5,d5,t5,rfl,hdl,ht5,ht6,kd,hs5,hgk⟩
    have HDJ0:Hid (∀ j,j∈(Value.slice po out.length qo).ownBlock.toList++fp→j<w4.heap.size):=fun j hj=>(ho.ins j hj).2
    have hkg:Hid (∀ j,u5.ownBlock=some j→w4.heap.size≤j):=fun j hj=>kd.ge j hj
    have hw4:Hid (w.heap.size≤w4.heap.size):=hg1.size;replace ho:=ho.drawC hgk hb0.out;replace hg1:=zB hg1 hgk;replace kd:=kd.lower (B':=w.heap.size) hw4.out;obtain⟨pd,qd,rfl,-⟩:=kd.rd;clear hgk hs4
    have HDJ:Hid (∀ j,(Value.slice pd d5.length qd).ownBlock=some j→j∈(Value.slice po out.length qo).ownBlock.toList++fp→False):=fun j hj hj2=>by have:=HDJ0.out j hj2;have:=hkg.out j hj;omega
    have hal5:=zA w5 (.cells #[.int .i64 a1,.int .i64 a2,.slice pd d5.length qd] 67)
    have hnew:∀ j u,([.int .i64 a1,.int .i64 a2,.slice pd d5.length qd]:List Value)[j]?=some u→(w5.alloc (.cells #[.int .i64 a1,.int .i64 a2,.slice pd d5.length qd] 67)).cell? ((⟨w5.heap.size,0,none⟩:Addr).add j)=some u:=fun j u hj=>(Arr.new w5 [.int .i64 a1,.int .i64 a2,.slice pd d5.length qd] 67).cells j u hj
    have ho5:=ho.stay hal5;have hs6:=hs5.keep hal5;have kd6:=kd.stay hal5;have hg5:w.grownBy (w5.alloc (.cells #[.int .i64 a1,.int .i64 a2,.slice pd d5.length qd] 67)) (some b):=zB hg1 (World.grownBy_alloc _ _ _);have hrow5:Hid ((w5.alloc (.cells #[.int .i64 a1,.int .i64 a2,.slice pd d5.length qd] 67)).ownsRow w.heap.size 67 3 (.slice po out.length qo) out.length xs):=ho5.row;obtain⟨i0,hi,hz0,hz1,hz2⟩:=info_parts zBT;have HB5:Hid (w.heap.size≤(w5.alloc (.cells #[.int .i64 a1,.int .i64 a2,.slice pd d5.length qd] 67)).heap.size):=hg5.size;have hoI:=ho5.ins;clear hs5 hg1 hal5 ho kd;go_wp2_with (at_builtin;refine wpList_append_lies _ rfl (.tmp 34) (.tmp 44) 34 rfl w.heap.size 67 i0 (.agg #[.int .i64 0,.int .i64 0,.slice none 0 0]) 3 40 Tryz.underlying34 hi hz0 hz1 hz2 rfl (by decide) (.slice po out.length qo) out.length xs rfl hrow5.out ⟨w5.heap.size,0,none⟩ 1 1 [.int .i64 a1,.int .i64 a2,.slice pd d5.length qd] rfl rfl hnew (by intro u hu;simp at hu;rcases hu with rfl | rfl | rfl <;> rfl) (by decide) (by unfold maxLen;omega) (by omega) HB5.out _ rfl ?_;intro g6 c6 w6 hown6 hgrow6 hat6 hlt6);have OP:=ho5.push (zAd (a:=(a1,a2,d5)) kd6) (fun j hj hj2=>HDJ.out j (mem_opt.1 hj) hj2) (k:=out.length+1) (v':=.slice (some ⟨g6,0,none⟩) (out.length+1) c6) (g:=g6) hown6 (by simp) hgrow6 rfl hat6;have hs7:=hs6.other hgrow6 (fun k hk=>by have h1:=(hoI k (List.mem_append_left _ (mem_opt.2 hk))).1;have:=hb0.out;omega);have hg6:w.grownBy w6 (some b):=zA0 hg5 hgrow6 (fun k hk=>(hoI k (List.mem_append_left _ (mem_opt.2 hk))).1);have HOK2:Hid (okS (out++[(a1,a2,d5)])):=zHY HOK.out ha1b.out.1 ha1b.out.2 hdl;clear ho5 hs6 hg5 kd6 hown6 hgrow6 hat6 hnew hrow5 hoI;go_wp2_with fail;go_ret;exact⟨_,rfl,_,_,_,_,OP,by simp;omega,HOK2.out,by omega,by omega,hs7,hg6⟩
   ·by_cases h1:r=1
    ·subst h1;obtain⟨i0,hi,hz0,hz1,hz2⟩:=info_parts zBT;go_wp2_with (at_make;refine wpList_make_full _ rfl _ _ 34 rfl w.heap.size 67 i0 (.agg #[.int .i64 0,.int .i64 0,.slice none 0 0]) 3 Tryz.underlying34 hi hz0 hz1 .i64 .i64 _ _ 41 rfl rfl rfl rfl (by rw[hz2];decide) (by unfold maxLen;decide) hg1.size ?_;intro w3 hown hgrow);have hs3:=hs2.other hgrow (fun k hk=>by cases hk);have hg3:w.grownBy w3 (some b):=zA0 hg1 hgrow (fun k hk=>by cases hk);rw[show(madeCells (Value.agg #[.int .i64 0,.int .i64 0,.slice none 0 0]).cells (41*3)).toList=(List.replicate 41 [.int .i64 0,.int .i64 0,.slice none 0 0]).flatten by kernel_rfl] at hown;have OP:OwnL 67 signC w3 w.heap.size (.slice (some ⟨w2.heap.size,0,none⟩) 41 41) (List.replicate 41 (0,0,[])) (List.replicate 41 [.int .i64 0,.int .i64 0,.slice none 0 0]).flatten []:=⟨hown,zCy (zAd (a:=(0,0,[])) (zAA _ _)) 41,by simp[Value.ownBlock]⟩;clear hown hgrow;go_wp2_with fail;go_ret;exact⟨_,rfl,_,_,_,_,OP,by simp,zKk 41,by omega,by omega,hs3,hg3⟩
    ·have d0:(r==0)=false:=by rw[beq_eq_false_iff_ne];exact h0
     have d1:(r==1)=false:=by rw[beq_eq_false_iff_ne];exact h1
     go_wp2_with fail;go_ret;exact⟨_,rfl,out,xs,fp,_,ho,by omega,HOK.out,by omega,by omega,hs2,hg1⟩
end Go.Proofs.YtbaldmmbphbinaaGreatDoor
