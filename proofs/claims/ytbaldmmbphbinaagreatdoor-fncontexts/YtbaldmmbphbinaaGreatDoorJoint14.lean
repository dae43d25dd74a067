import Derived.Test.YtbaldmmbphbinaaGreatDoorJoint13
import Derived.Test.YtbaldmmbphbinaaGreatDoorJoint3
import Derived.Test.YtbaldmmbphbinaaGreatDoorJoint10
set_option maxHeartbeats 1000000
set_option maxRecDepth 4000
namespace Go.Proofs.YtbaldmmbphbinaaGreatDoor
open Go.ChangeShapes Go.WideShapes Go.ChangeAt Go.RowKit
def zBH (b:UInt8):Bool:=decide (32≤b.toNat)&&decide (b.toNat≤126)
theorem zDT (l:List UInt8):zAa l=(l.all zBH&&inB (l.length:Int) 1 40):=by
 unfold zAa zBH inB;rw[Bool.and_assoc]
 congr 1
 simp only[decide_eq_decide.2 (show 1≤l.length↔(1:Int)≤(l.length:Int) by omega),decide_eq_decide.2 (show l.length≤40↔(l.length:Int)≤40 by omega),Bool.decide_and]
theorem zJC {l:List UInt8} {j:Nat} (h:j<l.length):zBH l[j]=(decide (32≤at8 l j)&&decide (at8 l j≤126)):=by
 rw[zA8 h];unfold zBH;simp only[decide_eq_decide.2 (show 32≤l[j].toNat↔(32:Int)≤(l[j].toNat:Int) by omega),decide_eq_decide.2 (show l[j].toNat≤126↔(l[j].toNat:Int)≤126 by omega)]
theorem zFJ {l:List UInt8} {j:Nat} (h:j<l.length):(l.take (j+1)).all zBH=((l.take j).all zBH&&zBH l[j]):=by
 rw[List.take_succ_eq_append_getElem h,List.all_append];simp
theorem zGi {l:List UInt8} {j:Nat} (h:j<l.length) (hb:zBH l[j]=false):l.all zBH=false:=by
 rw[List.all_eq_false];exact⟨l[j],List.getElem_mem h,by simp[hb]⟩
def zAB (l ctx:List UInt8) (n:Int):Int:=if zAa l then (if ctx.length≤100 then (if inB n 0 255 then 0 else 3) else 2) else 5
theorem zF3:(⟨#[116,108,115,49,51,32]⟩:ByteArray)=strB zBy:=rfl
theorem zF4 (l ctx:List UInt8) (n:Nat):zAi l ctx n=putB n 2++[UInt8.ofNat (6+l.length)]++(zBy++l)++[UInt8.ofNat ctx.length]++ctx:=by simp[zAi]
theorem zEb (l:List UInt8) (p:Option Addr) (q:Nat) (ctx:List UInt8) (n:Nat) (w:World) (hr:Rd w p q ctx) (hl:l.length≤40) (hl2:ctx.length≤100) (hn:n≤255):
  Calls Tryz.prog 133 #[.string (strB l),.slice p ctx.length q,.int .i64 (n:Int)] w fun e w'=>∃ u,e=.returned u∧Own w' w.heap.size u (zAi l ctx n)∧Below w.heap.size w w':=by
 have HR:Hid (Rd w p q ctx):=hr;clear hr;have ha:=zIh (P:=Tryz.prog) zBy l (by simp[zBy];omega);rw[← zF3] at ha
 have hlf:Hid ((zBy++l).length=6+l.length):=by show _=_;simp[zBy];omega
 have hfs:(strB (zBy++l)).size=6+l.length:=by rw[zAt,hlf.out]
 have hb:=zFn (P:=Tryz.prog) (src:=9) (dst:=22) Tryz.underlying9 Tryz.underlying22 Tryz.underlying5 (zBy++l);have HE:Hid (zAi l ctx n=putB n 2++[UInt8.ofNat (6+l.length)]++(zBy++l)++[UInt8.ofNat ctx.length]++ctx):=zF4 l ctx n
 have hv1:Hid ((6:Int)+(l.length:Int)=((UInt8.ofNat (6+l.length)).toNat:Int)):=by show _=_;rw[UInt8.toNat_ofNat',Nat.mod_eq_of_lt (by omega)];omega
 have hv2:Hid ((ctx.length:Int)=((UInt8.ofNat ctx.length).toNat:Int)):=by show _=_;rw[UInt8.toNat_ofNat',Nat.mod_eq_of_lt (by omega)]
 generalize zBy++l=f at *;go_enter Tryz.func133,Tryz.ntmps133;go_wp2_with fail;refine(zGe _ 2 _ (by omega) (by omega) (by decide) (by decide)).mono ?_;rintro e w1 ⟨u1,rfl,k1,hb1⟩;rw[Int.toNat_natCast,show(2:Int).toNat=2 from rfl] at k1;obtain⟨p1,q1,rfl,-⟩:=k1.rd;rw[zZ] at k1 ⊢;have BW:=hb1
 have hfm:Hid (f.length≤46):=by show _≤_;rw[hlf.out];omega
 have k1':=k1.stay (zA w1 (.cells #[.int .u8 ((6:Int)+(l.length:Int))] 5));clear hb1
 go_wp2_with (first
  | (at_builtin;refine zG rfl (.tmp 12) (.tmp 16) rfl w.heap.size _ (putB n 2) rfl k1' _ 1 [UInt8.ofNat (6+l.length)] rfl (zED w1 _ _ _ hv1.out) (by simp[zZ]) (by have:=BW.size;simp;omega) ?_;intro v2 w2 k2 hg2;replace BW:=(Below.mk BW (.cells #[.int .u8 ((6:Int)+(l.length:Int))] 5)).grown hg2 (by have:=BW.size;simp;omega) (fun k hk=>k1.ge k hk);clear hg2 k1 k1')
  | (at_builtin;refine zG rfl (.tmp 18) (.tmp 20) rfl w.heap.size _ (putB n 2++[UInt8.ofNat (6+l.length)]) rfl (k2.stay (zBG w2 f)) _ _ f rfl (zFo w2 f (by have:=hfm.out;unfold maxLen;omega)) (by have:=hfm.out;simp[zZ];omega) (Below.step BW (zBG w2 f)).size ?_;intro v3 w3 k3 hg3;replace BW:=(Below.step BW (zBG w2 f)).grown hg3 (Below.step BW (zBG w2 f)).size (fun k hk=>k2.ge k hk);clear hg3 k2;have k3':=k3.stay (zA w3 (.cells #[.int .u8 (ctx.length:Int)] 5)))
  | (at_builtin;refine zG rfl (.tmp 21) (.tmp 25) rfl w.heap.size _ (putB n 2++[UInt8.ofNat (6+l.length)]++f) rfl k3' _ 1 [UInt8.ofNat ctx.length] rfl (zED w3 _ _ _ hv2.out) (by have:=hfm.out;simp[zZ];omega) (by have:=BW.size;simp;omega) ?_;intro v4 w4 k4 hg4;replace BW:=(Below.mk BW (.cells #[.int .u8 (ctx.length:Int)] 5)).grown hg4 (by have:=BW.size;simp;omega) (fun k hk=>k3.ge k hk);clear hg4 k3 k3')
  | (at_builtin;refine zG rfl (.tmp 27) (.tmp 28) rfl w.heap.size _ (putB n 2++[UInt8.ofNat (6+l.length)]++f++[UInt8.ofNat ctx.length]) rfl k4 p q ctx rfl (HR.out.keep BW) (by have:=hfm.out;simp[zZ];omega) BW.size ?_;intro v5 w5 k5 hg5;replace BW:=BW.grown hg5 BW.size (fun k hk=>k4.ge k hk);clear hg5 k4))
 go_ret;exact⟨_,rfl,by rw[HE.out];exact k5,BW⟩
def zAN (key l ctx:List UInt8) (n:Nat):List UInt8:=zAx key (zAi l ctx n) n
def zAD (key l data:List UInt8):List UInt8:=zAN key l (zX data) 32
theorem zCB {l:List UInt8} (h:zAa l=true):l.length≤40:=by
 unfold zAa at h;simp only[Bool.and_eq_true,decide_eq_true_eq] at h;exact h.2
theorem zCS (p p2:Option Addr) (q q2:Nat) (key l ctx:List UInt8) (n:Nat) (w:World) (hr:Rd w p q key) (hr2:Rd w p2 q2 ctx) (hk:key.length≤64) (hl:l.length≤40) (hl2:ctx.length≤100) (hn:n≤255):
  Calls Tryz.prog 109 #[.slice p key.length q,.string (strB l),.slice p2 ctx.length q2,.int .i64 (n:Int)] w fun e w'=>∃ u,e=.returned u∧Own w' w.heap.size u (zAN key l ctx n)∧Below w.heap.size w w':=by
 have HE:Hid (zAN key l ctx n=zAx key (zAi l ctx n) n):=rfl;go_enter Tryz.func109,Tryz.ntmps109;go_wp2_with fail;refine(zEb l p2 q2 ctx n _ hr2 hl hl2 hn).mono ?_;rintro e w1 ⟨u1,rfl,k1,hb1⟩;obtain⟨p1,q1,rfl,rd1⟩:=k1.rd
 have HB:Hid ((zAi l ctx n).length≤400):=by show _≤_;rw[zEl];omega
 generalize zAi l ctx n=lb at *;have hz:=hb1.size;clear k1;go_wp2_with fail;refine(zH8 p p1 q q1 key lb n _ (hr.keep hb1) rd1 hk HB.out hn).mono ?_;rintro e w2 ⟨u2,rfl,k2,hb2⟩;go_wp2;go_ret;exact⟨_,rfl,by rw[HE.out];exact k2.lower hz,Below.step hb1 hb2⟩
theorem zH9 (p p2:Option Addr) (q q2:Nat) (key l data:List UInt8) (w:World) (hr:Rd w p q key) (hr2:Rd w p2 q2 data) (hk:key.length≤64) (hl:l.length≤40) (hl2:data.length≤600):
  Calls Tryz.prog 110 #[.slice p key.length q,.string (strB l),.slice p2 data.length q2] w fun e w'=>∃ u,e=.returned u∧Own w' w.heap.size u (zAD key l data)∧Below w.heap.size w w':=by
 have HE:Hid (zAD key l data=zAN key l (zX data) 32):=rfl;go_enter Tryz.func110,Tryz.ntmps110;go_wp2_with fail;refine(zB0 p2 q2 data _ hr2 hl2).mono ?_;rintro e w1 ⟨u1,rfl,k1,hb1⟩;obtain⟨p1,q1,rfl,rd1⟩:=k1.rd;have HB:Hid ((zX data).length=32):=zAZ data;generalize zX data=dg at *;have hz:=hb1.size;clear k1;go_wp2_with fail;refine(zCS p p1 q q1 key l dg 32 _ (hr.keep hb1) rd1 hk hl (by rw[HB.out];decide) (by decide)).mono ?_;rintro e w2 ⟨u2,rfl,k2,hb2⟩;go_wp2;go_ret;exact⟨_,rfl,by rw[HE.out];exact k2.lower hz,Below.step hb1 hb2⟩
def keyB (key:List UInt8):Bool:=decide (key.length≤64)
def zDr (data:List UInt8):Bool:=decide (data.length≤500)
def zF5 (key data:List UInt8):Bool:=keyB key&&zDr data
def macC (key data:List UInt8):Int:=if zF5 key data then 0 else 2
def macL (key data:List UInt8):List UInt8:=if zF5 key data then macN key data else []
def zF6 (info:List UInt8):Bool:=decide (info.length≤300)
def expC (key info:List UInt8) (n:Int):Int:=if keyB key&&zF6 info then (if inB n 0 255 then 0 else 3) else 2
def expL (key info:List UInt8) (n:Int):List UInt8:=if keyB key&&zF6 info&&inB n 0 255 then zAx key info n.toNat else []
theorem zHF {n:Int} (h:inB n 0 255=true):∃ m:Nat,n=m∧m≤255:=by
 simp[inB] at h;exact⟨n.toNat,by omega,by omega⟩
def labL (l ctx:List UInt8) (n:Int):List UInt8:=if zAB l ctx n=0 then zAi l ctx n.toNat else []
theorem zCC {l ctx:List UInt8} {n:Int} (h:zAB l ctx n=0):zAa l=true∧ctx.length≤100∧inB n 0 255=true:=by
 unfold zAB at h;split at h
 ·rename_i h1;split at h
  ·rename_i h2;split at h
   ·rename_i h3;exact⟨h1,h2,h3⟩
   ·cases h
  ·cases h
 ·cases h
def elC (key l ctx:List UInt8) (n:Int):Int:=if keyB key then zAB l ctx n else 2
def elL (key l ctx:List UInt8) (n:Int):List UInt8:=if elC key l ctx n=0 then zAN key l ctx n.toNat else []
def dkC (key l data:List UInt8):Int:=if keyB key then (if zAa l then (if zDr data then 0 else 2) else 5) else 2
def dkL (key l data:List UInt8):List UInt8:=if keyB key&&zAa l&&zDr data then zAD key l data else []
end Go.Proofs.YtbaldmmbphbinaaGreatDoor
namespace Go.Proofs.YtbaldmmbphbinaaGreatDoor
open Go.RowKit
def zHG:List UInt8:=[100,101,114,105,118,101,100]
def zBa:List UInt8:=[101,120,112,111,114,116,101,114]
theorem zDm:(⟨#[101,120,112,111,114,116,101,114]⟩:ByteArray)=strB zBa:=rfl
def pskN (psk:List UInt8):List UInt8:=if psk.length=0 then zs 32 else psk
def zNS (psk:List UInt8):List UInt8:=zE9 [] (pskN psk)
def zNV (early shared:List UInt8):List UInt8:=zE9 (zAD early zHG []) shared
def zNK (hand:List UInt8):List UInt8:=zE9 (zAD hand zHG []) (zs 32)
def zNW (secret l digest:List UInt8):List UInt8:=zAN secret l digest 32
def zBt (exporter l ctx:List UInt8) (n:Nat):List UInt8:=zAN (zAD exporter l []) zBa (zX ctx) n
theorem zEG (key l ctx:List UInt8) (n:Nat):(zAN key l ctx n).length=n:=zD8 _ _ _
theorem zEH (key l data:List UInt8):(zAD key l data).length=32:=zEG _ _ _ _
def is32 (s:List UInt8):Bool:=decide (s.length=32)
def exC (exporter l ctx:List UInt8) (n:Int):Int:=if is32 exporter then zAB l ctx n else 1
def exL (exporter l ctx:List UInt8) (n:Int):List UInt8:=if exC exporter l ctx n=0 then zBt exporter l ctx n.toNat else []
end Go.Proofs.YtbaldmmbphbinaaGreatDoor
namespace Go.Proofs.YtbaldmmbphbinaaGreatDoor
open Go.ChangeShapes Go.WideShapes Go.ChangeAt Go.RowKit
theorem put2 (m:Nat) (h:m≤255):putB m 2=[0,UInt8.ofNat m]:=by
 show [UInt8.ofNat (m / 256 ^ 1 % 256),UInt8.ofNat (m / 256 ^ 0 % 256)]=_
 rw[show m / 256 ^ 1 % 256=0 by omega,show m / 256 ^ 0 % 256=m by simp;omega];rfl
theorem zGj (W:World) (f ctx:List UInt8) (m:Nat) (hm:m≤255) (hf:f.length≤46) (hc:ctx.length≤100) (p2:Option Addr) (q2:Nat) (hr:Rd W p2 q2 ctx):
  Calls Tryz.prog 120 #[.slice (some ⟨(zDe W f).heap.size+1+1,0,none⟩) 4 4]
   ((((zDe W f).alloc (.cells #[.int .u8 0,.int .u8 (m:Int),.int .u8 ((f.length:Int) % 256)] 5)).alloc (.cells #[.int .u8 (ctx.length:Int)] 5)).alloc (.cells #[.slice (some ⟨(zDe W f).heap.size,0,none⟩) 3 3,.slice (some ⟨W.heap.size,0,none⟩) f.length (zCJ W f),.slice (some ⟨(zDe W f).heap.size+1,0,none⟩) 1 1,.slice p2 ctx.length q2] 22))
   fun e w'=>∃ u,e=.returned u∧Own w' W.heap.size u (putB m 2++[UInt8.ofNat f.length]++f++[UInt8.ofNat ctx.length]++ctx)∧Below W.heap.size W w':=by
 have hbW:=zBG W f;have r2:=zFo W f (by unfold maxLen;omega);have r4:=hr.keep hbW;generalize zCJ W f=c2 at *;generalize zDe W f=W1 at *
 have r1:=zCQ W1 [.int .u8 0,.int .u8 (m:Int),.int .u8 ((f.length:Int) % 256)] [0,UInt8.ofNat m,UInt8.ofNat f.length] 5 3 (by
  simp only[List.map_cons,List.map_nil];rw[zH4 m (by omega),zH4 f.length (by omega),show((f.length:Int) % 256)=f.length by omega]
  rfl) rfl (by decide)
 have b1:=zA W1 (.cells #[.int .u8 0,.int .u8 (m:Int),.int .u8 ((f.length:Int) % 256)] 5);have z1:=zD W1 (.cells #[.int .u8 0,.int .u8 (m:Int),.int .u8 ((f.length:Int) % 256)] 5);replace r2:=r2.keep b1;replace r4:=r4.keep b1;have r1':Rd (W1.alloc (.cells #[.int .u8 0,.int .u8 (m:Int),.int .u8 ((f.length:Int) % 256)] 5)) (some ⟨W1.heap.size,0,none⟩) 3 [0,UInt8.ofNat m,UInt8.ofNat f.length]:=r1;replace hbW:=Below.step hbW b1;clear r1 b1;generalize W1.alloc (.cells #[.int .u8 0,.int .u8 (m:Int),.int .u8 ((f.length:Int) % 256)] 5)=W2 at *
 have r3:=zCQ W2 [.int .u8 (ctx.length:Int)] [UInt8.ofNat ctx.length] 5 1 (by
  simp only[List.map_cons,List.map_nil]
  rw[zH4 ctx.length (by omega)]) rfl (by decide)
 have b2:=zA W2 (.cells #[.int .u8 (ctx.length:Int)] 5);have z2:=zD W2 (.cells #[.int .u8 (ctx.length:Int)] 5);replace r1':=r1'.keep b2;replace r2:=r2.keep b2;replace r4:=r4.keep b2;have r3':Rd (W2.alloc (.cells #[.int .u8 (ctx.length:Int)] 5)) (some ⟨W2.heap.size,0,none⟩) 1 [UInt8.ofNat ctx.length]:=r3;replace hbW:=Below.step hbW b2;clear r3 b2;generalize W2.alloc (.cells #[.int .u8 (ctx.length:Int)] 5)=W3 at *;rw[← z1,← z2];have h:=zCh [⟨some ⟨W1.heap.size,0,none⟩,3,[0,UInt8.ofNat m,UInt8.ofNat f.length]⟩,⟨some ⟨W.heap.size,0,none⟩,c2,f⟩,⟨some ⟨W2.heap.size,0,none⟩,1,[UInt8.ofNat ctx.length]⟩,⟨p2,q2,ctx⟩] W3.heap.size 0 4 _
  (zFI W3 ⟨some ⟨W1.heap.size,0,none⟩,3,[0,UInt8.ofNat m,UInt8.ofNat f.length]⟩ ⟨some ⟨W.heap.size,0,none⟩,c2,f⟩ ⟨some ⟨W2.heap.size,0,none⟩,1,[UInt8.ofNat ctx.length]⟩ ⟨p2,q2,ctx⟩ 22 r1' r2 r3' r4)
  (by simp[flat];omega) (by simp)
 have hz:=hbW.size;refine h.mono ?_;rintro e w1 ⟨u,rfl,k,hb⟩;refine⟨u,rfl,?_,Below.step hbW (Below.res hb)⟩;rw[put2 m hm];have hk:=k.lower (B':=W.heap.size) (by rw[zD];omega)
 simpa [flat] using hk
theorem zCi (n:Int) (w:World):Calls Tryz.prog 174 #[.int .i64 n] w fun e w'=>e=.returned (.bool (inB n 0 255))∧w'=w:=by
 by_cases h0:0≤n
 ·by_cases h1:n≤255
  ·rw[zBP h0 h1];go_enter Tryz.func174,Tryz.ntmps174;go_wp2;go_ret;exact⟨rfl,rfl⟩
  ·rw[zAI (by omega)];go_enter Tryz.func174,Tryz.ntmps174;go_wp2;go_ret;exact⟨rfl,rfl⟩
 ·rw[zAI (by omega)];go_enter Tryz.func174,Tryz.ntmps174;go_wp2;go_ret;exact⟨rfl,rfl⟩
theorem zBb (l:List UInt8) (w:World) (hl:l.length≤1048576):
  Calls Tryz.prog 173 #[.string (strB l)] w fun e w'=>e=.returned (.bool (zAa l))∧w'=w:=by
 have hss:=zAt l
 by_cases hlen:inB (l.length:Int) 1 40=true
 ·have hlo:(1:Int)≤l.length:=by simp[inB] at hlen;omega
  have hhi:(l.length:Int)≤40:=by simp[inB] at hlen;omega
  have HLB:Hid (inB (l.length:Int) 1 40=true):=hlen;clear hlen;go_enter Tryz.func173,Tryz.ntmps173
  have hd1:decide ((l.length:Int)<1)=false:=by simp;omega
  have hd2:decide ((40:Int)<(l.length:Int))=false:=by simp;omega
  go_wp2;clear hd1 hd2
  go_loop [3] (fun i=>∃ j:Nat,j≤l.length∧i=.int .i64 j∧(l.take j).all zBH=true)
   (fun i=>l.length-(intOf i).toNat)
  case atStart=>exact⟨0,Nat.zero_le _,rfl,by simp⟩
  case round=>
   obtain⟨j,hj,rfl,hall⟩:=hrel
   by_cases hjl:j<l.length
   ·have hat:=zLe l j;have h0:=zDb l j;have h1:=zDc l j
    have hlt:(j:Int)<(l.length:Int):=by omega
    have HC:Hid (zBH l[j]=(decide (32≤at8 l j)&&decide (at8 l j≤126))):=zJC hjl;have HS:Hid ((l.take (j+1)).all zBH=((l.take j).all zBH&&zBH l[j])):=zFJ hjl
    have HF:Hid (zBH l[j]=false→zAa l=false):=fun h=>by rw[zDT,zGi hjl h];rfl
    generalize at8 l j=x at *;have HA:Hid ((l.take j).all zBH=true):=hall;clear hall
    by_cases hx:x<32
    ·have hlab:Hid (zAa l=false):=HF.out (by rw[HC.out];simp;omega);go_wp2;go_ret;exact⟨by rw[hlab.out];rfl,rfl⟩
    ·by_cases hx2:126<x
     ·have hlab:Hid (zAa l=false):=HF.out (by rw[HC.out];simp;omega);go_wp2;go_ret;exact⟨by rw[hlab.out];rfl,rfl⟩
     ·have hnx:Hid ((l.take (j+1)).all zBH=true):=by show _=_;rw[HS.out,HA.out,HC.out];simp;omega
      go_wp2
      go_round
      case rel=>exact⟨j+1,by omega,by go_num,hnx.out⟩
      case measure=>simp[intOf];omega
   ·have e:j=l.length:=by omega
    subst e;rw[List.take_length] at hall
    have HF:Hid (zAa l=true):=by show _=_;rw[zDT,hall,HLB.out];rfl
    clear hall;go_wp2;go_ret;exact⟨by rw[HF.out];rfl,rfl⟩
 ·have HF:Hid (zAa l=false):=by show _=_;rw[zDT];simp at hlen;rw[hlen];simp
  rw[HF.out]
  have hlen2:¬ ((1:Int)≤l.length∧(l.length:Int)≤40):=by simpa [inB] using hlen
  clear hlen
  by_cases h1:(l.length:Int)<1
  ·go_enter Tryz.func173,Tryz.ntmps173;go_wp2;go_ret;exact⟨rfl,rfl⟩
  ·have h2:(40:Int)<l.length:=by omega
   clear hlen2;go_enter Tryz.func173,Tryz.ntmps173;go_wp2;go_ret;exact⟨rfl,rfl⟩
theorem zBm (p2:Option Addr) (q2:Nat) (l ctx:List UInt8) (n:Int) (w:World) (hl:l.length≤1048576):
  Calls Tryz.prog 157 #[.string (strB l),.slice p2 ctx.length q2,.int .i64 n] w fun e w'=>e=.returned (.int .i64 (zAB l ctx n))∧w'=w:=by
 cases h1:zAa l
 ·rw[show zAB l ctx n=5 by simp[zAB,h1]];go_enter Tryz.func157,Tryz.ntmps157;go_wp2_with fail;refine(zBb l _ hl).mono ?_;rintro e w' ⟨rfl,hw⟩;subst hw;rw[h1];go_wp2;go_ret;exact⟨rfl,rfl⟩
 ·by_cases h2:ctx.length≤100
  ·cases h3:inB n 0 255
   ·rw[show zAB l ctx n=3 by simp[zAB,h1,h2,h3]];go_enter Tryz.func157,Tryz.ntmps157;go_wp2_with fail;refine(zBb l _ hl).mono ?_;rintro e w' ⟨rfl,hw⟩;subst hw;rw[h1];go_wp2_with fail;refine(zCi n _).mono ?_;rintro e w' ⟨rfl,hw⟩;subst hw;rw[h3];go_wp2;go_ret;exact⟨rfl,rfl⟩
   ·rw[show zAB l ctx n=0 by simp[zAB,h1,h2,h3]];go_enter Tryz.func157,Tryz.ntmps157;go_wp2_with fail;refine(zBb l _ hl).mono ?_;rintro e w' ⟨rfl,hw⟩;subst hw;rw[h1];go_wp2_with fail;refine(zCi n _).mono ?_;rintro e w' ⟨rfl,hw⟩;subst hw;rw[h3];go_wp2;go_ret;exact⟨rfl,rfl⟩
  ·rw[show zAB l ctx n=2 by simp[zAB,h1,h2]];go_enter Tryz.func157,Tryz.ntmps157;go_wp2_with fail;refine(zBb l _ hl).mono ?_;rintro e w' ⟨rfl,hw⟩;subst hw;rw[h1];go_wp2;go_ret;exact⟨rfl,rfl⟩
theorem zF7 (p2:Option Addr) (q2:Nat) (l ctx:List UInt8) (n:Int) (w:World) (hr2:Rd w p2 q2 ctx) (hl:l.length≤1048576):
  Calls Tryz.prog 187 #[.string (strB l),.slice p2 ctx.length q2,.int .i64 n] w fun e w'=>∃ u,e=.returned (.agg #[.int .i64 (zAB l ctx n),u])∧Own w' w.heap.size u (labL l ctx n)∧Below w.heap.size w w'∧(zAB l ctx n≠0→u=.slice none 0 0):=by
 by_cases hc:zAB l ctx n=0
 ·obtain⟨h1,h2,h3⟩:=zCC hc;have h40:=zCB h1;obtain⟨m,rfl,hm⟩:=zHF h3
  have K0:Hid (∀ w,Calls Tryz.prog 157 #[.string (strB l),.slice p2 ctx.length q2,.int .i64 (m:Int)] w fun e w'=>e=.returned (.int .i64 0)∧w'=w):=fun w=>by
   have g:=zBm p2 q2 l ctx (m:Int) w hl;rw[hc] at g;exact g
  rw[show labL l ctx (m:Int)=zAi l ctx m by simp[labL,hc],hc];have ha:=zIh (P:=Tryz.prog) zBy l (by simp[zBy];omega);rw[← zF3] at ha
  have hlf:Hid ((zBy++l).length=6+l.length):=by show _=_;simp[zBy];omega
  have hfs:(strB (zBy++l)).size=6+l.length:=by rw[zAt,hlf.out]
  have hb:=zFn (P:=Tryz.prog) (src:=9) (dst:=22) Tryz.underlying9 Tryz.underlying22 Tryz.underlying5 (zBy++l);have HE:Hid (zAi l ctx m=putB m 2++[UInt8.ofNat (6+l.length)]++(zBy++l)++[UInt8.ofNat ctx.length]++ctx):=zF4 l ctx m;generalize zBy++l=f at *;have HR:Hid (Rd w p2 q2 ctx):=hr2;clear hr2 hc;go_enter Tryz.func187,Tryz.ntmps187;go_wp2_with fail;refine(K0.out _).mono ?_;rintro e w' ⟨rfl,hw⟩;subst hw;go_wp2_with fail;have K:=zGj (w.alloc (.cells #[.int .i64 0,.slice none 0 0] 126)) f ctx m hm (by rw[hlf.out];omega) h2 p2 q2 (HR.out.keep (zA _ _));rw[zD] at K;refine K.mono ?_;rintro e w1 ⟨u,rfl,ho,hbb⟩
  have hbb':Below (w.alloc (.cells #[.int .i64 0,.slice none 0 0] 126)).heap.size (w.alloc (.cells #[.int .i64 0,.slice none 0 0] 126)) w1:=by rw[zD];exact hbb
  obtain⟨hd,hf⟩:=zHu hbb;rw[hlf.out,← HE.out] at ho;obtain⟨a,cap,rfl,-⟩:=ho.rd;have hres:=Below.res hbb';clear hbb hbb' K ha hb;go_wp2;refine bodyPost_ret (v:=.agg #[.int .i64 0,.slice a (zAi l ctx m).length cap]) (by simp[results,Tryz.results187,go_sem,hd]) rfl ⟨_,rfl,?_,(hres.setCell (Nat.le_refl _) _).setCell (Nat.le_refl _) _,fun h=>absurd rfl h⟩;exact((ho.set (Nat.lt_succ_self _) _).set (Nat.lt_succ_self _) _).lower (Nat.le_succ _)
 ·rw[show labL l ctx n=[] by simp[labL,hc]]
  have K0:Hid (∀ w,Calls Tryz.prog 157 #[.string (strB l),.slice p2 ctx.length q2,.int .i64 n] w fun e w'=>e=.returned (.int .i64 (zAB l ctx n))∧w'=w):=fun w=>zBm p2 q2 l ctx n w hl
  generalize zAB l ctx n=c at *
  have cz1:(c != 0)=true:=by rw[bne_iff_ne];exact hc
  clear hc;go_enter Tryz.func187,Tryz.ntmps187;go_wp2_with fail;refine(K0.out _).mono ?_;rintro e w' ⟨rfl,hw⟩;subst hw;go_wp2;exact bodyPost_ret (v:=.agg #[.int .i64 c,.slice none 0 0]) (by simp[results,Tryz.results187,go_sem]) rfl ⟨_,rfl,zAA _ _,(zA _ _),fun _=>rfl⟩
theorem zJD (p2:Option Addr) (q2:Nat) (l ctx:List UInt8) (n:Int) (w:World) (hr2:Rd w p2 q2 ctx) (hl:l.length≤1048576):
  Calls Tryz.prog 187 #[.string (strB l),.slice p2 ctx.length q2,.int .i64 n] w fun e w'=>∃ u,e=.returned (.agg #[.int .i64 (zAB l ctx n),u])∧Own w' w.heap.size u (labL l ctx n)∧Below w.heap.size w w':=
 (zF7 p2 q2 l ctx n w hr2 hl).mono fun _ _ ⟨u,h1,h2,h3,_⟩=>⟨u,h1,h2,h3⟩
end Go.Proofs.YtbaldmmbphbinaaGreatDoor
