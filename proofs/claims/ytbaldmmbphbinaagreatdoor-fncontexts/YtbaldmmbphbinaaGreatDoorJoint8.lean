import Derived.Test.YtbaldmmbphbinaaGreatDoorRows
import Derived.Test.YtbaldmmbphbinaaGreatDoorJoint1
import Derived.ProofKit
import Derived.OpenShut
import Derived.Deep.QuietTactic
import Derived.BigQuiet
import Derived.Test.YtbaldmmbphbinaaGreatDoorJoint2
import Derived.Test.YtbaldmmbphbinaaGreatDoorJoint3
import Derived.Test.YtbaldmmbphbinaaGreatDoorJoint5
import Derived.Deep.RegionWith
import Derived.Test.YtbaldmmbphbinaaGreatDoorJoint4
set_option maxHeartbeats 2000000
set_option maxRecDepth 4000
namespace Go.Proofs.YtbaldmmbphbinaaGreatDoor
open Go.ChangeShapes Go.WideShapes Go.ChangeAt Go.RowKit
theorem zIp (a:Option Addr) (n cap:Nat) (w:World) (h:1048576<n):
  Calls Tryz.prog 4 #[.slice a n cap] w fun e w'=>e=.returned (.bool true)∧w'=w:=by
 have h':(1048576:Int)<(n:Int):=by omega
 go_enter Tryz.func4,Tryz.ntmps4;go_wp2;go_ret;exact⟨rfl,rfl⟩
theorem zKA (a:Option Addr) (n cap:Nat) (w:World) (h:n≤1048576):
  Calls Tryz.prog 4 #[.slice a n cap] w fun e w'=>e=.returned (.bool false)∧w'=w:=by
 have h':(n:Int)≤1048576:=by omega
 go_enter Tryz.func4,Tryz.ntmps4;go_wp2;go_ret;refine⟨?_,rfl⟩
 show Ending.returned (.bool (decide _))=_
 rw[decide_eq_false (by omega)]
theorem zDq:(Tryz.prog.info? 5).map (fun i=>(i.zero,i.size,i.bytes))=some (some (.int .u8 0),1,1):=by kernel_rfl
def zNR (bs:List UInt8):Int:=if bs.length=4 then 0 else 1
def zNU (bs:List UInt8):Int:=if bs.length=4 then (getB bs:Nat) else 0
theorem zIq (a:Option Addr) (cap:Nat) (bs:List UInt8) (w:World) (hr:Rd w a cap bs) (hl:bs.length≤7):
  Calls Tryz.prog 107 #[.slice a bs.length cap] w fun e w'=>e=.returned (.int .i64 (getB bs:Nat))∧w'=w:=by
 go_enter Tryz.func107,Tryz.ntmps107;go_wp2
 go_loop [3,4] (fun q i=>∃ k:Nat,k≤bs.length∧i=.int .i64 k∧q=.int .i64 (getB (bs.take k):Nat))
  (fun _ i=>bs.length-(intOf i).toNat)
 case atStart=>exact⟨0,Nat.zero_le _,rfl,by simp[getB]⟩
 case round=>
  obtain⟨k,hk,rfl,rfl⟩:=hrel
  by_cases hlt:k<bs.length
  ·obtain⟨b,o,rfl,hc⟩:=hr.2.2.2 (by omega);have hcx:=hc k hlt;have HG:Hid (((getB (bs.take (k+1)):Nat):Int)=(getB (bs.take k):Int)*256+at8 bs k):=zIa bs k hlt
   have hg1:(getB (bs.take k):Int)≤281474976710656:=by
    have:=Nat.lt_of_lt_of_le (zGa (bs.take k)) (Nat.pow_le_pow_right (by decide) (show(bs.take k).length≤6 by have:=List.length_take_le k bs;omega));omega
   have h0:=zDb bs k;have h1:=zDc bs k;generalize getB (bs.take k)=m at *;generalize at8 bs k=b8 at *;clear hc hr;go_wp2
   go_round
   case rel=>exact⟨k+1,by omega,by go_num,by rw[HG.out]⟩
   case measure=>simp[intOf];omega
  ·have e:k=bs.length:=by omega
   subst e;rw[List.take_length];go_wp2;go_ret;exact⟨rfl,rfl⟩
theorem zLi (a:Option Addr) (cap n:Nat) (bs:List UInt8) (w:World) (hr:Rd w a cap bs) (hn:bs.length=n) (hl:n≤7):
  Calls Tryz.prog 107 #[.slice a n cap] w fun e w'=>e=.returned (.int .i64 (getB bs:Nat))∧w'=w:=by
 subst hn;exact zIq a cap bs w hr hl
theorem zGd (v n:Nat) (w:World) (hv:v<4611686018427387904) (hn:n≤1048576):
  Calls Tryz.prog 90 #[.int .i64 v,.int .i64 n] w fun e w'=>∃ u,e=.returned u∧Own w' w.heap.size u (putB v n)∧Below w.heap.size w w':=by
 obtain⟨i0,hi,hz0,hz1,hz2⟩:=info_parts zDq
 have hm:n≤maxLen:=by unfold maxLen;omega
 go_enter Tryz.func90,Tryz.ntmps90
 go_wp2_with (first
  | (at_make;refine wpList_make_full _ rfl (.tmp 7) (.tmp 7) 22 rfl w.heap.size 5 i0 (.int .u8 0) 1 Tryz.underlying22 hi hz0 hz1 .i64 .i64 _ _ n rfl rfl rfl rfl (by rw[hz2];omega) hm (Nat.le_refl _) ?_;intro w1 hown hgrow)
  | go_in)
 rw[zCo,← zGZ v n] at hown;have hb1:Below w.heap.size w w1:=(Below.refl _ _).grown hgrow (Nat.le_refl _) (fun k hk=>by simp at hk);clear hgrow hz0 hz1 hz2 hi
 go_loopw [0,6] (fun q i wr=>∃ k:Nat,k≤n∧i=.int .i64 ((n:Int)-1-k)∧q=.int .i64 ((v / 256 ^ k:Nat):Int)∧wr.ownsRow w.heap.size 5 1 (.slice (some ⟨w.heap.size,0,none⟩) n n) n (zBh v n k)∧Below w.heap.size w wr)
  (fun _ i _=>(intOf i+1).toNat)
 case atStart=>exact⟨0,Nat.zero_le _,by simp,by simp,hown,hb1⟩
 case round=>
  obtain⟨k,hk,rfl,rfl,hown,hbel⟩:=hrel
  by_cases hlt:k<n
  ·have hcy:wr.cell? ⟨w.heap.size,n-1-k,none⟩=some (.int .u8 0):=by rw[World.ownsRow.cellAt hown (n-1-k) (by omega),zIZ v n k hlt]
   have hfy:wr.frozen? ⟨w.heap.size,n-1-k,none⟩=false:=World.ownsRow.frozenAt hown _;have hvk:v / 256 ^ k≤v:=Nat.div_le_self _ _
   have HV:Hid (v / 256 ^ (k+1)=v / 256 ^ k / 256):=by show _=_;rw[Nat.pow_succ,Nat.div_div_eq_div_mul]
   have R:=World.ownsRow.stored hown (n-1-k) (.int .u8 ((v / 256 ^ k % 256:Nat):Int));rw[zEh v n k hlt] at R;generalize v / 256 ^ k=q at *;rw[show((q % 256:Nat):Int)=(q:Int) % 256 by omega] at R
   have hix:((n:Int)-1-k).toNat=n-1-k:=by omega
   have hge:(0:Int)≤(n:Int)-1-k:=by omega
   have hlt2:(n:Int)-1-k<n:=by omega
   have hq1:(q:Int)≤4611686018427387904:=by omega
   have RB:Below w.heap.size w (wr.setCell ⟨w.heap.size,n-1-k,none⟩ (.int .u8 ((q:Int) % 256))):=hbel.setCell (Nat.le_refl _) _;clear hown hvk hv;go_wp2;go_roundw
   case rel=>exact⟨k+1,by omega,by go_num,by rw[HV.out];go_num,R.1,RB⟩
   case measure=>simp[intOf];omega
  ·have e:k=n:=by omega
   subst e;rw[zHv] at hown;go_wp2;go_ret;refine⟨_,rfl,?_,hbel⟩;unfold Own;rw[zZ];exact hown
theorem zGe (v n:Int) (w:World) (h0:0≤v) (hv:v<4611686018427387904) (h1:0≤n) (hn:n≤1048576):
  Calls Tryz.prog 90 #[.int .i64 v,.int .i64 n] w fun e w'=>∃ u,e=.returned u∧Own w' w.heap.size u (putB v.toNat n.toNat)∧Below w.heap.size w w':=by
 obtain⟨v,rfl⟩:=Int.eq_ofNat_of_zero_le h0;obtain⟨n,rfl⟩:=Int.eq_ofNat_of_zero_le h1;rw[Int.toNat_natCast,Int.toNat_natCast];exact zGd v n w (by omega) (by omega)
theorem zAA (w:World) (B:Nat):Own w B (.slice none 0 0) []:=World.ownsRow_nil _ _ _ _
def zAb (a b:List UInt8):Bool:=a==b
theorem zDv (a b:Option Addr) (ca cb:Nat) (xs bs:List UInt8) (w:World) (hra:Rd w a ca xs) (hrb:Rd w b cb bs):
  Calls Tryz.prog 57 #[.slice a xs.length ca,.slice b bs.length cb] w fun e w'=>e=.returned (.bool (zAb xs bs))∧w'=w:=by
 have e1:=zFA (P:=Tryz.prog) hra (src:=22) (dst:=9) (e:=5) Tryz.underlying22 Tryz.underlying5 Tryz.underlying9;have e2:=zFA (P:=Tryz.prog) hrb (src:=22) (dst:=9) (e:=5) Tryz.underlying22 Tryz.underlying5 Tryz.underlying9;go_enter Tryz.func57,Tryz.ntmps57;go_wp2;go_ret;rw[zC3,zC3];exact⟨rfl,rfl⟩
theorem zFu (a b:Option Addr) (ca cb:Nat) (xs bs:List UInt8) (w:World) (hra:Rd w a ca xs) (hrb:Rd w b cb bs):
  Calls Tryz.prog 103 #[.slice a xs.length ca,.slice b bs.length cb] w fun e w'=>e=.returned (.bool (zAb xs bs))∧w'=w:=by
 have e1:=zFA (P:=Tryz.prog) hra (src:=22) (dst:=9) (e:=5) Tryz.underlying22 Tryz.underlying5 Tryz.underlying9;have e2:=zFA (P:=Tryz.prog) hrb (src:=22) (dst:=9) (e:=5) Tryz.underlying22 Tryz.underlying5 Tryz.underlying9;go_enter Tryz.func103,Tryz.ntmps103;go_wp2;go_ret;rw[zC3,zC3];exact⟨rfl,rfl⟩
theorem zDO (a b:Option Addr) (ca cb:Nat) (xs bs:List UInt8) (w:World) (hra:Rd w a ca xs) (hrb:Rd w b cb bs):
  Calls Tryz.prog 81 #[.slice a xs.length ca,.slice b bs.length cb] w fun e w'=>e=.returned (.bool (zAb xs bs))∧Below w.heap.size w w':=by
 go_enter Tryz.func81,Tryz.ntmps81;go_wp2_with fail;refine(zFu a b ca cb xs bs _ hra hrb).mono ?_;rintro e w1 ⟨rfl,rfl⟩;go_wp2;go_ret;exact⟨rfl,Below.refl _ _⟩
theorem zEo (p:Option Addr) (q:Nat) (cs:List UInt8) (w:World) (hr:Rd w p q cs):
  Calls Tryz.prog 13 #[.slice p cs.length q] w fun e w'=>e=.returned (.pointer (some ⟨w.heap.size,0,none⟩))∧Src w' w.heap.size p q cs 0∧Below w.heap.size w w'∧w.heap.size<w'.heap.size:=by
 go_enter Tryz.func13,Tryz.ntmps13;go_wp2;go_ret;refine⟨rfl,⟨Loc.new _ _ _,hr.keep (zA _ _),fun hp x hx=>?_⟩,zA _ _,by simp⟩;obtain⟨b,o,rfl,hc⟩:=hr.2.2.2 hp;simp only[Option.some.injEq] at hx;subst hx;exact World.block_lt_of_cell? w _ (hc 0 hp)
theorem zV (b:Nat) (p:Option Addr) (q:Nat) (cs:List UInt8) (t n:Int) (w:World) (hs:Src w b p q cs t) (ht:0≤t) (ht2:t≤1000000000) (hn:1≤n) (hn2:n≤4611686018427387904):
  Calls Tryz.prog 32 #[.pointer (some ⟨b,0,none⟩),.int .i64 n] w fun e w'=>∃ r:Int,e=.returned (.int .i64 r)∧0≤r∧r<n∧Src w' b p q cs (t+1)∧w.grownBy w' (some b):=by
 have c0:=hs.loc.1 0 _ rfl;have c1:=hs.loc.1 1 _ rfl;have hf:=hs.loc.2;have hnx:=hs.next (t+1);have hgr:=zAM w b 1 (.int .i64 (t+1));have e1:(w.setCell ⟨b,1,none⟩ (.int .i64 (t+1))).cell? ⟨b,1,none⟩=some (.int .i64 (t+1)):=hnx.loc.1 1 _ rfl;have e0:(w.setCell ⟨b,1,none⟩ (.int .i64 (t+1))).cell? ⟨b,0,none⟩=some (.slice p cs.length q):=hnx.loc.1 0 _ rfl
 by_cases hk:cs.length=0
 ·have hkb:((cs.length:Int)==0)=true:=by rw[beq_iff_eq];omega
  clear hk;go_enter Tryz.func32,Tryz.ntmps32;go_wp2;go_ret;exact⟨_,rfl,Int.emod_nonneg _ (by omega),Int.emod_lt_of_pos _ (by omega),hnx,hgr⟩
 ·have hkb:((cs.length:Int)==0)=false:=by rw[beq_eq_false_iff_ne];omega
  have hkp:(0:Int)<(cs.length:Int):=by omega
  obtain⟨pb,po,rfl,hc⟩:=hnx.rd.2.2.2 (by omega);have hm0:=Int.emod_nonneg t (show(cs.length:Int)≠0 by omega);have hm1:=Int.emod_lt_of_pos t hkp;have hd0:=Int.ediv_nonneg ht (Int.le_of_lt hkp);have hd1:t / (cs.length:Int)≤t:=Int.ediv_le_self _ ht;have hm2:=Int.emod_nonneg (t+1) (show(cs.length:Int)≠0 by omega);have hm3:=Int.emod_lt_of_pos (t+1) hkp;have f1:=hc (t % (cs.length:Int)).toNat (by omega);have f2:=hc ((t+1) % (cs.length:Int)).toNat (by omega);have g0:=zDb cs (t % (cs.length:Int)).toNat;have g1:=zDc cs (t % (cs.length:Int)).toNat;have g2:=zDb cs ((t+1) % (cs.length:Int)).toNat;have g3:=zDc cs ((t+1) % (cs.length:Int)).toNat;clear hc
  by_cases h2:200<n
  ·go_enter Tryz.func32,Tryz.ntmps32;go_wp2
   go_quiet (fail)
   go_wp2
   go_quiet (fail)
   go_wp2;go_ret;exact⟨_,rfl,Int.emod_nonneg _ (by omega),Int.emod_lt_of_pos _ (by omega),hnx.drewN _,zB hgr (zF _ _ _)⟩
  ·go_enter Tryz.func32,Tryz.ntmps32;go_wp2
   go_quiet (fail)
   go_wp2;go_ret;exact⟨_,rfl,Int.emod_nonneg _ (by omega),Int.emod_lt_of_pos _ (by omega),hnx.drewN _,zB hgr (zF _ _ _)⟩
theorem Src.other {w w':World} {b:Nat} {p:Option Addr} {q:Nat} {cs:List UInt8} {n:Int} {row:Option Nat} (h:Src w b p q cs n) (hg:w.grownBy w' row) (hne:∀ k,row=some k→b<k):Src w' b p q cs n:=
 ⟨h.loc.other hg (fun e=>by have:=hne b e;omega),h.rd.other hg (fun hp y hy e=>by have h1:=h.apart hp y hy;have h2:=hne _ e;omega),h.apart⟩
theorem zAc (b:Nat) (p:Option Addr) (q:Nat) (cs:List UInt8) (t:Int) (g:Nat) (xs:List Int) (m:Nat) (w:World) (hs:Src w b p q cs t) (ht:0≤t) (ht2:t≤1000000000) (hm:xs.length=m) (hx0:0<m) (hx1:m≤1000)
  (hg:b≠g) (hx:∀ i,i<m→w.cell? ⟨g,i,none⟩=some (.int .i64 (xs.getD i 0))):
  Calls Tryz.prog 28 #[.pointer (some ⟨b,0,none⟩),.slice (some ⟨g,0,none⟩) m m] w fun e w'=>∃ r:Int,r∈xs∧e=.returned (.int .i64 r)∧Src w' b p q cs (t+1)∧w.grownBy w' (some b):=by
 go_enter Tryz.func28,Tryz.ntmps28;go_wp2_with fail;refine(zV b p q cs t m w hs ht ht2 (by omega) (by omega)).mono ?_;rintro e w1 ⟨r,rfl,hr0,hr1,hs1,hg1⟩
 have hi:r.toNat<xs.length:=by omega
 have hc:w1.cell? ⟨g,r.toNat,none⟩=some (.int .i64 (xs.getD r.toNat 0)):=zR (hx r.toNat (by omega)) hg1 (fun e=>hg (by simpa using e))
 have hmem:Hid (xs.getD r.toNat 0∈xs):=by show _∈_;simp[hi]
 generalize xs.getD r.toNat 0=y at *;go_wp2;go_ret;exact⟨y,hmem.out,rfl,hs1,hg1⟩
theorem zAp {a b:Nat} (ha:a<4294967296) (hb:b<4294967296):bits .xor .i64 (a:Int) (b:Int)=((a ^^^ b:Nat):Int):=zGX a b (by omega) (by omega)
theorem zCO {a b:Nat} (ha:a<4294967296) (hb:b<4294967296):bits .and .i64 (a:Int) (b:Int)=((a &&& b:Nat):Int):=zGY a b (by omega) (by omega)
theorem zBD (v n:Nat) (m:Int) (hm:m=n) (w:World) (h2:v<4294967296) (h3:1≤n) (h4:n≤31):
  Calls Tryz.prog 108 #[.int .i64 v,.int .i64 m] w fun e w'=>e=.returned (.int .i64 (rotN v n:Nat))∧w'=w:=by
 subst hm;exact zJ8 v n w h2 h3 h4
theorem zIr (a b c d e f g h word key:Nat) (w:World) (ha:a<4294967296) (hb:b<4294967296) (hc:c<4294967296) (hd:d<4294967296) (he:e<4294967296) (hf:f<4294967296) (hg:g<4294967296) (hh:h<4294967296) (hw:word<4294967296) (hk:key<4294967296):
  Calls Tryz.prog 89 #[.agg #[.int .i64 a,.int .i64 b,.int .i64 c,.int .i64 d,.int .i64 e,.int .i64 f,.int .i64 g,.int .i64 h],.int .i64 word,.int .i64 key] w fun r w'=>r=.returned (.agg (zBM ⟨a,b,c,d,e,f,g,h⟩ word key).i64)∧Below w.heap.size w w':=by
 have x1:=zAp (zW e 6 he (by decide)) (zW e 11 he (by decide));have x2:bits .xor .i64 _ _=((rot3 e 6 11 25:Nat):Int):=zAp (zAY (zW e 6 he (by decide)) (zW e 11 he (by decide))) (zW e 25 he (by decide));have y1:=zAp (zW a 2 ha (by decide)) (zW a 13 ha (by decide));have y2:bits .xor .i64 _ _=((rot3 a 2 13 22:Nat):Int):=zAp (zAY (zW a 2 ha (by decide)) (zW a 13 ha (by decide))) (zW a 22 ha (by decide));have z1:=zCO he hf
 have z2:bits .and .i64 (4294967295-(e:Int)) (g:Int)=(((4294967295-e) &&& g:Nat):Int):=by
  rw[show 4294967295-(e:Int)=((4294967295-e:Nat):Int) by omega];exact zCO (by omega) hg
 have z3:bits .xor .i64 ((e &&& f:Nat):Int) (((4294967295-e) &&& g:Nat):Int)=((chN e f g:Nat):Int):=zAp (zAF he) (zAF (by omega));have m1:=zCO ha hb;have m2:=zCO ha hc;have m3:=zCO hb hc;have m4:=zAp (zAF (b:=b) ha) (zAF (b:=c) ha);have m5:bits .xor .i64 (((a &&& b) ^^^ (a &&& c):Nat):Int) ((b &&& c:Nat):Int)=((majN a b c:Nat):Int):=zAp (zAY (zAF ha) (zAF ha)) (zAF hb)
 have b1:((rot3 e 6 11 25:Nat):Int)≤4294967295:=by have:=zId (i:=6) (j:=11) (k:=25) he (by decide) (by decide) (by decide);omega
 have b2:((rot3 a 2 13 22:Nat):Int)≤4294967295:=by have:=zId (i:=2) (j:=13) (k:=22) ha (by decide) (by decide) (by decide);omega
 have b3:((chN e f g:Nat):Int)≤4294967295:=by have:=zMd (f:=f) (g:=g) he;omega
 have b4:((majN a b c:Nat):Int)≤4294967295:=by have:=zLb (c:=c) ha hb;omega
 go_enter Tryz.func89,Tryz.ntmps89;go_wp2_with fail;refine(zBD e 6 _ rfl _ he (by decide) (by decide)).mono ?_;rintro r w' ⟨rfl,rfl⟩;go_wp2_with fail;refine(zBD e 11 _ rfl _ he (by decide) (by decide)).mono ?_;rintro r w' ⟨rfl,rfl⟩;go_wp2_with fail;refine(zBD e 25 _ rfl _ he (by decide) (by decide)).mono ?_;rintro r w' ⟨rfl,rfl⟩;go_wp2_with fail;refine(zBD a 2 _ rfl _ ha (by decide) (by decide)).mono ?_;rintro r w' ⟨rfl,rfl⟩;go_wp2_with fail;refine(zBD a 13 _ rfl _ ha (by decide) (by decide)).mono ?_;rintro r w' ⟨rfl,rfl⟩;go_wp2_with fail;refine(zBD a 22 _ rfl _ ha (by decide) (by decide)).mono ?_;rintro r w' ⟨rfl,rfl⟩;go_wp2
 have E1:(((h:Int)+(rot3 e 6 11 25:Nat)+(chN e f g:Nat)+key+word+((rot3 a 2 13 22:Nat)+(majN a b c:Nat))) % 4294967296)=(((t1N ⟨a,b,c,d,e,f,g,h⟩ word key+t2N ⟨a,b,c,d,e,f,g,h⟩) % 4294967296:Nat):Int):=by simp only[t1N,t2N];omega
 have E2:(((d:Int)+(h+(rot3 e 6 11 25:Nat)+(chN e f g:Nat)+key+word)) % 4294967296)=(((d+t1N ⟨a,b,c,d,e,f,g,h⟩ word key) % 4294967296:Nat):Int):=by simp only[t1N];omega
 rw[E1,E2];exact bodyPost_ret (v:=.agg (zBM ⟨a,b,c,d,e,f,g,h⟩ word key).i64) (by simp[results,Tryz.results89,go_sem];rfl) rfl ⟨rfl,Below.mk (zA _ _) _⟩
theorem zEa (x i j k:Nat) (w:World) (hx:x<4294967296) (hi:i≤31) (hj:j≤31) (hk:k≤31):
  Calls Tryz.prog 182 #[.int .u32 x,.int .i64 i,.int .i64 j,.int .i64 k] w fun e w'=>e=.returned (.int .u32 (rot3 x i j k:Nat))∧w'=w:=by
 have x1:=u32_xor_nat _ _ (zW x i hx (by omega)) (zW x j hx (by omega));have x2:bits .xor .u32 _ _=((rot3 x i j k:Nat):Int):=u32_xor_nat _ _ (zAY (zW x i hx (by omega)) (zW x j hx (by omega))) (zW x k hx (by omega));go_enter Tryz.func182,Tryz.ntmps182;go_wp2_with fail;refine(zBX x i _ hx hi).mono ?_;rintro r w' ⟨rfl,rfl⟩;go_wp2_with fail;refine(zBX x j _ hx hj).mono ?_;rintro r w' ⟨rfl,rfl⟩;go_wp2_with fail;refine(zBX x k _ hx hk).mono ?_;rintro r w' ⟨rfl,rfl⟩;go_wp2;go_ret;exact⟨rfl,rfl⟩
theorem zCq (x i j k:Nat) (m n o:Int) (hm:m=i) (hn:n=j) (ho:o=k) (w:World) (hx:x<4294967296) (hi:i≤31) (hj:j≤31) (hk:k≤31):
  Calls Tryz.prog 182 #[.int .u32 x,.int .i64 m,.int .i64 n,.int .i64 o] w fun e w'=>e=.returned (.int .u32 (rot3 x i j k:Nat))∧w'=w:=by
 subst hm hn ho;exact zEa x i j k w hx hi hj hk
theorem zFF (x i j k:Nat) (w:World) (hx:x<4294967296) (hi:i≤31) (hj:j≤31) (hk:k≤31):
  Calls Tryz.prog 181 #[.int .u32 x,.int .i64 i,.int .i64 j,.int .i64 k] w fun e w'=>e=.returned (.int .u32 (sh2 x i j k:Nat))∧∃ n,w'=w.drewN n:=by
 have x1:=u32_xor_nat _ _ (zW x i hx (by omega)) (zW x j hx (by omega))
 have x2:bits .xor .u32 ((rotN x i ^^^ rotN x j:Nat):Int) ((x:Int) / 2 ^ k)=((sh2 x i j k:Nat):Int):=by
  rw[show((x:Int) / 2 ^ k)=((x / 2 ^ k:Nat):Int) by push_cast;rfl];exact u32_xor_nat _ _ (zAY (zW x i hx (by omega)) (zW x j hx (by omega))) (Nat.lt_of_le_of_lt (Nat.div_le_self x (2 ^ k)) hx)
 go_enter Tryz.func181,Tryz.ntmps181;go_wp2
 go_quiet ((first | (go_at_call_of 189 (Value.int .i64 (i:Int));exact Calls.quiet_of_same (zBX x i _ hx hi)) | (go_at_call_of 189 (Value.int .i64 (j:Int));exact Calls.quiet_of_same (zBX x j _ hx hj))))
 go_wp2;go_ret;exact⟨rfl,_,rfl⟩
theorem zNH (e:Nat) (h:e<4294967296):bits .xor .u32 IntKind.u32.max (e:Int)=((4294967295-e:Nat):Int):=by
 have h1:IntKind.u32.max=((4294967295:Nat):Int):=by decide
 rw[h1,u32_xor_nat _ _ (by decide) h]
 congr 1
 have h2:(BitVec.allOnes 32 ^^^ BitVec.ofNat 32 e).toNat=4294967295 ^^^ e:=by
  rw[BitVec.toNat_xor,BitVec.toNat_allOnes,BitVec.toNat_ofNat,Nat.mod_eq_of_lt (by omega)]
 rw[← h2,BitVec.allOnes_xor,BitVec.toNat_not,BitVec.toNat_ofNat,Nat.mod_eq_of_lt (by omega)]
theorem zLj (a b c d e f g q word key:Nat) (w:World) (ha:a<4294967296) (hb:b<4294967296) (hc:c<4294967296) (he:e<4294967296) (hf:f<4294967296) (hg:g<4294967296):
  Calls Tryz.prog 164 #[.agg #[.int .u32 a,.int .u32 b,.int .u32 c,.int .u32 d,.int .u32 e,.int .u32 f,.int .u32 g,.int .u32 q],.int .u32 word,.int .u32 key] w fun r w'=>r=.returned (.agg (zBM ⟨a,b,c,d,e,f,g,q⟩ word key).u32)∧Below w.heap.size w w':=by
 have z1:=u32_and_nat _ _ he hf;have z2:=u32_and_nat (4294967295-e) g (by omega) hg;have z3:bits .xor .u32 ((e &&& f:Nat):Int) (((4294967295-e) &&& g:Nat):Int)=((chN e f g:Nat):Int):=u32_xor_nat _ _ (zAF he) (zAF (by omega));have m1:=u32_and_nat _ _ ha hb;have m2:=u32_and_nat _ _ ha hc;have m3:=u32_and_nat _ _ hb hc;have m4:=u32_xor_nat _ _ (zAF (b:=b) ha) (zAF (b:=c) ha);have m5:bits .xor .u32 (((a &&& b) ^^^ (a &&& c):Nat):Int) ((b &&& c:Nat):Int)=((majN a b c:Nat):Int):=u32_xor_nat _ _ (zAY (zAF ha) (zAF ha)) (zAF hb);have n1:=zNH e he;go_enter Tryz.func164,Tryz.ntmps164;go_wp2
 go_quiet (fail)
 go_wp2_with fail;refine zEA (by kernel_rfl) (by kernel_rfl) ?_
 repeat (go_big_quiet_step ((go_at_call 182;exact Calls.quiet_of_same (zCq e 6 11 25 _ _ _ rfl rfl rfl _ he (by decide) (by decide) (by decide)))))
 refine wpQuiet_nil ?_;rintro _ ⟨nr,rfl⟩;go_wp2_with fail;refine(zCq a 2 13 22 _ _ _ rfl rfl rfl _ ha (by decide) (by decide) (by decide)).mono ?_;rintro r w' ⟨rfl,rfl⟩;go_wp2
 have E1:(((q:Int)+(rot3 e 6 11 25:Nat)+(chN e f g:Nat)+key+word+((rot3 a 2 13 22:Nat)+(majN a b c:Nat))) % 4294967296)=(((t1N ⟨a,b,c,d,e,f,g,q⟩ word key+t2N ⟨a,b,c,d,e,f,g,q⟩) % 4294967296:Nat):Int):=by simp only[t1N,t2N];omega
 have E2:(((d:Int)+(q+(rot3 e 6 11 25:Nat)+(chN e f g:Nat)+key+word)) % 4294967296)=(((d+t1N ⟨a,b,c,d,e,f,g,q⟩ word key) % 4294967296:Nat):Int):=by simp only[t1N];omega
 rw[E1,E2];exact bodyPost_ret (v:=.agg (zBM ⟨a,b,c,d,e,f,g,q⟩ word key).u32) (by simp[results,Tryz.results164,go_sem];rfl) rfl ⟨rfl,((((((((below_drewN (Below.mk (zA _ _) _) _).setCell (Nat.le_succ _) _).setCell (Nat.le_succ _) _).setCell (Nat.le_succ _) _).setCell (Nat.le_succ _) _).setCell (Nat.le_succ _) _).setCell (Nat.le_succ _) _).setCell (Nat.le_succ _) _).setCell (Nat.le_succ _) _⟩
theorem Arr.only {w w':World} {g:Nat} {t:TypeId} {vs:List Value} {fp:List Nat} (h:Arr w g t vs) (ho:Only fp w w') (hn:g∉fp):Arr w' g t vs:=(ho.block g h.lt hn).trans h
theorem Cod.set {α:Type} (c:Cod α) {w:World} {B:Nat} {a:α} {us:List Value} {fp:List Nat} (h:c.own w B a us fp) {p:Addr} (hp:p.block<B) (u:Value):c.own (w.setCell p u) B a us fp:=
 c.fr h fun k hk=>heap_setCell_other _ _ k _ (by have:=(c.ins h k hk).1;omega)
theorem zIs {w:World} {B:Nat} {z:Int} {k:IntKind}:(intC k).own w B z [.int k z] []:=⟨rfl,rfl⟩
abbrev zH:=Int×Int×Int
def certC:Cod zH:=zCs (intC .i64) (zCs (intC .i64) (intC .i64))
theorem zBk {w:World} {a:zH} {vs:List Value} (h:certC.rep w a vs):vs=[.int .i64 a.1,.int .i64 a.2.1,.int .i64 a.2.2]:=by
 obtain⟨us0,ts0,rfl,h0,us1,ts1,rfl,h1,h2⟩:=h;have e0:us0=[Value.int .i64 _]:=h0;have e1:us1=[Value.int .i64 _]:=h1;have e2:ts1=[Value.int .i64 _]:=h2;rw[e0,e1,e2];rfl
theorem zLk {w:World} {a:zH}:certC.rep w a [.int .i64 a.1,.int .i64 a.2.1,.int .i64 a.2.2]:=⟨[_],_,rfl,rfl,[_],_,rfl,rfl,rfl⟩
theorem zDw {w:World} {B:Nat} {a:zH}:certC.own w B a [.int .i64 a.1,.int .i64 a.2.1,.int .i64 a.2.2] []:=⟨[_],_,[],[],rfl,rfl,List.nodup_nil,⟨rfl,rfl⟩,[_],_,[],[],rfl,rfl,List.nodup_nil,⟨rfl,rfl⟩,rfl,rfl⟩
theorem zFG:(Tryz.prog.info? 62).map (fun i=>(i.zero,i.size,i.bytes))=some (some (.agg #[.int .i64 0,.int .i64 0,.int .i64 0]),3,24):=by kernel_rfl
abbrev zO:=Int×Int×List UInt8
def signC:Cod zO:=zCs (intC .i64) (zCs (intC .i64) bytC)
theorem zDx {w:World} {a:zO} {vs:List Value} (h:signC.rep w a vs):∃ p3 q3,vs=[.int .i64 a.1,.int .i64 a.2.1,.slice p3 a.2.2.length q3]∧Rd w p3 q3 a.2.2:=by
 obtain⟨us0,ts0,rfl,h0,us1,ts1,rfl,h1,h2⟩:=h;have e0:us0=[Value.int .i64 _]:=h0;subst e0;have e1:us1=[Value.int .i64 _]:=h1;subst e1;obtain⟨p3,q3,rfl,r3⟩:=h2;exact⟨p3,q3,rfl,r3⟩
abbrev zAq:=List UInt8×zH×Int×List UInt8
def authC:Cod zAq:=zCs bytC (zCs certC (zCs (intC .i64) bytC))
theorem zDy {w:World} {a:zAq} {vs:List Value} (h:authC.rep w a vs):∃ p1 q1 p4 q4,vs=[.slice p1 a.1.length q1,.int .i64 a.2.1.1,.int .i64 a.2.1.2.1,.int .i64 a.2.1.2.2,.int .i64 a.2.2.1,.slice p4 a.2.2.2.length q4]∧Rd w p1 q1 a.1∧Rd w p4 q4 a.2.2.2:=by
 obtain⟨us0,ts0,rfl,h0,us1,ts1,rfl,h1,us2,ts2,rfl,h2,h3⟩:=h;obtain⟨p1,q1,rfl,r1⟩:=h0;have e1:=zBk h1;subst e1;have e2:us2=[Value.int .i64 _]:=h2;subst e2;obtain⟨p4,q4,rfl,r4⟩:=h3;exact⟨p1,q1,p4,q4,rfl,r1,r4⟩
theorem zIt {w:World} {a:zAq} {p1:Option Addr} {q1:Nat} {p4:Option Addr} {q4:Nat} (r1:Rd w p1 q1 a.1) (r4:Rd w p4 q4 a.2.2.2):authC.rep w a [.slice p1 a.1.length q1,.int .i64 a.2.1.1,.int .i64 a.2.1.2.1,.int .i64 a.2.1.2.2,.int .i64 a.2.2.1,.slice p4 a.2.2.2.length q4]:=⟨[.slice p1 a.1.length q1],_,rfl,⟨p1,q1,rfl,r1⟩,⟨[.int .i64 a.2.1.1,.int .i64 a.2.1.2.1,.int .i64 a.2.1.2.2],_,rfl,zLk,⟨[.int .i64 a.2.2.1],_,rfl,rfl,⟨p4,q4,rfl,r4⟩⟩⟩⟩
abbrev BlkD:=List UInt8
theorem zCP {w:World} {a:BlkD} {vs:List Value} (h:bytC.rep w a vs):∃ p q,vs=[.slice p a.length q]∧Rd w p q a:=h
theorem zCf {w:World} {B:Nat} {a:BlkD} {v:Value} (o:Own w B v a):bytC.own w B a [v] v.ownBlock.toList:=⟨v,rfl,o,rfl⟩
theorem zCv:(Tryz.prog.info? 22).map (fun i=>(i.zero,i.size,i.bytes))=some (some (.slice none 0 0),1,24):=by kernel_rfl
abbrev blksC:Cod (List BlkD):=zMe 22 bytC
abbrev zJ:=Int×Int
def holdC:Cod zJ:=zCs (intC .i64) (intC .i64)
theorem zBS {w:World} {a:zJ} {vs:List Value} (h:holdC.rep w a vs):vs=[.int .i64 a.1,.int .i64 a.2]:=by
 obtain⟨us0,ts0,rfl,h0,h1⟩:=h;have e0:us0=[Value.int .i64 _]:=h0;have e1:ts0=[Value.int .i64 _]:=h1;rw[e0,e1];rfl
theorem zKB {w:World} {B:Nat} {a:zJ}:holdC.own w B a [.int .i64 a.1,.int .i64 a.2] []:=⟨[_],_,[],[],rfl,rfl,List.nodup_nil,⟨rfl,rfl⟩,rfl,rfl⟩
theorem zFv {w:World} {B:Nat} {a:zJ} {vs:List Value} {fp:List Nat} (h:holdC.own w B a vs fp):vs=[.int .i64 a.1,.int .i64 a.2]∧fp=[]:=by
 obtain⟨us0,ts0,f0,g0,rfl,rfl,-,⟨rfl,rfl⟩,⟨rfl,rfl⟩⟩:=h;exact⟨rfl,rfl⟩
abbrev holdsC:Cod (List zJ):=zMe 81 holdC
end Go.Proofs.YtbaldmmbphbinaaGreatDoor
