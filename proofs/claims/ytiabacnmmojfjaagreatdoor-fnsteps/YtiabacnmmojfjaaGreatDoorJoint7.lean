import Derived.Test.YtiabacnmmojfjaaGreatDoorRows
import Derived.Test.YtiabacnmmojfjaaGreatDoorJoint1
import Derived.ProofKit
import Derived.OpenShut
import Derived.Deep.QuietTactic
import Derived.BigQuiet
import Derived.Test.YtiabacnmmojfjaaGreatDoorJoint2
import Derived.Test.YtiabacnmmojfjaaGreatDoorJoint3
import Derived.Test.YtiabacnmmojfjaaGreatDoorJoint4
import Derived.Deep.RegionWith
set_option maxHeartbeats 2000000
set_option maxRecDepth 4000
open Go.Proofs.Tryz
namespace Go.Proofs.YtiabacnmmojfjaaGreatDoor
open Go.ChangeShapes Go.WideShapes Go.ChangeAt Go.RowKit
theorem zJ4 (a:Option Addr) (n cap:Nat) (w:World) (h:1048576<n):
  Calls prog 6 #[.slice a n cap] w fun e w'=>e=.returned (.bool true)∧w'=w:=by
 have h':(1048576:Int)<(n:Int):=by omega
 go_enter func6,ntmps6;go_wp2;go_ret;exact⟨rfl,rfl⟩
theorem zLB (a:Option Addr) (n cap:Nat) (w:World) (h:n≤1048576):
  Calls prog 6 #[.slice a n cap] w fun e w'=>e=.returned (.bool false)∧w'=w:=by
 have h':(n:Int)≤1048576:=by omega
 go_enter func6,ntmps6;go_wp2;go_ret;refine⟨?_,rfl⟩
 show Ending.returned (.bool (decide _))=_
 rw[decide_eq_false (by omega)]
theorem zCr:(Tryz.prog.info? 5).map (fun i=>(i.zero,i.size,i.bytes))=some (some (.int .u8 0),1,1):=by kernel_rfl
def zOL (bs:List UInt8):Int:=if bs.length=4 then 0 else 1
def zOO (bs:List UInt8):Int:=if bs.length=4 then (getB bs:Nat) else 0
theorem zMl (a:Option Addr) (cap:Nat) (bs:List UInt8) (w:World) (hr:Rd w a cap bs) (hl:bs.length≤7):
  Calls prog 161 #[.slice a bs.length cap] w fun e w'=>e=.returned (.int .i64 (getB bs:Nat))∧w'=w:=by
 go_enter func161,ntmps161;go_wp2
 go_loop [3,4] (fun q i=>∃ k:Nat,k≤bs.length∧i=.int .i64 k∧q=.int .i64 (getB (bs.take k):Nat))
  (fun _ i=>bs.length-(intOf i).toNat)
 case atStart=>exact⟨0,Nat.zero_le _,rfl,by simp[getB]⟩
 case round=>
  obtain⟨k,hk,rfl,rfl⟩:=hrel
  by_cases hlt:k<bs.length
  ·obtain⟨b,o,rfl,hc⟩:=hr.2.2.2 (by omega);have hcx:=hc k hlt;have HG:Hid (((getB (bs.take (k+1)):Nat):Int)=(getB (bs.take k):Int)*256+at8 bs k):=zJm bs k hlt
   have hg1:(getB (bs.take k):Int)≤281474976710656:=by
    have:=Nat.lt_of_lt_of_le (zH1 (bs.take k)) (Nat.pow_le_pow_right (by decide) (show(bs.take k).length≤6 by have:=List.length_take_le k bs;omega));omega
   have h0:=zDj bs k;have h1:=zDk bs k;generalize getB (bs.take k)=m at *;generalize at8 bs k=b8 at *;clear hc hr;go_wp2
   go_round
   case rel=>exact⟨k+1,by omega,by go_num,by rw[HG.out]⟩
   case measure=>simp[intOf];omega
  ·have e:k=bs.length:=by omega
   subst e;rw[List.take_length];go_wp2;go_ret;exact⟨rfl,rfl⟩
theorem zH4 (a:Option Addr) (cap n:Nat) (bs:List UInt8) (w:World) (hr:Rd w a cap bs) (hn:bs.length=n) (hl:n≤7):
  Calls prog 161 #[.slice a n cap] w fun e w'=>e=.returned (.int .i64 (getB bs:Nat))∧w'=w:=by
 subst hn;exact zMl a cap bs w hr hl
theorem zFY (v n:Nat) (w:World) (hv:v<4611686018427387904) (hn:n≤1048576):
  Calls prog 122 #[.int .i64 v,.int .i64 n] w fun e w'=>∃ u,e=.returned u∧Own w' w.heap.size u (putB v n)∧Below w.heap.size w w':=by
 obtain⟨i0,hi,hz0,hz1,hz2⟩:=info_parts zCr
 have hm:n≤maxLen:=by unfold maxLen;omega
 go_enter func122,ntmps122
 go_wp2_with (first
  | (at_make;refine wpList_make_full _ rfl (.tmp 7) (.tmp 7) 22 rfl w.heap.size 5 i0 (.int .u8 0) 1 underlying22 hi hz0 hz1 .i64 .i64 _ _ n rfl rfl rfl rfl (by rw[hz2];omega) hm (yf _) ?_;intro w1 hown hgrow)
  | go_in)
 rw[zDl,← zH0 v n] at hown;have hb1:Below w.heap.size w w1:=(Below.refl _ _).grown hgrow (yf _) (fun k hk=>by simp at hk);clear hgrow hz0 hz1 hz2 hi
 go_loopw [0,6] (fun q i wr=>∃ k:Nat,k≤n∧i=.int .i64 ((n:Int)-1-k)∧q=.int .i64 ((v / 256 ^ k:Nat):Int)∧wr.ownsRow w.heap.size 5 1 (.slice (some ⟨w.heap.size,0,none⟩) n n) n (zCQ v n k)∧Below w.heap.size w wr)
  (fun _ i _=>(intOf i+1).toNat)
 case atStart=>exact⟨0,Nat.zero_le _,by simp,by simp,hown,hb1⟩
 case round=>
  obtain⟨k,hk,rfl,rfl,hown,hbel⟩:=hrel
  by_cases hlt:k<n
  ·have hcy:wr.cell? ⟨w.heap.size,n-1-k,none⟩=some (.int .u8 0):=by rw[World.ownsRow.cellAt hown (n-1-k) (by omega),zJl v n k hlt]
   have hfy:wr.frozen? ⟨w.heap.size,n-1-k,none⟩=false:=World.ownsRow.frozenAt hown _;have hvk:v / 256 ^ k≤v:=Nat.div_le_self _ _
   have HV:Hid (v / 256 ^ (k+1)=v / 256 ^ k / 256):=by show _=_;rw[Nat.pow_succ,Nat.div_div_eq_div_mul]
   have R:=World.ownsRow.stored hown (n-1-k) (.int .u8 ((v / 256 ^ k % 256:Nat):Int));rw[zGC v n k hlt] at R;generalize v / 256 ^ k=q at *;rw[show((q % 256:Nat):Int)=(q:Int) % 256 by omega] at R
   have hix:((n:Int)-1-k).toNat=n-1-k:=by omega
   have hge:(0:Int)≤(n:Int)-1-k:=by omega
   have hlt2:(n:Int)-1-k<n:=by omega
   have hq1:(q:Int)≤4611686018427387904:=by omega
   have RB:Below w.heap.size w (wr.setCell ⟨w.heap.size,n-1-k,none⟩ (.int .u8 ((q:Int) % 256))):=hbel.setCell (yf _) _;clear hown hvk hv;go_wp2;go_roundw
   case rel=>exact⟨k+1,by omega,by go_num,by rw[HV.out];go_num,R.1,RB⟩
   case measure=>simp[intOf];omega
  ·have e:k=n:=by omega
   subst e;rw[zJH] at hown;go_wp2;go_ret;refine⟨_,rfl,?_,hbel⟩;unfold Own;rw[zP];exact hown
theorem zH5 (v n:Int) (w:World) (h0:0≤v) (hv:v<4611686018427387904) (h1:0≤n) (hn:n≤1048576):
  Calls prog 122 #[.int .i64 v,.int .i64 n] w fun e w'=>∃ u,e=.returned u∧Own w' w.heap.size u (putB v.toNat n.toNat)∧Below w.heap.size w w':=by
 obtain⟨v,rfl⟩:=Int.eq_ofNat_of_zero_le h0;obtain⟨n,rfl⟩:=Int.eq_ofNat_of_zero_le h1;rw[Int.toNat_natCast,Int.toNat_natCast];exact zFY v n w (by omega) (by omega)
theorem zO (w:World) (B:Nat):Own w B (.slice none 0 0) []:=World.ownsRow_nil _ _ _ _
def poC (b e:Int):Int:=if inB b 1 65520&&inB e 0 65521 then 0 else 3
def poV (b e:Int):Int:=if poC b e=0 then (powN b.toNat e.toNat:Nat) else 0
def shC (s:Int):Int:=if inB s 1 65519 then 0 else 3
def shV (s:Int):Int:=if shC s=0 then (powN 17 s.toNat:Nat) else 0
def sdC (s b:Int):Int:=if inB s 1 65519&&inB b 1 65520 then 0 else 3
def sdV (s b:Int):Int:=if sdC s b=0 then (powN b.toNat s.toNat:Nat) else 0
def shbC (v:Int):Int:=if inB v 1 65520 then 0 else 3
def shbL (v:Int):List UInt8:=if shbC v=0 then putB v.toNat 2 else []
def bsC (d:List UInt8):Int:=if d.length=2 then (if inB (getB d:Nat) 1 65520 then 0 else 3) else 5
def bsV (d:List UInt8):Int:=if bsC d=0 then (getB d:Nat) else 0
theorem zFZ {v lo hi:Int} (h:inB v lo hi=true) (hl:0≤lo):∃ n:Nat,v=n∧lo≤n∧(n:Int)≤hi:=by
 have h2:lo≤v∧v≤hi:=by simpa [inB] using h
 exact⟨v.toNat,by omega,by omega,by omega⟩
theorem zDv (v:Int) (w:World):Calls prog 199 #[.int .i64 v] w fun e w'=>e=.returned (.bool (inB v 1 65520))∧w'=w:=by
 go_enter func199,ntmps199;go_wp2_with fail;refine(zBW v 1 65520 _).mono ?_;rintro e w1 ⟨rfl,rfl⟩;go_wp2;go_ret;exact⟨rfl,rfl⟩
theorem zBo (v:Int) (w:World):Calls prog 136 #[.int .i64 v] w fun e w'=>e=.returned (.bool (inB v 1 65519))∧w'=w:=by
 go_enter func136,ntmps136;go_wp2_with fail;refine(zBW v 1 65519 _).mono ?_;rintro e w1 ⟨rfl,rfl⟩;go_wp2;go_ret;exact⟨rfl,rfl⟩
theorem zHT (b e:Nat) (w:World) (hb:b≤65520) (he:e≤65521):
  Calls prog 123 #[.int .i64 (b:Int),.int .i64 (e:Int)] w fun x w'=>x=.returned (.int .i64 ((powN b e:Nat):Int))∧w'=w:=by
 obtain⟨R,HR⟩:∃ R,Hid (R=powN b e):=⟨_,rfl⟩;rw[← HR.out];go_enter func123,ntmps123;go_wp2
 have HI:Hid (1*b ^ e % 65521=R):=by show _=_;rw[HR.out,Nat.one_mul];rfl
 go_loop [0,1,5] (fun x y z=>∃ b' e' o:Nat,x=.int .i64 b'∧y=.int .i64 e'∧z=.int .i64 o∧b'≤65520∧e'≤65521∧o≤65520∧o*b' ^ e' % 65521=R)
  (fun _ y _=>(intOf y).toNat)
 case atStart=>exact⟨b,e,1,rfl,rfl,rfl,hb,he,by decide,HI.out⟩
 case round=>
  obtain⟨x,y,o,rfl,rfl,rfl,hx,hy,ho,hinv⟩:=hrel;have HV:Hid (o*x ^ y % 65521=R):=hinv;clear hinv hb he HI HR;have hxx:x*x≤65520*65520:=Nat.mul_le_mul hx hx;have hox:o*x≤65520*65520:=Nat.mul_le_mul ho hx;have exx:((x*x:Nat):Int)=(x:Int)*(x:Int):=Int.natCast_mul x x;have eox:((o*x:Nat):Int)=(o:Int)*(x:Int):=Int.natCast_mul o x
  have hxxI:(x:Int)*(x:Int)≤4292870400:=by rw[← exx];omega
  have hoxI:(o:Int)*(x:Int)≤4292870400:=by rw[← eox];omega
  have hxx0:0≤(x:Int)*(x:Int):=by rw[← exx];omega
  have hox0:0≤(o:Int)*(x:Int):=by rw[← eox];omega
  have E1:Hid ((x:Int)*(x:Int) % 65521=((x*x % 65521:Nat):Int)):=by show _=_;rw[Int.natCast_emod,exx];rfl
  have E2:Hid ((o:Int)*(x:Int) % 65521=((o*x % 65521:Nat):Int)):=by show _=_;rw[Int.natCast_emod,eox];rfl
  clear hxx hox exx eox
  by_cases h0:0<y
  ·have h0I:(0:Int)<(y:Int):=by omega
   by_cases h1:y % 2=1
   ·have h1I:((y:Int) % 2==1)=true:=by rw[beq_iff_eq];omega
    have HS:Hid ((o*x % 65521)*(x*x % 65521) ^ (y / 2) % 65521=R):=by show _=_;rw[zJv o x y h1];exact HV.out
    go_wp2;exact⟨⟨x*x % 65521,y / 2,o*x % 65521,by rw[E1.out],by rw[Int.natCast_ediv];rfl,by rw[E2.out],by have:=Nat.mod_lt (x*x) (show 0<65521 by decide);omega,by omega,by have:=Nat.mod_lt (o*x) (show 0<65521 by decide);omega,HS.out⟩,by simp[intOf];omega⟩
   ·have h1I:((y:Int) % 2==1)=false:=by rw[beq_eq_false_iff_ne];omega
    have HS:Hid (o*(x*x % 65521) ^ (y / 2) % 65521=R):=by show _=_;rw[zId o x y (by omega)];exact HV.out
    go_wp2;exact⟨⟨x*x % 65521,y / 2,o,by rw[E1.out],by rw[Int.natCast_ediv];rfl,rfl,by have:=Nat.mod_lt (x*x) (show 0<65521 by decide);omega,by omega,ho,HS.out⟩,by simp[intOf];omega⟩
  ·have e0:y=0:=by omega
   subst e0;go_wp2;go_ret
   have hR:R=o:=by rw[← HV.out,Nat.pow_zero,Nat.mul_one,Nat.mod_eq_of_lt (by omega)]
   exact⟨by rw[hR];rfl,rfl⟩
def zD9 (a b:List UInt8):Bool:=a==b
theorem zLC (a b:Option Addr) (ca cb:Nat) (xs bs:List UInt8) (w:World) (hra:Rd w a ca xs) (hrb:Rd w b cb bs):
  Calls prog 125 #[.slice a xs.length ca,.slice b bs.length cb] w fun e w'=>e=.returned (.bool (zD9 xs bs))∧w'=w:=by
 have e1:=zEZ (P:=prog) hra (src:=22) (dst:=9) (e:=5) underlying22 underlying5 underlying9;have e2:=zEZ (P:=prog) hrb (src:=22) (dst:=9) (e:=5) underlying22 underlying5 underlying9;go_enter func125,ntmps125;go_wp2;go_ret;rw[zCf,zCf];exact⟨rfl,rfl⟩
theorem zHU (a b:Option Addr) (ca cb:Nat) (xs bs:List UInt8) (w:World) (hra:Rd w a ca xs) (hrb:Rd w b cb bs):
  Calls prog 143 #[.slice a xs.length ca,.slice b bs.length cb] w fun e w'=>e=.returned (.bool (zD9 xs bs))∧w'=w:=by
 have e1:=zEZ (P:=prog) hra (src:=22) (dst:=9) (e:=5) underlying22 underlying5 underlying9;have e2:=zEZ (P:=prog) hrb (src:=22) (dst:=9) (e:=5) underlying22 underlying5 underlying9;go_enter func143,ntmps143;go_wp2;go_ret;rw[zCf,zCf];exact⟨rfl,rfl⟩
theorem zGM (a b:Option Addr) (ca cb:Nat) (xs bs:List UInt8) (w:World) (hra:Rd w a ca xs) (hrb:Rd w b cb bs):
  Calls prog 98 #[.slice a xs.length ca,.slice b bs.length cb] w fun e w'=>e=.returned (.bool (zD9 xs bs))∧Below w.heap.size w w':=by
 go_enter func98,ntmps98;go_wp2_with fail;refine(zHU a b ca cb xs bs _ hra hrb).mono ?_;rintro e w1 ⟨rfl,rfl⟩;go_wp2;go_ret;exact⟨rfl,Below.refl _ _⟩
theorem zEc (p:Option Addr) (q:Nat) (cs:List UInt8) (w:World) (hr:Rd w p q cs):
  Calls prog 34 #[.slice p cs.length q] w fun e w'=>e=.returned (.pointer (some ⟨w.heap.size,0,none⟩))∧Src w' w.heap.size p q cs 0∧Below w.heap.size w w'∧w.heap.size<w'.heap.size:=by
 go_enter func34,ntmps34;go_wp2;go_ret;refine⟨rfl,⟨Loc.new _ _ _,hr.keep (zA _ _),fun hp x hx=>?_⟩,zA _ _,by simp⟩;obtain⟨b,o,rfl,hc⟩:=hr.2.2.2 hp;simp only[Option.some.injEq] at hx;subst hx;exact World.block_lt_of_cell? w _ (hc 0 hp)
theorem zAl (b:Nat) (p:Option Addr) (q:Nat) (cs:List UInt8) (t n:Int) (w:World) (hs:Src w b p q cs t) (ht:0≤t) (ht2:t≤1000000000) (hn:1≤n) (hn2:n≤4611686018427387904):
  Calls prog 48 #[.pointer (some ⟨b,0,none⟩),.int .i64 n] w fun e w'=>∃ r:Int,e=.returned (.int .i64 r)∧0≤r∧r<n∧Src w' b p q cs (t+1)∧w.grownBy w' (some b):=by
 have c0:=hs.loc.1 0 _ rfl;have c1:=hs.loc.1 1 _ rfl;have hf:=hs.loc.2;have hnx:=hs.next (t+1);have hgr:=zJ w b 1 (.int .i64 (t+1));have e1:(w.setCell ⟨b,1,none⟩ (.int .i64 (t+1))).cell? ⟨b,1,none⟩=some (.int .i64 (t+1)):=hnx.loc.1 1 _ rfl;have e0:(w.setCell ⟨b,1,none⟩ (.int .i64 (t+1))).cell? ⟨b,0,none⟩=some (.slice p cs.length q):=hnx.loc.1 0 _ rfl
 by_cases hk:cs.length=0
 ·have hkb:((cs.length:Int)==0)=true:=by rw[beq_iff_eq];omega
  clear hk;go_enter func48,ntmps48;go_wp2;go_ret;exact⟨_,rfl,Int.emod_nonneg _ (by omega),Int.emod_lt_of_pos _ (by omega),hnx,hgr⟩
 ·have hkb:((cs.length:Int)==0)=false:=by rw[beq_eq_false_iff_ne];omega
  have hkp:(0:Int)<(cs.length:Int):=by omega
  obtain⟨pb,po,rfl,hc⟩:=hnx.rd.2.2.2 (by omega);have hm0:=Int.emod_nonneg t (show(cs.length:Int)≠0 by omega);have hm1:=Int.emod_lt_of_pos t hkp;have hd0:=Int.ediv_nonneg ht (Int.le_of_lt hkp);have hd1:t / (cs.length:Int)≤t:=Int.ediv_le_self _ ht;have hm2:=Int.emod_nonneg (t+1) (show(cs.length:Int)≠0 by omega);have hm3:=Int.emod_lt_of_pos (t+1) hkp;have f1:=hc (t % (cs.length:Int)).toNat (by omega);have f2:=hc ((t+1) % (cs.length:Int)).toNat (by omega);have g0:=zDj cs (t % (cs.length:Int)).toNat;have g1:=zDk cs (t % (cs.length:Int)).toNat;have g2:=zDj cs ((t+1) % (cs.length:Int)).toNat;have g3:=zDk cs ((t+1) % (cs.length:Int)).toNat;clear hc
  by_cases h2:200<n
  ·go_enter func48,ntmps48;go_wp2
   go_quiet (fail)
   go_wp2
   go_quiet (fail)
   go_wp2;go_ret;exact⟨_,rfl,Int.emod_nonneg _ (by omega),Int.emod_lt_of_pos _ (by omega),hnx.drewN _,zC hgr (zV _ _ _)⟩
  ·go_enter func48,ntmps48;go_wp2
   go_quiet (fail)
   go_wp2;go_ret;exact⟨_,rfl,Int.emod_nonneg _ (by omega),Int.emod_lt_of_pos _ (by omega),hnx.drewN _,zC hgr (zV _ _ _)⟩
theorem Src.other {w w':World} {b:Nat} {p:Option Addr} {q:Nat} {cs:List UInt8} {n:Int} {row:Option Nat} (h:Src w b p q cs n) (hg:w.grownBy w' row) (hne:∀ k,row=some k→b<k):Src w' b p q cs n:=
 ⟨h.loc.other hg (fun e=>by have:=hne b e;omega),h.rd.other hg (fun hp y hy e=>by have h1:=h.apart hp y hy;have h2:=hne _ e;omega),h.apart⟩
theorem zCU (b:Nat) (p:Option Addr) (q:Nat) (cs:List UInt8) (t:Int) (g:Nat) (xs:List Int) (m:Nat) (w:World) (hs:Src w b p q cs t) (ht:0≤t) (ht2:t≤1000000000) (hm:xs.length=m) (hx0:0<m) (hx1:m≤1000)
  (hg:b≠g) (hx:∀ i,i<m→w.cell? ⟨g,i,none⟩=some (.int .i64 (xs.getD i 0))):
  Calls prog 96 #[.pointer (some ⟨b,0,none⟩),.slice (some ⟨g,0,none⟩) m m] w fun e w'=>∃ r:Int,r∈xs∧e=.returned (.int .i64 r)∧Src w' b p q cs (t+1)∧w.grownBy w' (some b):=by
 go_enter func96,ntmps96;go_wp2_with fail;refine(zAl b p q cs t m w hs ht ht2 (by omega) (by omega)).mono ?_;rintro e w1 ⟨r,rfl,hr0,hr1,hs1,hg1⟩
 have hi:r.toNat<xs.length:=by omega
 have hc:w1.cell? ⟨g,r.toNat,none⟩=some (.int .i64 (xs.getD r.toNat 0)):=zDT (hx r.toNat (by omega)) hg1 (fun e=>hg (by simpa using e))
 have hmem:Hid (xs.getD r.toNat 0∈xs):=by show _∈_;simp[hi]
 generalize xs.getD r.toNat 0=y at *;go_wp2;go_ret;exact⟨y,hmem.out,rfl,hs1,hg1⟩
theorem zL {w w1 w2:World} (h:Below w.heap.size w w1) (hg:w1.grownBy w2 (some w.heap.size)):Below w.heap.size w w2:=
 h.grown hg h.size (fun k hk=>by simp at hk;omega)
theorem zIf (a b:Option Addr) (ca cb:Nat) (xs bs:List UInt8) (w:World) (hra:Rd w a ca xs) (hrb:Rd w b cb bs):
  Calls prog 11 #[.slice a xs.length ca,.slice b bs.length cb] w fun e w'=>e=.returned (.bool (xs==bs))∧w'=w:=by
 have e1:=zEZ (P:=prog) hra (src:=22) (dst:=9) (e:=5) underlying22 underlying5 underlying9;have e2:=zEZ (P:=prog) hrb (src:=22) (dst:=9) (e:=5) underlying22 underlying5 underlying9;go_enter func11,ntmps11;go_wp2;go_ret;rw[zCf,zCf];exact⟨rfl,rfl⟩
theorem zBB {a b:Nat} (ha:a<4294967296) (hb:b<4294967296):bits .xor .i64 (a:Int) (b:Int)=((a ^^^ b:Nat):Int):=zHx a b (by omega) (by omega)
theorem zDI {a b:Nat} (ha:a<4294967296) (hb:b<4294967296):bits .and .i64 (a:Int) (b:Int)=((a &&& b:Nat):Int):=zHy a b (by omega) (by omega)
theorem zBv (v n:Nat) (m:Int) (hm:m=n) (w:World) (h2:v<4294967296) (h3:1≤n) (h4:n≤31):
  Calls prog 201 #[.int .i64 v,.int .i64 m] w fun e w'=>e=.returned (.int .i64 (rotN v n:Nat))∧w'=w:=by
 subst hm;exact zK9 v n w h2 h3 h4
theorem zJ5 (a b c d e f g h word key:Nat) (w:World) (ha:a<4294967296) (hb:b<4294967296) (hc:c<4294967296) (hd:d<4294967296) (he:e<4294967296) (hf:f<4294967296) (hg:g<4294967296) (hh:h<4294967296) (hw:word<4294967296) (hk:key<4294967296):
  Calls prog 171 #[.agg #[.int .i64 a,.int .i64 b,.int .i64 c,.int .i64 d,.int .i64 e,.int .i64 f,.int .i64 g,.int .i64 h],.int .i64 word,.int .i64 key] w fun r w'=>r=.returned (.agg (zCB ⟨a,b,c,d,e,f,g,h⟩ word key).i64)∧Below w.heap.size w w':=by
 have x1:=zBB (zAD e 6 he (by decide)) (zAD e 11 he (by decide));have x2:bits .xor .i64 _ _=((rot3 e 6 11 25:Nat):Int):=zBB (zAy (zAD e 6 he (by decide)) (zAD e 11 he (by decide))) (zAD e 25 he (by decide));have y1:=zBB (zAD a 2 ha (by decide)) (zAD a 13 ha (by decide));have y2:bits .xor .i64 _ _=((rot3 a 2 13 22:Nat):Int):=zBB (zAy (zAD a 2 ha (by decide)) (zAD a 13 ha (by decide))) (zAD a 22 ha (by decide));have z1:=zDI he hf
 have z2:bits .and .i64 (4294967295-(e:Int)) (g:Int)=(((4294967295-e) &&& g:Nat):Int):=by
  rw[show 4294967295-(e:Int)=((4294967295-e:Nat):Int) by omega];exact zDI (by omega) hg
 have z3:bits .xor .i64 ((e &&& f:Nat):Int) (((4294967295-e) &&& g:Nat):Int)=((chN e f g:Nat):Int):=zBB (zAd he) (zAd (by omega));have m1:=zDI ha hb;have m2:=zDI ha hc;have m3:=zDI hb hc;have m4:=zBB (zAd (b:=b) ha) (zAd (b:=c) ha);have m5:bits .xor .i64 (((a &&& b) ^^^ (a &&& c):Nat):Int) ((b &&& c:Nat):Int)=((majN a b c:Nat):Int):=zBB (zAy (zAd ha) (zAd ha)) (zAd hb)
 have b1:((rot3 e 6 11 25:Nat):Int)≤4294967295:=by have:=zJp (i:=6) (j:=11) (k:=25) he (by decide) (by decide) (by decide);omega
 have b2:((rot3 a 2 13 22:Nat):Int)≤4294967295:=by have:=zJp (i:=2) (j:=13) (k:=22) ha (by decide) (by decide) (by decide);omega
 have b3:((chN e f g:Nat):Int)≤4294967295:=by have:=zNK (f:=f) (g:=g) he;omega
 have b4:((majN a b c:Nat):Int)≤4294967295:=by have:=zMX (c:=c) ha hb;omega
 go_enter func171,ntmps171;go_wp2_with fail;refine(zBv e 6 _ rfl _ he (by decide) (by decide)).mono ?_;rintro r w' ⟨rfl,rfl⟩;go_wp2_with fail;refine(zBv e 11 _ rfl _ he (by decide) (by decide)).mono ?_;rintro r w' ⟨rfl,rfl⟩;go_wp2_with fail;refine(zBv e 25 _ rfl _ he (by decide) (by decide)).mono ?_;rintro r w' ⟨rfl,rfl⟩;go_wp2_with fail;refine(zBv a 2 _ rfl _ ha (by decide) (by decide)).mono ?_;rintro r w' ⟨rfl,rfl⟩;go_wp2_with fail;refine(zBv a 13 _ rfl _ ha (by decide) (by decide)).mono ?_;rintro r w' ⟨rfl,rfl⟩;go_wp2_with fail;refine(zBv a 22 _ rfl _ ha (by decide) (by decide)).mono ?_;rintro r w' ⟨rfl,rfl⟩;go_wp2
 have E1:(((h:Int)+(rot3 e 6 11 25:Nat)+(chN e f g:Nat)+key+word+((rot3 a 2 13 22:Nat)+(majN a b c:Nat))) % 4294967296)=(((t1N ⟨a,b,c,d,e,f,g,h⟩ word key+t2N ⟨a,b,c,d,e,f,g,h⟩) % 4294967296:Nat):Int):=by simp only[t1N,t2N];omega
 have E2:(((d:Int)+(h+(rot3 e 6 11 25:Nat)+(chN e f g:Nat)+key+word)) % 4294967296)=(((d+t1N ⟨a,b,c,d,e,f,g,h⟩ word key) % 4294967296:Nat):Int):=by simp only[t1N];omega
 rw[E1,E2];exact bodyPost_ret (v:=.agg (zCB ⟨a,b,c,d,e,f,g,h⟩ word key).i64) (by simp[results,results171,go_sem];rfl) rfl ⟨rfl,yt (zA _ _) _⟩
theorem zF4 (x i j k:Nat) (w:World) (hx:x<4294967296) (hi:i≤31) (hj:j≤31) (hk:k≤31):
  Calls prog 225 #[.int .u32 x,.int .i64 i,.int .i64 j,.int .i64 k] w fun e w'=>e=.returned (.int .u32 (rot3 x i j k:Nat))∧w'=w:=by
 have x1:=u32_xor_nat _ _ (zAD x i hx (by omega)) (zAD x j hx (by omega));have x2:bits .xor .u32 _ _=((rot3 x i j k:Nat):Int):=u32_xor_nat _ _ (zAy (zAD x i hx (by omega)) (zAD x j hx (by omega))) (zAD x k hx (by omega));go_enter func225,ntmps225;go_wp2_with fail;refine(zCH x i _ hx hi).mono ?_;rintro r w' ⟨rfl,rfl⟩;go_wp2_with fail;refine(zCH x j _ hx hj).mono ?_;rintro r w' ⟨rfl,rfl⟩;go_wp2_with fail;refine(zCH x k _ hx hk).mono ?_;rintro r w' ⟨rfl,rfl⟩;go_wp2;go_ret;exact⟨rfl,rfl⟩
theorem zDo (x i j k:Nat) (m n o:Int) (hm:m=i) (hn:n=j) (ho:o=k) (w:World) (hx:x<4294967296) (hi:i≤31) (hj:j≤31) (hk:k≤31):
  Calls prog 225 #[.int .u32 x,.int .i64 m,.int .i64 n,.int .i64 o] w fun e w'=>e=.returned (.int .u32 (rot3 x i j k:Nat))∧w'=w:=by
 subst hm hn ho;exact zF4 x i j k w hx hi hj hk
theorem zGo (x i j k:Nat) (w:World) (hx:x<4294967296) (hi:i≤31) (hj:j≤31) (hk:k≤31):
  Calls prog 224 #[.int .u32 x,.int .i64 i,.int .i64 j,.int .i64 k] w fun e w'=>e=.returned (.int .u32 (sh2 x i j k:Nat))∧∃ n,w'=w.drewN n:=by
 have x1:=u32_xor_nat _ _ (zAD x i hx (by omega)) (zAD x j hx (by omega))
 have x2:bits .xor .u32 ((rotN x i ^^^ rotN x j:Nat):Int) ((x:Int) / 2 ^ k)=((sh2 x i j k:Nat):Int):=by
  rw[show((x:Int) / 2 ^ k)=((x / 2 ^ k:Nat):Int) by push_cast;rfl];exact u32_xor_nat _ _ (zAy (zAD x i hx (by omega)) (zAD x j hx (by omega))) (Nat.lt_of_le_of_lt (Nat.div_le_self x (2 ^ k)) hx)
 go_enter func224,ntmps224;go_wp2
 go_quiet ((first | (go_at_call_of 231 (Value.int .i64 (i:Int));exact Calls.quiet_of_same (zCH x i _ hx hi)) | (go_at_call_of 231 (Value.int .i64 (j:Int));exact Calls.quiet_of_same (zCH x j _ hx hj))))
 go_wp2;go_ret;exact⟨rfl,_,rfl⟩
theorem zOE (e:Nat) (h:e<4294967296):bits .xor .u32 IntKind.u32.max (e:Int)=((4294967295-e:Nat):Int):=by
 have h1:IntKind.u32.max=((4294967295:Nat):Int):=by decide
 rw[h1,u32_xor_nat _ _ (by decide) h]
 congr 1
 have h2:(BitVec.allOnes 32 ^^^ BitVec.ofNat 32 e).toNat=4294967295 ^^^ e:=by
  rw[BitVec.toNat_xor,BitVec.toNat_allOnes,BitVec.toNat_ofNat,Nat.mod_eq_of_lt (by omega)]
 rw[← h2,BitVec.allOnes_xor,BitVec.toNat_not,BitVec.toNat_ofNat,Nat.mod_eq_of_lt (by omega)]
theorem zMm (a b c d e f g q word key:Nat) (w:World) (ha:a<4294967296) (hb:b<4294967296) (hc:c<4294967296) (he:e<4294967296) (hf:f<4294967296) (hg:g<4294967296):
  Calls prog 217 #[.agg #[.int .u32 a,.int .u32 b,.int .u32 c,.int .u32 d,.int .u32 e,.int .u32 f,.int .u32 g,.int .u32 q],.int .u32 word,.int .u32 key] w fun r w'=>r=.returned (.agg (zCB ⟨a,b,c,d,e,f,g,q⟩ word key).u32)∧Below w.heap.size w w':=by
 have z1:=u32_and_nat _ _ he hf;have z2:=u32_and_nat (4294967295-e) g (by omega) hg;have z3:bits .xor .u32 ((e &&& f:Nat):Int) (((4294967295-e) &&& g:Nat):Int)=((chN e f g:Nat):Int):=u32_xor_nat _ _ (zAd he) (zAd (by omega));have m1:=u32_and_nat _ _ ha hb;have m2:=u32_and_nat _ _ ha hc;have m3:=u32_and_nat _ _ hb hc;have m4:=u32_xor_nat _ _ (zAd (b:=b) ha) (zAd (b:=c) ha);have m5:bits .xor .u32 (((a &&& b) ^^^ (a &&& c):Nat):Int) ((b &&& c:Nat):Int)=((majN a b c:Nat):Int):=u32_xor_nat _ _ (zAy (zAd ha) (zAd ha)) (zAd hb);have n1:=zOE e he;go_enter func217,ntmps217;go_wp2
 go_quiet (fail)
 go_wp2_with fail;refine zFW (by kernel_rfl) (by kernel_rfl) ?_
 repeat (go_big_quiet_step ((go_at_call 225;exact Calls.quiet_of_same (zDo e 6 11 25 _ _ _ rfl rfl rfl _ he (by decide) (by decide) (by decide)))))
 refine wpQuiet_nil ?_;rintro _ ⟨nr,rfl⟩;go_wp2_with fail;refine(zDo a 2 13 22 _ _ _ rfl rfl rfl _ ha (by decide) (by decide) (by decide)).mono ?_;rintro r w' ⟨rfl,rfl⟩;go_wp2
 have E1:(((q:Int)+(rot3 e 6 11 25:Nat)+(chN e f g:Nat)+key+word+((rot3 a 2 13 22:Nat)+(majN a b c:Nat))) % 4294967296)=(((t1N ⟨a,b,c,d,e,f,g,q⟩ word key+t2N ⟨a,b,c,d,e,f,g,q⟩) % 4294967296:Nat):Int):=by simp only[t1N,t2N];omega
 have E2:(((d:Int)+(q+(rot3 e 6 11 25:Nat)+(chN e f g:Nat)+key+word)) % 4294967296)=(((d+t1N ⟨a,b,c,d,e,f,g,q⟩ word key) % 4294967296:Nat):Int):=by simp only[t1N];omega
 rw[E1,E2];exact bodyPost_ret (v:=.agg (zCB ⟨a,b,c,d,e,f,g,q⟩ word key).u32) (by simp[results,results217,go_sem];rfl) rfl ⟨rfl,((((((((below_drewN (yt (zA _ _) _) _).setCell (yh _) _).setCell (yh _) _).setCell (yh _) _).setCell (yh _) _).setCell (yh _) _).setCell (yh _) _).setCell (yh _) _).setCell (yh _) _⟩
end Go.Proofs.YtiabacnmmojfjaaGreatDoor
