import Derived.Test.YtbaldmmbphbinaaGreatDoorJoint14
import Derived.Test.YtbaldmmbphbinaaGreatDoorJoint4
import Derived.Test.YtbaldmmbphbinaaGreatDoorJoint6
import Derived.Test.YtbaldmmbphbinaaGreatDoorJoint17
import Derived.Test.YtbaldmmbphbinaaGreatDoorJoint8
import Derived.Test.YtbaldmmbphbinaaGreatDoorJoint3
import Derived.Test.YtbaldmmbphbinaaGreatDoorJoint10
set_option maxHeartbeats 1000000
set_option maxRecDepth 4000
namespace Go.Proofs.YtbaldmmbphbinaaGreatDoor
open Go.ChangeShapes Go.WideShapes Go.ChangeAt Go.RowKit
theorem zJa (w:World):Rd w none 0 []:=⟨Nat.le_refl _,by unfold maxLen;decide,fun _=>rfl,fun hp=>by simp at hp⟩
theorem zB2 (p:Option Addr) (q:Nat) (s:List UInt8) (w:World):Calls Tryz.prog 62 #[.slice p s.length q] w fun e w'=>e=.returned (.bool (is32 s))∧w'=w:=by
 by_cases h:s.length=32
 ·have d1:((s.length:Int)==32)=true:=by rw[beq_iff_eq];omega
  rw[show is32 s=true by simp[is32,h]];clear h;go_enter Tryz.func62,Tryz.ntmps62;go_wp2;go_ret;exact⟨rfl,rfl⟩
 ·have d1:((s.length:Int)==32)=false:=by rw[beq_eq_false_iff_ne];omega
  rw[show is32 s=false by simp[is32,h]];clear h;go_enter Tryz.func62,Tryz.ntmps62;go_wp2;go_ret;exact⟨rfl,rfl⟩
theorem zIG (p p2:Option Addr) (q q2:Nat) (exporter l ctx:List UInt8) (n:Nat) (w:World) (hr:Rd w p q exporter) (hr2:Rd w p2 q2 ctx) (hk:exporter.length≤64) (hl:l.length≤40) (hl2:ctx.length≤100) (hn:n≤255):
  Calls Tryz.prog 91 #[.slice p exporter.length q,.string (strB l),.slice p2 ctx.length q2,.int .i64 (n:Int)] w fun e w'=>∃ u,e=.returned u∧Own w' w.heap.size u (zBt exporter l ctx n)∧Below w.heap.size w w':=by
 have HE:Hid (zBt exporter l ctx n=zAN (zAD exporter l []) zBa (zX ctx) n):=rfl
 have K:Hid (∀ w,Rd w p q exporter→Calls Tryz.prog 110 #[.slice p exporter.length q,.string (strB l),.slice none 0 0] w fun e w'=>∃ u,e=.returned u∧Own w' w.heap.size u (zAD exporter l [])∧Below w.heap.size w w'):=fun w h=>zH9 p none q 0 exporter l [] w h (zJa _) hk hl (by decide)
 have KD:Hid (∀ w,Rd w p2 q2 ctx→Calls Tryz.prog 63 #[.slice p2 ctx.length q2] w fun e w'=>∃ u,e=.returned u∧Own w' w.heap.size u (zX ctx)∧Below w.heap.size w w'):=fun w h=>zB0 p2 q2 ctx w h (by omega)
 have HL:Hid ((zAD exporter l []).length=32):=zEH _ _ _;have HL2:Hid ((zX ctx).length=32):=zAZ _
 have KE:Hid (∀ (w:World) (a b:Option Addr) (c d:Nat) (x y:List UInt8),x.length=32→y.length=32→Rd w a c x→Rd w b d y→Calls Tryz.prog 109 #[.slice a x.length c,.string ⟨#[101,120,112,111,114,116,101,114]⟩,.slice b y.length d,.int .i64 (n:Int)] w fun e w'=>∃ u,e=.returned u∧Own w' w.heap.size u (zAN x zBa y n)∧Below w.heap.size w w'):=fun w a b c d x y hx hy h h'=>by
  rw[zDm];exact zCS a b c d x zBa y n w h h' (by omega) (by decide) (by omega) hn
 clear hk hl hl2 hn;go_enter Tryz.func91,Tryz.ntmps91;go_wp2_with fail;refine(K.out _ hr).mono ?_;rintro e w1 ⟨u1,rfl,k1,hb1⟩;obtain⟨a1,c1,rfl,rd1⟩:=k1.rd;obtain⟨ek,HEK⟩:∃ ek,Hid (ek=zAD exporter l []):=⟨_,rfl⟩;rw[← HEK.out] at HL HE rd1 ⊢;have hz:=hb1.size;clear k1 K;go_wp2_with fail;refine(KD.out _ (hr2.keep hb1)).mono ?_;rintro e w2 ⟨u2,rfl,k2,hb2⟩;obtain⟨a2,c2,rfl,rd2⟩:=k2.rd;obtain⟨dg,HDG⟩:∃ ek,Hid (ek=zX ctx):=⟨_,rfl⟩;rw[← HDG.out] at HL2 HE rd2 ⊢;have hz2:=Nat.le_trans hz hb2.size;replace rd1:=rd1.keep hb2;replace hb1:=Below.step hb1 hb2;clear k2 KD hb2;go_wp2_with fail;refine(KE.out _ a1 a2 c1 c2 ek dg HL.out HL2.out rd1 rd2).mono ?_;rintro e w3 ⟨u3,rfl,k3,hb3⟩;go_wp2;go_ret;exact⟨_,rfl,by rw[HE.out];exact k3.lower hz2,Below.step hb1 hb3⟩
end Go.Proofs.YtbaldmmbphbinaaGreatDoor
namespace Go.Proofs.YtbaldmmbphbinaaGreatDoor
open Go.RowKit
theorem zGH (r:Int) (w:World):Calls Tryz.prog 84 #[.int .i64 r] w fun e w'=>e=.returned (.bool (zB1 r))∧w'=w:=by
 by_cases h1:r=1
 ·subst h1;go_enter Tryz.func84,Tryz.ntmps84;go_wp2;go_ret;exact⟨rfl,rfl⟩
 ·by_cases h2:r=2
  ·subst h2;go_enter Tryz.func84,Tryz.ntmps84;go_wp2;go_ret;exact⟨rfl,rfl⟩
  ·have d1:(r==1)=false:=by simpa using h1
   have d2:(r==2)=false:=by simpa using h2
   rw[show zB1 r=false by simp[zB1,h1,h2]];go_enter Tryz.func84,Tryz.ntmps84;go_wp2;go_ret;exact⟨rfl,rfl⟩
theorem zEx (p:Option Addr) (q:Nat) (x:List UInt8) (r:Int) (w:World):Calls Tryz.prog 54 #[.slice p x.length q,.int .i64 r] w fun e w'=>e=.returned (.int .i64 (akC x r))∧w'=w:=by
 unfold akC;cases h1:is32 x
 ·go_enter Tryz.func54,Tryz.ntmps54;go_wp2_with fail;refine(zB2 p q x _).mono ?_;rintro e w1 ⟨rfl,rfl⟩;rw[h1];go_wp2;go_ret;exact⟨rfl,rfl⟩
 ·cases h2:zB1 r
  ·go_enter Tryz.func54,Tryz.ntmps54;go_wp2_with fail;refine(zB2 p q x _).mono ?_;rintro e w1 ⟨rfl,rfl⟩;rw[h1];go_wp2_with fail;refine(zGH r _).mono ?_;rintro e w1 ⟨rfl,rfl⟩;rw[h2];go_wp2;go_ret;exact⟨rfl,rfl⟩
  ·go_enter Tryz.func54,Tryz.ntmps54;go_wp2_with fail;refine(zB2 p q x _).mono ?_;rintro e w1 ⟨rfl,rfl⟩;rw[h1];go_wp2_with fail;refine(zGH r _).mono ?_;rintro e w1 ⟨rfl,rfl⟩;rw[h2];go_wp2;go_ret;exact⟨rfl,rfl⟩
theorem zCW (p:Option Addr) (q:Nat) (c:List UInt8) (w:World):Calls Tryz.prog 24 #[.slice p c.length q] w fun e w'=>e=.returned (.bool (ctxB c))∧w'=w:=by
 unfold ctxB;go_enter Tryz.func24,Tryz.ntmps24;go_wp2_with fail;refine(zAm _ _ _ _).mono ?_;rintro e w1 ⟨rfl,rfl⟩;go_wp2;go_ret;exact⟨rfl,rfl⟩
theorem zHS (p:Option Addr) (q:Nat) (x:List UInt8) (r:Int) (fin:Bool) (w:World) (hr:Rd w p q x) (hx:x.length≤64):
  Calls Tryz.prog 65 #[.slice p x.length q,.int .i64 r,.bool fin] w fun e w'=>∃ u,e=.returned u∧Own w' w.heap.size u (kyN x r fin)∧Below w.heap.size w w':=by
 have K:Hid (∀ (l:List UInt8) (w:World),l.length≤40→Rd w p q x→Calls Tryz.prog 91 #[.slice p x.length q,.string (strB l),.slice none 0 0,.int .i64 32] w fun e w'=>∃ u,e=.returned u∧Own w' w.heap.size u (zBt x l [] 32)∧Below w.heap.size w w'):=fun l w h1 h2=>zIG p none q 0 x l [] 32 w h2 (zJa _) hx h1 (by decide) (by decide)
 have HD:Hid (kyN x r fin=zBt x ((if r=2 then zFQ else zFP)++(if fin then zFR else zD2)) [] 32):=rfl;rw[HD.out];clear HD hx
 by_cases h2:r=2
 ·subst h2;rw[if_pos rfl];cases fin
  ·go_enter Tryz.func65,Tryz.ntmps65;go_wp2_with fail;refine(K.out (zFQ++zD2) _ (by decide) hr).mono ?_;rintro e w1 ⟨u,rfl,k,hb⟩;go_wp2;go_ret;exact⟨_,rfl,k,hb⟩
  ·go_enter Tryz.func65,Tryz.ntmps65;go_wp2_with fail;refine(K.out (zFQ++zFR) _ (by decide) hr).mono ?_;rintro e w1 ⟨u,rfl,k,hb⟩;go_wp2;go_ret;exact⟨_,rfl,k,hb⟩
 ·have d2:(r==2)=false:=by simpa using h2
  rw[if_neg h2];clear h2;cases fin
  ·go_enter Tryz.func65,Tryz.ntmps65;go_wp2_with fail;refine(K.out (zFP++zD2) _ (by decide) hr).mono ?_;rintro e w1 ⟨u,rfl,k,hb⟩;go_wp2;go_ret;exact⟨_,rfl,k,hb⟩
  ·go_enter Tryz.func65,Tryz.ntmps65;go_wp2_with fail;refine(K.out (zFP++zFR) _ (by decide) hr).mono ?_;rintro e w1 ⟨u,rfl,k,hb⟩;go_wp2;go_ret;exact⟨_,rfl,k,hb⟩
end Go.Proofs.YtbaldmmbphbinaaGreatDoor
namespace Go.Proofs.YtbaldmmbphbinaaGreatDoor
open Go.ChangeShapes Go.WideShapes Go.ChangeAt Go.RowKit
theorem zHT (b o:Nat) (c:zH) (w:World) (c0:w.cell? ⟨b,o,none⟩=some (.int .i64 c.1)) (c1:w.cell? ⟨b,o+1,none⟩=some (.int .i64 c.2.1)) (c2:w.cell? ⟨b,o+2,none⟩=some (.int .i64 c.2.2)):
  Calls Tryz.prog 60 #[.pointer (some ⟨b,o,none⟩)] w fun e w'=>e=.returned (.bool (okC c))∧w'=w:=by
 cases h1:inB c.1 1 99
 ·rw[show okC c=false by simp[okC,h1]];go_enter Tryz.func60,Tryz.ntmps60;go_wp2_with fail;refine(zAm _ _ _ _).mono ?_;rintro e w' ⟨rfl,rfl⟩;rw[h1];go_wp2;go_ret;exact⟨rfl,rfl⟩
 ·cases h2:inB c.2.1 1 9
  ·rw[show okC c=false by simp[okC,h2]];go_enter Tryz.func60,Tryz.ntmps60;go_wp2_with fail;refine(zAm _ _ _ _).mono ?_;rintro e w' ⟨rfl,rfl⟩;rw[h1];go_wp2_with fail;refine(zAm _ _ _ _).mono ?_;rintro e w' ⟨rfl,rfl⟩;rw[h2];go_wp2;go_ret;exact⟨rfl,rfl⟩
  ·rw[show okC c=inB c.2.2 0 9999 by simp[okC,h1,h2]];go_enter Tryz.func60,Tryz.ntmps60;go_wp2_with fail;refine(zAm _ _ _ _).mono ?_;rintro e w' ⟨rfl,rfl⟩;rw[h1];go_wp2_with fail;refine(zAm _ _ _ _).mono ?_;rintro e w' ⟨rfl,rfl⟩;rw[h2];go_wp2_with fail;refine(zAm _ _ _ _).mono ?_;rintro e w' ⟨rfl,rfl⟩;go_wp2;go_ret;exact⟨rfl,rfl⟩
def ixC (l:List zH) (id:Int):Int:=if hasC l id then (l.findIdx fun c=>c.1==id:Nat) else -1
theorem zLK {l:List zH} {k:Nat} {a:zH} {id:Int} (h:l[k]?=some a) (hn:hasC (l.take k) id=false) (he:a.1=id):ixC l id=k:=by
 unfold ixC;rw[if_pos (zGo h he)]
 congr 1
 obtain⟨hk,ha⟩:=List.getElem?_eq_some_iff.1 h;refine(List.findIdx_eq hk).2 ⟨by rw[ha];simpa using he,fun j hj=>?_⟩;simp only[hasC,List.any_eq_false] at hn;have:=hn l[j] (by rw[List.mem_take_iff_getElem];exact⟨j,by omega,rfl⟩)
 simpa using this
theorem zHU {l:List zH} {id:Int} (h:hasC l id=false):ixC l id=-1:=by unfold ixC;rw[h];rfl
theorem zKg {l:List zH} {id:Int} (h:hasC l id=true):∃ k:Nat,ixC l id=(k:Int)∧l[k]?=some (foC l id)∧(foC l id).1=id:=by
 refine⟨l.findIdx fun c=>c.1==id,by unfold ixC;rw[if_pos h],?_⟩;simp only[hasC,List.any_eq_true] at h;have hlt:l.findIdx (fun c=>c.1==id)<l.length:=List.findIdx_lt_length.2 h;have hp:=List.findIdx_getElem (w:=hlt)
 have e:foC l id=l[l.findIdx (fun c=>c.1==id)]:=by
  unfold foC atC;rw[List.find?_eq_getElem?_findIdx,List.getElem?_eq_getElem hlt];rfl
 rw[e];exact⟨List.getElem?_eq_getElem hlt,by simpa using hp⟩
theorem zHV {l:List zH} {k:Nat} {a:zH} (h:l[k]?=some a):(ixC l a.1=(k:Int))↔hasC (l.take k) a.1=false:=by
 constructor
 ·intro he;cases hh:hasC (l.take k) a.1
  ·rfl
  ·exfalso
   simp only[hasC,List.any_eq_true] at hh;obtain⟨x,hx,hx2⟩:=hh;rw[List.mem_take_iff_getElem] at hx;obtain⟨j,hj,rfl⟩:=hx;unfold ixC at he;rw[if_pos (zGo h rfl)] at he
   have he2:(l.findIdx fun c=>c.1==a.1)=k:=by omega
   have:=List.not_of_lt_findIdx (xs:=l) (p:=fun c=>c.1==a.1) (i:=j) (by omega);rw[hx2] at this;cases this
 ·intro hn;exact zLK h hn rfl
theorem zJb (l:List zH) (p:Option Addr) (q:Nat) (id:Int) (w:World) (hr:RdL certC w p q l):
  Calls Tryz.prog 61 #[.slice p l.length q,.int .i64 id] w fun e w'=>e=.returned (.int .i64 (ixC l id))∧w'=w:=by
 have HR:Hid (RdL certC w p q l):=hr;have hq1:l.length≤q:=hr.1;have hq2:q≤2 ^ 63-1:=hr.2.1;clear hr;go_enter Tryz.func61,Tryz.ntmps61;go_wp2
 go_loopw [5] (fun i wr=>wr=w∧∃ k:Nat,k≤l.length∧i=.int .i64 k∧hasC (l.take k) id=false)
  (fun i _=>l.length-(intOf i).toNat)
 case atStart=>exact⟨rfl,0,Nat.zero_le _,rfl,zGC _ _⟩
 case round=>
  obtain⟨rfl,k,hk,rfl,hn⟩:=hrel
  by_cases hlt:k<l.length
  ·have hI:(k:Int)<(l.length:Int):=by omega
   obtain⟨b,o,e1,hc⟩:=HR.out.2.2.2 (by omega);subst e1;obtain⟨a,ha⟩:∃ a,l[k]?=some a:=⟨l[k],by simp[hlt]⟩;obtain⟨us,hrep,hcell⟩:=hc k a ha;obtain rfl:=zBk hrep;have c0:=hcell 0 _ rfl;rw[show certC.n=3 from rfl] at c0;rw[Nat.add_zero] at c0;clear hc hcell hrep
   by_cases he:a.1=id
   ·have d:(a.1==id)=true:=by rw[beq_iff_eq];exact he
    have HE:Hid (ixC l id=k):=zLK ha hn he;clear he hn;go_wp2;go_ret;exact⟨by rw[HE.out];rfl,rfl⟩
   ·have d:(a.1==id)=false:=by rw[beq_eq_false_iff_ne];exact he
    have hn2:Hid (hasC (l.take (k+1)) id=false):=by show _=_;rw[zGB ha,hn,d];rfl
    clear he hn;go_wp2;go_roundw
    case rel=>exact⟨trivial,k+1,by omega,by go_num,hn2.out⟩
    case measure=>simp[intOf];omega
  ·have e:k=l.length:=by omega
   subst e;rw[List.take_length] at hn;go_wp2;go_ret;exact⟨by rw[zHU hn];rfl,rfl⟩
theorem zEy (l:List zH) (p:Option Addr) (q:Nat) (w:World) (hr:RdL certC w p q l):
  Calls Tryz.prog 30 #[.slice p l.length q] w fun e w'=>e=.returned (.int .i64 (ctC l))∧w'=w:=by
 have HR:Hid (RdL certC w p q l):=hr;have hq1:l.length≤q:=hr.1;have hq2:q≤2 ^ 63-1:=hr.2.1;clear hr
 by_cases hl:l.length≤8
 ·have hlI:¬ (8<(l.length:Int)):=by omega
  have HC:Hid (ctC l=cgC [] l):=by show _=_;rw[ctC,if_pos hl]
  go_enter Tryz.func30,Tryz.ntmps30;go_wp2
  go_loopw [3] (fun i wr=>wr=w∧∃ k:Nat,k≤l.length∧i=.int .i64 k∧ctC l=cgC (l.take k) (l.drop k))
   (fun i _=>l.length-(intOf i).toNat)
  case atStart=>exact⟨rfl,0,Nat.zero_le _,rfl,HC.out⟩
  case round=>
   obtain⟨rfl,k,hk,rfl,hn⟩:=hrel
   by_cases hlt:k<l.length
   ·have hI:(k:Int)<(l.length:Int):=by omega
    obtain⟨b,o,e1,hc⟩:=HR.out.2.2.2 (by omega);subst e1;obtain⟨a,ha⟩:∃ a,l[k]?=some a:=⟨l[k],by simp[hlt]⟩;obtain⟨us,hrep,hcell⟩:=hc k a ha;obtain rfl:=zBk hrep;have c0:=hcell 0 _ rfl;have c1:=hcell 1 _ rfl;have c2:=hcell 2 _ rfl;rw[show certC.n=3 from rfl] at c0 c1 c2;rw[Nat.add_zero] at c0;have K1:Hid (Calls Tryz.prog 60 #[.pointer (some ⟨b,o+k*3,none⟩)] wr fun e w'=>e=.returned (.bool (okC a))∧w'=wr):=zHT b (o+k*3) a wr c0 c1 c2;have K2:Hid (Calls Tryz.prog 61 #[.slice (some ⟨b,o,none⟩) l.length q,.int .i64 a.1] wr fun e w'=>e=.returned (.int .i64 (ixC l a.1))∧w'=wr):=zJb l _ q a.1 wr HR.out;clear hc hcell hrep c1 c2;cases ho:okC a
    ·have hn2:Hid (ctC l=3):=hn.trans (zJM ha ho);rw[ho] at K1;clear hn;go_wp2_with fail;refine K1.out.mono ?_;rintro e w2 ⟨rfl,rfl⟩;go_wp2;go_ret;exact⟨by rw[hn2.out];rfl,rfl⟩
    ·rw[ho] at K1
     by_cases ht:ixC l a.1=(k:Int)
     ·have hn2:Hid (ctC l=cgC (l.take (k+1)) (l.drop (k+1))):=hn.trans (zHM ha ho ((zHV ha).1 ht));rw[ht] at K2;clear hn ht;go_wp2_with fail;refine K1.out.mono ?_;rintro e w2 ⟨rfl,rfl⟩;go_wp2_with fail;refine K2.out.mono ?_;rintro e w2 ⟨rfl,rfl⟩;go_wp2_with fail;go_roundw
      case rel=>exact⟨trivial,k+1,by omega,by go_num,hn2.out⟩
      case measure=>simp[intOf];omega
     ·have hn2:Hid (ctC l=6):=hn.trans (zGD ha ho (by cases h:hasC (l.take k) a.1;exact absurd ((zHV ha).2 h) ht;rfl));obtain⟨z,hz⟩:∃ z,Hid (ixC l a.1=z):=⟨_,rfl⟩;rw[hz.out] at K2 ht
      have d:(z != (k:Int))=true:=by rw[bne_iff_ne];exact ht
      clear hn ht hz;go_wp2_with fail;refine K1.out.mono ?_;rintro e w2 ⟨rfl,rfl⟩;go_wp2_with fail;refine K2.out.mono ?_;rintro e w2 ⟨rfl,rfl⟩;go_wp2;go_ret;exact⟨by rw[hn2.out];rfl,rfl⟩
   ·have e:k=l.length:=by omega
    subst e;have hn2:Hid (ctC l=0):=hn.trans (zJN l);clear hn;go_wp2;go_ret;exact⟨by rw[hn2.out];rfl,rfl⟩
 ·have hlI:8<(l.length:Int):=by omega
  rw[show ctC l=2 by rw[ctC,if_neg hl]];clear hl;go_enter Tryz.func30,Tryz.ntmps30;go_wp2;go_ret;exact⟨rfl,rfl⟩
theorem zDn (w:World) (bs:List UInt8) (B:Nat) (hB:B≤w.heap.size) (hl:bs.length≤1000):Own (w.alloc (.cells (bs.map u8v).toArray 5)) B (.slice (some ⟨w.heap.size,0,none⟩) bs.length bs.length) bs:=by
 have h:=World.ownsRow_lit (base:=B) (e:=5) (size:=1) w (bs.map u8v).toArray bs.length hB (by unfold maxLen;omega) (by simp);exact h
theorem zDV {a:Int} (h:0≤a):u8v (UInt8.ofNat a.toNat)=.int .u8 (a % 256):=by
 unfold u8v;rw[UInt8.toNat_ofNat'];congr 1;omega
theorem zL4 {c:zH}:pcL c=[UInt8.ofNat c.1.toNat,UInt8.ofNat c.2.1.toNat]++putB c.2.2.toNat 2:=by
 have q:∀ (m n:Nat),m % 256=n % 256→UInt8.ofNat m=UInt8.ofNat n:=fun m n h=>by
  apply UInt8.toNat_inj.1;rw[UInt8.toNat_ofNat',UInt8.toNat_ofNat'];exact h
 simp only[pcL,putB,List.cons_append,List.nil_append,List.cons.injEq,true_and,and_true];exact⟨q _ _ (by omega),q _ _ (by omega)⟩
theorem zGI (b o:Nat) (c:zH) (w:World) (c0:w.cell? ⟨b,o,none⟩=some (.int .i64 c.1)) (c1:w.cell? ⟨b,o+1,none⟩=some (.int .i64 c.2.1)) (c2:w.cell? ⟨b,o+2,none⟩=some (.int .i64 c.2.2)) (hc:okC c=true):
  Calls Tryz.prog 66 #[.pointer (some ⟨b,o,none⟩)] w fun e w'=>∃ u,e=.returned u∧Own w' w.heap.size u (pcL c)∧Below w.heap.size w w':=by
 have hp:=zBc hc;obtain⟨m,hm⟩:∃ m:Nat,c.2.2=(m:Int):=⟨c.2.2.toNat,by omega⟩
 have HM:Hid (m≤9999):=by show _≤_;omega
 have HL:Hid (pcL c=[UInt8.ofNat c.1.toNat,UInt8.ofNat c.2.1.toNat]++putB m 2):=by show _=_;rw[zL4,hm];rfl
 have HB:Hid (∀ V:World,w.heap.size≤V.heap.size→Own (V.alloc (.cells #[.int .u8 (c.1 % 256),.int .u8 (c.2.1 % 256)] 5)) w.heap.size (.slice (some ⟨V.heap.size,0,none⟩) 2 2) [UInt8.ofNat c.1.toNat,UInt8.ofNat c.2.1.toNat]):=fun V hV=>by
  have h:=zDn V [UInt8.ofNat c.1.toNat,UInt8.ofNat c.2.1.toNat] w.heap.size hV (by simp);rw[show([UInt8.ofNat c.1.toNat,UInt8.ofNat c.2.1.toNat].map u8v).toArray=#[.int .u8 (c.1 % 256),.int .u8 (c.2.1 % 256)] by simp only[List.map_cons,List.map_nil];rw[zDV (by omega),zDV (by omega)]] at h;exact h
 rw[hm] at c2;clear hp hc hm;go_enter Tryz.func66,Tryz.ntmps66;have C0:=HW.at c0;have C1:=HW.at c1;have C2:=HW.at c2;have hne:=HW.some w;go_wp2_with fail;refine wp_region_pick [0,1,2,3,4,5,6,7,8,9,11,12,13,14] 16 2 2 rfl rfl rfl (by kernel_rfl) (by kernel_rfl) (by kernel_rfl) (by kernel_rfl) ?_;simp only[zL,List.getElem?_toArray,List.getElem?_cons_zero,List.getElem?_cons_succ]
 repeat (go_big_quiet_step (fail))
 refine wpQuiet_nil ?_;refine wpM_two (i:=10) (j:=15) (by kernel_rfl) ?_ ?_
 case' refine_1=>
  refine mOp_make rfl (by go_simp) ?_;rintro _ ⟨s1,rfl⟩;refine⟨.slice (some ⟨s1.w.heap.size,0,none⟩) 2 2,s1.w.alloc (.cells #[.int .u8 (c.1 % 256),.int .u8 (c.2.1 % 256)] 5),by go_simp,⟨⟨_,zA _ _⟩,rfl⟩,?_⟩;refine wpM_only (i:=15) (by kernel_rfl) ?_;refine mOp_call rfl (by go_simp) 90 _ #[.int .i64 (m:Int),.int .i64 2] (fun w=>by go_simp) rfl ?_;rintro _ ⟨s2,rfl⟩;refine(zGd m 2 _ (by have:=HM.out;omega) (by decide)).mono ?_;rintro e w3 ⟨u3,rfl,k3,hb3⟩;refine⟨u3,rfl,⟨⟨_,hb3⟩,rfl⟩,?_⟩;refine wpM_end (by kernel_rfl) rfl (by kernel_rfl) (by decide) ?_;rintro _ ⟨s4,rfl⟩;have R1:=(((HB.out s1.w s1.h.size).stay s2.h).stay hb3).stay s4.h;obtain⟨p3,q3,rfl,r3⟩:=k3.rd;have R2:=r3.keep s4.h;have BW:=Below.step (Below.step (Below.step (Below.step s1.h (zA _ _)) s2.h) hb3) s4.h;generalize s4.w=W at *;generalize s1.w.heap.size=g8 at *;clear s4 k3 r3 hb3 s2 s1 hne
 case' refine_2=>
  refine mOp_call rfl (by go_simp) 90 _ #[.int .i64 (m:Int),.int .i64 2] (fun w=>by go_simp) rfl ?_;rintro _ ⟨s2,rfl⟩;refine(zGd m 2 _ (by have:=HM.out;omega) (by decide)).mono ?_;rintro e w3 ⟨u3,rfl,k3,hb3⟩;refine⟨u3,rfl,⟨⟨_,hb3⟩,rfl⟩,?_⟩;refine wpM_only (i:=10) (by kernel_rfl) ?_;refine mOp_make rfl (by go_simp) ?_;rintro _ ⟨s1,rfl⟩;refine⟨.slice (some ⟨s1.w.heap.size,0,none⟩) 2 2,s1.w.alloc (.cells #[.int .u8 (c.1 % 256),.int .u8 (c.2.1 % 256)] 5),by go_simp,⟨⟨_,zA _ _⟩,rfl⟩,?_⟩;refine wpM_end (by kernel_rfl) rfl (by kernel_rfl) (by decide) ?_;rintro _ ⟨s4,rfl⟩;have B1:=Below.step (Below.step s2.h hb3) s1.h;have R1:=(HB.out s1.w B1.size).stay s4.h;obtain⟨p3,q3,rfl,r3⟩:=k3.rd;have R2:=((r3.keep s1.h).keep (zA _ (.cells #[.int .u8 (c.1 % 256),.int .u8 (c.2.1 % 256)] 5))).keep s4.h;have BW:=Below.step (Below.step B1 (zA _ (.cells #[.int .u8 (c.1 % 256),.int .u8 (c.2.1 % 256)] 5))) s4.h;generalize s4.w=W at *;generalize s1.w.heap.size=g8 at *;clear s4 s1 k3 r3 hb3 s2 hne B1
 all_goals
  simp only[List.drop_succ_cons,List.drop_zero];have HPL:Hid ((putB m 2).length=2):=zZ _ _;rw[HPL.out];clear C0 C1 C2 c0 c1 c2
  go_simp
  go_wp2_with (at_builtin;refine zG rfl (.tmp 13) (.tmp 18) rfl w.heap.size _ [UInt8.ofNat c.1.toNat,UInt8.ofNat c.2.1.toNat] rfl R1 p3 q3 (putB m 2) (by rw[HPL.out];rfl) R2 (by rw[HPL.out];simp) BW.size ?_;intro v3 w3 k3 hg3);have BW3:=BW.grown hg3 BW.size (fun k hk=>R1.ge k hk);rw[← HL.out] at k3;go_wp2_with fail;go_ret;exact⟨_,rfl,k3,BW3⟩
end Go.Proofs.YtbaldmmbphbinaaGreatDoor
