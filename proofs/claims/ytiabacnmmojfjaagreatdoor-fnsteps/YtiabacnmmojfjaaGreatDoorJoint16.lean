import Derived.Test.YtiabacnmmojfjaaGreatDoorJoint2
import Derived.Test.YtiabacnmmojfjaaGreatDoorJoint15
import Derived.Test.YtiabacnmmojfjaaGreatDoorJoint3
set_option maxHeartbeats 2000000
set_option maxRecDepth 4000
open Go.Proofs.Tryz
namespace Go.Proofs.YtiabacnmmojfjaaGreatDoor
section
open Go.ChangeShapes Go.WideShapes Go.ChangeAt Go.RowKit
def xorP (ks:List UInt8) (x:UInt8) (j:Nat):List UInt8:=(ks.take j).map (· ^^^ x)++ks.drop j
theorem zKP (ks:List UInt8) (x:UInt8):xorP ks x 0=ks:=by simp[xorP]
theorem zLY (ks:List UInt8) (x:UInt8):xorP ks x ks.length=ks.map (· ^^^ x):=by simp[xorP]
theorem zM0 (ks:List UInt8) (x:UInt8) {j:Nat} (h:j<ks.length):((xorP ks x j).map u8v)[j]?=some (.int .u8 (at8 ks j)):=by
 unfold xorP;rw[List.map_append,List.getElem?_append_right (by simp;omega)];simp[u8v,at8,h,show min j ks.length=j by omega]
theorem zLZ (ks:List UInt8) (x:UInt8) {j:Nat} (h:j<ks.length):((xorP ks x j).map u8v).set j (u8v (ks.getD j 0 ^^^ x))=(xorP ks x (j+1)).map u8v:=by
 have hl:(((ks.take j).map (· ^^^ x)).map u8v).length=j:=by simp;omega
 have hg:ks.getD j 0=ks[j]:=by simp[h]
 unfold xorP;rw[List.map_append,List.set_append_right _ _ (by omega),hl,Nat.sub_self,List.drop_eq_getElem_cons h,List.map_cons,List.set_cons_zero,List.take_succ_eq_append_getElem h,hg];simp only[List.map_append,List.map_cons,List.map_nil,List.append_assoc,yk,yl]
theorem zKQ (a b:UInt8):bits .xor .u8 (a.toNat:Int) (b.toNat:Int)=((a ^^^ b).toNat:Int):=by
 rw[u8_xor_nat _ _ a.toNat_lt b.toNat_lt,UInt8.toNat_xor]
def keyZ (key:List UInt8):List UInt8:=key++zs (64-key.length)
theorem zIs {key:List UInt8} (h:key.length≤64):(keyZ key).length=64:=by simp[keyZ,zAX];omega
theorem zFg (key:List UInt8) (x:UInt8):zC1 key x=(keyZ key).map (· ^^^ x):=rfl
theorem zIt {w:World} {g:Nat} {t:TypeId} {key:List UInt8} (h:Hid (w.heap[g]?=some (.cells (splice ((zs 64).map u8v) 0 (key.map u8v)).toArray t (0,0)))):Arr w g t ((keyZ key).map u8v):=by
 have e:splice ((zs 64).map u8v) 0 (key.map u8v)=(keyZ key).map u8v:=by
  simp only[splice,List.take_zero,yl,Nat.zero_add,List.length_map,keyZ,List.map_append,zs,← List.map_drop,List.drop_replicate]
 unfold Arr;rw[← e];exact h.out
theorem zHe (p:Option Addr) (q:Nat) (key:List UInt8) (x:UInt8) (xi:Int) (hx:xi=(x.toNat:Int)) (w:World) (hr:Rd w p q key) (hl:key.length≤64):
  Calls prog 203 #[.slice p key.length q,.int .u8 xi] w fun e w'=>∃ u,e=.returned u∧Own w' w.heap.size u (zC1 key x)∧Below w.heap.size w w':=by
 subst hx;obtain⟨i0,hi,hz0,hz1,hz2⟩:=info_parts zCr;have HR:Hid (Rd w p q key):=hr;have HL:Hid ((keyZ key).length=64):=zIs hl
 have HI:Hid ((Tryz.prog.info? 5).map (·.size)=some 1):=by show _=_;rw[hi];simp[hz1]
 clear hr;go_enter func203,ntmps203
 go_wp2_with (first
  | (at_make;refine wpList_make_full _ rfl (.const (.int .i64 64)) (.const (.int .i64 64)) 22 rfl w.heap.size 5 i0 (.int .u8 0) 1 underlying22 hi hz0 hz1 .i64 .i64 _ _ 64 rfl rfl rfl rfl (by rw[hz2];decide) (by unfold maxLen;decide) (yf _) ?_;intro w1 hown hgrow;have hA1:=(zAT hown).arr (zAX 64);have hb1:Below w.heap.size w w1:=(Below.refl _ _).grown hgrow (yf _) (fun k hk=>by simp at hk))
  | (refine wpList_copy_splice rfl (.tmp 8) (.tmp 9) 22 22 rfl 5 underlying22 HI.out _ _ _ _ _ _ rfl rfl w.heap.size 0 ((zs 64).map u8v) 5 hA1 (key.map u8v) (by rw[List.length_map];exact(Nat.min_eq_left (by omega)).symm) (fun hp=>⟨rfl,(HR.out.keep hb1).addr (by simpa using hp)⟩) (by simp[zAX];omega) (by intro u hu;obtain⟨n,-,rfl⟩:=List.mem_map.1 hu;rfl) w.heap.size w hb1 (yf _) ?_;intro w2 hA2 hb2;replace hA2:=zIt hA2)
  | go_in)
 have HE:Hid (zC1 key x=(keyZ key).map (· ^^^ x)):=zFg key x;clear hA1 hb1 HR hown hgrow hi hz0 hz1 hz2
 go_loopw [6] (fun i wr=>∃ j:Nat,j≤64∧i=.int .i64 j∧Arr wr w.heap.size 5 ((xorP (keyZ key) x j).map u8v)∧Below w.heap.size w wr)
  (fun i _=>64-(intOf i).toNat)
 case atStart=>exact⟨0,Nat.zero_le _,rfl,by rw[zKP];exact hA2,hb2⟩
 case round=>
  clear hA2 hb2;obtain⟨j,hj,rfl,A,BW⟩:=hrel
  by_cases hjl:j<64
  ·have hjk:j<(keyZ key).length:=by rw[HL.out];exact hjl
   have cx:=(A.cell j).trans (zM0 (keyZ key) x hjk);have fx:=A.frozen j;have R:=A.set j (u8v ((keyZ key).getD j 0 ^^^ x));rw[zLZ _ _ hjk] at R
   have RB:=fun v=>Below.setCell (p:=⟨w.heap.size,j,none⟩) BW (yf _) v
   have hxo:=zKQ ((keyZ key).getD j 0) x;unfold at8 at cx;unfold u8v at R;generalize (keyZ key).getD j 0=y at *;clear A;go_wp2;go_roundw
   case rel=>exact⟨j+1,by omega,by go_num,R,RB _⟩
   case measure=>simp[intOf];omega
  ·have e:j=64:=by omega
   subst e
   have hl2:(xorP (keyZ key) x 64).length=64:=by simp[xorP,HL.out]
   have e2:xorP (keyZ key) x 64=zC1 key x:=by rw[HE.out,← HL.out];exact zLY _ _
   rw[e2] at A hl2;have ho:=A.own (yf _) (by rw[hl2];decide);rw[hl2] at ho;go_wp2;go_ret;exact⟨_,rfl,ho,BW⟩
theorem zGu (p p2:Option Addr) (q q2:Nat) (key data:List UInt8) (w:World) (hr:Rd w p q key) (hr2:Rd w p2 q2 data) (hl:key.length≤64) (hl2:data.length≤536):
  Calls prog 173 #[.slice p key.length q,.slice p2 data.length q2] w fun e w'=>∃ u,e=.returned u∧Own w' w.heap.size u (macN key data)∧Below w.heap.size w w':=by
 obtain⟨b1,hb1⟩:∃ b,Hid (b=zC1 key 54):=⟨_,rfl⟩;obtain⟨b2,hb2⟩:∃ b,Hid (b=zC1 key 92):=⟨_,rfl⟩
 have HE:Hid (macN key data=zW (b2++zW (b1++data))):=by show _=_;rw[hb1.out,hb2.out];rfl
 have L1:Hid (b1.length=64):=by show _=_;rw[hb1.out];exact zDX _ hl
 have L2:Hid (b2.length=64):=by show _=_;rw[hb2.out];exact zDX _ hl
 have C1:Hid (∀ w,Rd w p q key→Calls prog 203 #[.slice p key.length q,.int .u8 54] w fun e w'=>∃ u,e=.returned u∧Own w' w.heap.size u b1∧Below w.heap.size w w'):=fun w hr=>by rw[hb1.out];exact zHe p q key 54 _ rfl _ hr hl
 have C2:Hid (∀ w,Rd w p q key→Calls prog 203 #[.slice p key.length q,.int .u8 92] w fun e w'=>∃ u,e=.returned u∧Own w' w.heap.size u b2∧Below w.heap.size w w'):=fun w hr=>by rw[hb2.out];exact zHe p q key 92 _ rfl _ hr hl
 clear hb1 hb2;have HR:Hid (Rd w p q key):=hr;clear hr;go_enter func173,ntmps173;go_wp2_with fail;refine(C1.out _ HR.out).mono ?_;rintro e w1 ⟨u1,rfl,k1,hb1⟩;obtain⟨p3,q3,rfl,-⟩:=k1.rd;have BW:=hb1;replace hr2:=hr2.keep hb1;clear hb1;go_wp2_with (at_builtin;refine zK rfl (.tmp 7) (.tmp 8) rfl w.heap.size _ b1 rfl k1 p2 q2 data rfl hr2 (by have:=L1.out;omega) BW.size ?_;intro v2 w2 k2 hg2);replace BW:=BW.grown hg2 BW.size (fun k hk=>k1.ge k hk);obtain⟨p4,q4,rfl,rd4⟩:=k2.rd;clear k1 hg2 hr2 k2;refine(zCi p4 q4 (b1++data) _ rd4 (by have:=L1.out;simp;omega)).mono ?_;rintro e w3 ⟨u3,rfl,k3,hb3⟩;replace BW:=yn BW hb3;have HD:Hid ((zW (b1++data)).length=32):=zAz _;generalize zW (b1++data)=d1 at *;obtain⟨p5,q5,rfl,rd5⟩:=k3.rd;clear rd4 hb3 k3;go_wp2_with fail;refine(C2.out _ (HR.out.keep BW)).mono ?_;rintro e w4 ⟨u4,rfl,k4,hb4⟩;obtain⟨p6,q6,rfl,-⟩:=k4.rd;have hz:Hid (w.heap.size≤w3.heap.size):=BW.size;replace BW:=yn BW hb4;replace rd5:=rd5.keep hb4;have hz4:=hb4.size;clear hb4;go_wp2_with (at_builtin;refine zK rfl (.tmp 12) (.tmp 13) rfl w3.heap.size _ b2 rfl k4 p5 q5 d1 rfl rd5 (by have:=L2.out;have:=HD.out;omega) hz4 ?_;intro v6 w6 k6 hg6);replace BW:=BW.grown hg6 BW.size (fun k hk=>by have:=k4.ge k hk;have:=hz.out;omega);obtain⟨p7,q7,rfl,rd7⟩:=k6.rd;clear k4 hg6 rd5 k6 hz4;refine(zCi p7 q7 (b2++d1) _ rd7 (by have:=L2.out;have:=HD.out;simp;omega)).mono ?_;rintro e w8 ⟨u8,rfl,k8,hb8⟩;have hz8:=BW.size;replace BW:=yn BW hb8;go_wp2;go_ret;exact⟨_,rfl,by rw[HE.out];exact k8.lower hz8,BW⟩
theorem zCu (p p2:Option Addr) (q q2:Nat) (salt data:List UInt8) (w:World) (hr:Rd w p q salt) (hr2:Rd w p2 q2 data) (hl:salt.length≤64) (hl2:data.length≤536):
  Calls prog 131 #[.slice p salt.length q,.slice p2 data.length q2] w fun e w'=>∃ u,e=.returned u∧Own w' w.heap.size u (zAH salt data)∧Below w.heap.size w w':=by
 obtain⟨i0,hi,hz0,hz1,hz2⟩:=info_parts zCr
 by_cases h0:salt.length=0
 ·have HE:Hid (zAH salt data=macN (zs 32) data):=by show _=_;simp[zAH,zJs,h0]
  rw[h0];go_enter func131,ntmps131;go_wp2_with (at_make;refine wpList_make_full _ rfl (.const (.int .i64 32)) (.const (.int .i64 32)) 22 rfl w.heap.size 5 i0 (.int .u8 0) 1 underlying22 hi hz0 hz1 .i64 .i64 _ _ 32 rfl rfl rfl rfl (by rw[hz2];decide) (by unfold maxLen;decide) (yf _) ?_;intro w1 hown hgrow);have hb1:Below w.heap.size w w1:=(Below.refl _ _).grown hgrow (yf _) (fun k hk=>by simp at hk);have k1:=zAT hown;have K:=zGu (some ⟨w.heap.size,0,none⟩) p2 32 q2 (zs 32) data w1 (Rd.own k1) (hr2.keep hb1) (by rw[zAX];decide) hl2;rw[zAX] at K;refine K.mono ?_;rintro e w2 ⟨u2,rfl,k2,hb2⟩;have hz:=hb1.size;replace hb1:=yn hb1 hb2;go_wp2;go_ret;exact⟨_,rfl,by rw[HE.out];exact k2.lower hz,hb1⟩
 ·have HE:Hid (zAH salt data=macN salt data):=by show _=_;simp[zAH,zJs,h0]
  have hne:((salt.length:Int)==0)=false:=by rw[beq_eq_false_iff_ne];omega
  go_enter func131,ntmps131;go_wp2_with fail;refine(zGu p p2 q q2 salt data w hr hr2 hl hl2).mono ?_;rintro e w2 ⟨u2,rfl,k2,hb2⟩;go_wp2;go_ret;exact⟨_,rfl,by rw[HE.out];exact k2,hb2⟩
theorem Own.cut {w:World} {B:Nat} {a:Option Addr} {m cap:Nat} {bs:List UInt8} (h:Own w B (.slice a m cap) bs) (k:Nat) (hk:k≤bs.length):Own w B (.slice a k cap) (bs.take k):=by
 have hl:(bs.take k).length=k:=by simp;omega
 obtain⟨h1,h2⟩:=h;unfold Own;rw[hl];refine⟨by simp;omega,?_⟩;rcases h2 with ⟨e,hn⟩ | ⟨g,c,cur,e,hB,hg,hle,hm,hs,ht⟩
 ·simp at e;obtain⟨rfl,rfl,rfl⟩:=e
  have:k=0:=by omega
  subst this;exact .inl ⟨rfl,rfl⟩
 ·simp at e;obtain⟨rfl,-,rfl⟩:=e;refine .inr ⟨g,cap,cur,rfl,hB,hg,by omega,hm,hs,?_⟩;rw[Nat.mul_one] at ht ⊢;rw[List.map_take,← ht,List.take_take,Nat.min_eq_left hk]
theorem zJU (p p2:Option Addr) (q q2:Nat) (key info:List UInt8) (n:Nat) (w:World) (hr:Rd w p q key) (hr2:Rd w p2 q2 info) (hl:key.length≤64) (hl2:info.length≤400) (hn:n≤255):
  Calls prog 165 #[.slice p key.length q,.slice p2 info.length q2,.int .i64 (n:Int)] w fun e w'=>∃ u,e=.returned u∧Own w' w.heap.size u (zBL key info n)∧Below w.heap.size w w':=by
 have HR:Hid (Rd w p q key):=hr;have HR2:Hid (Rd w p2 q2 info):=hr2;have HL:Hid (key.length≤64):=hl;clear hr hr2 hl;have O1:=(zCL w w.heap.size (yf _)).stay (zA _ (.cells #[] 5));have BW:Below w.heap.size w ((w.alloc (.cells #[] 5)).alloc (.cells #[] 5)):=yt (zA _ _) _;have R1:Rd ((w.alloc (.cells #[] 5)).alloc (.cells #[] 5)) (some ⟨w.heap.size+1,0,none⟩) 0 []:=⟨yf _,by unfold maxLen;decide,fun e=>by simp at e,fun hp=>by simp at hp⟩;go_enter func165,ntmps165;go_wp2
 go_loopw [7,8,9] (fun o l i wr=>∃ (k:Nat) (pl:Option Addr) (ql go co:Nat),32*k<n+32∧o=.slice (some ⟨go,0,none⟩) (32*k) co∧l=.slice pl (zBi key info k).length ql∧i=.int .u8 ((k:Int)+1)∧Own wr w.heap.size o (outN key info k)∧Rd wr pl ql (zBi key info k)∧Below w.heap.size w wr)
  (fun o _ _ _=>n-zEB o)
 case atStart=>exact⟨0,_,0,_,0,by omega,rfl,rfl,rfl,O1,R1,BW⟩
 case round=>
  clear O1 R1 BW;obtain⟨k,pl,ql,go,qo,hk,rfl,rfl,rfl,ho,rl,BW⟩:=hrel;have HO:Hid ((outN key info k).length=32*k):=zDY key info k;have HLL:Hid ((zBi key info k).length≤32):=zHK key info k
  by_cases hlt:32*k<n
  ·have HS:Hid (zBi key info (k+1)=macN key (zBi key info k++info++[UInt8.ofNat (k+1)])):=zEY key info k;have HOS:Hid (outN key info (k+1)=outN key info k++zBi key info (k+1)):=rfl;generalize zBi key info k=ls at *;go_wp2_with fail;refine(zBe pl ql ls _ rl (by have:=HLL.out;omega)).mono ?_;rintro e w1 ⟨u1,rfl,k1,hb1⟩;obtain⟨p1,q1,rfl,-⟩:=k1.rd;have BR:=hb1;have hz:=BW.size;clear hb1 rl
   have hv:Hid ((k:Int)+1=((UInt8.ofNat (k+1)).toNat:Int)):=by show _=_;rw[UInt8.toNat_ofNat',Nat.mod_eq_of_lt (by omega)];omega
   go_wp2_with (first
    | (at_builtin;refine zK rfl (.tmp 20) (.tmp 21) rfl wr.heap.size _ ls rfl k1 p2 q2 info rfl ((HR2.out.keep BW).keep BR) (by have:=HLL.out;omega) BR.size ?_;intro v2 w2 k2 hg2;replace BR:=BR.grown hg2 BR.size (fun k hk=>k1.ge k hk);clear hg2 k1;have k2':=k2.stay (zA w2 (.cells #[.int .u8 ((k:Int)+1)] 5)))
    | (at_builtin;refine zK rfl (.tmp 22) (.tmp 24) rfl wr.heap.size _ (ls++info) rfl k2' _ 1 [UInt8.ofNat (k+1)] rfl (zE4 w2 _ _ _ hv.out) (by have:=HLL.out;simp;omega) (by have:=BR.size;simp;omega) ?_;intro v3 w3 k3 hg3;replace BR:=(yt BR (.cells #[.int .u8 ((k:Int)+1)] 5)).grown hg3 (by have:=BR.size;simp;omega) (fun k hk=>k2.ge k hk);clear hg3 k2 k2'))
   obtain⟨p3,q3,rfl,rd3⟩:=k3.rd;have BW3:=yn BW BR;refine(zGu p p3 q q3 key (ls++info++[UInt8.ofNat (k+1)]) _ (HR.out.keep BW3) rd3 HL.out (by have:=HLL.out;simp;omega)).mono ?_;rintro e w4 ⟨u4,rfl,k4,hb4⟩;rw[← HS.out] at k4
   have HL4:Hid ((zBi key info (k+1)).length=32):=by show _=_;rw[HS.out];exact zCR _ _
   obtain⟨ls2,HZ⟩:∃ l,Hid (l=zBi key info (k+1)):=⟨_,rfl⟩;rw[← HZ.out] at k4 HL4 HOS;obtain⟨p4,q4,rfl,rd4⟩:=k4.rd;have hz3:Hid (wr.heap.size≤w3.heap.size):=BR.size;replace BR:=yn BR hb4;have ho4:=ho.stay BR;have hlt4:=ho.lt;replace BW3:=yn BW BR;clear hb4 rd3 k3;go_wp2_with (at_builtin;refine zK rfl (.tmp 27) (.tmp 28) rfl w.heap.size _ (outN key info k) rfl ho4 p4 q4 ls2 rfl rd4 (by have:=HO.out;have:=HL4.out;omega) BW3.size ?_;intro v5 w5 ho5 hg5)
   have rd5:=rd4.other hg5 (fun hp y hy e=>by
    have h1:=hlt4 _ e;subst hy;obtain⟨-,h2⟩:=k4;rcases h2 with ⟨e2,-⟩ | ⟨g,c,cur,e2,hB,-⟩
    ·simp at e2
    ·simp at e2;have:=hz3.out;rw[e2.1] at h1;simp at h1
     omega)
   have BW5:=BW3.grown hg5 BW3.size (fun k hk=>ho.ge k hk);rw[← HOS.out] at ho5;obtain⟨p6,q6,rfl,rd6⟩:=ho5.rd;have HO6:(outN key info (k+1)).length=32*(k+1):=zDY key info (k+1)
   obtain⟨g6,rfl⟩:∃ g,p6=some ⟨g,0,none⟩:=by
    obtain⟨-,h2⟩:=id ho5;rcases h2 with ⟨e2,h3⟩ | ⟨g,c,cur,e2,-⟩
    ·omega
    ·simp at e2;exact⟨g,e2.1⟩
   clear rd6;rw[HO6] at ho5 ⊢;clear ho ho4 hg5 BR BW3 k4 rd4 hv HO HLL;go_roundw
   case rel=>exact⟨k+1,p4,q4,g6,q6,by omega,rfl,by rw[HZ.out],by go_num,ho5,by rw[← HZ.out];exact rd5,BW5⟩
   case measure=>simp[zEB];omega
  ·have e:k=(n+31) / 32:=by omega
   have HX:Hid (zBL key info n=(outN key info k).take n):=by show _=_;rw[zBL,e]
   have hc:=ho.cut n (by rw[HO.out];omega);rw[← HX.out] at hc
   have hn2:n≤32*k:=by omega
   have hrd:=Rd.own ho
   have hq:32*k≤qo:=by have:=hrd.1;rw[HO.out] at this;exact this
   have hq2:qo≤2 ^ 63-1:=hrd.2.1;clear ho rl HX e HLL hrd HO;go_wp2;go_ret;exact⟨_,rfl,hc,BW⟩
def zB4 (b:UInt8):Bool:=decide (32≤b.toNat)&&decide (b.toNat≤126)
theorem zEk (l:List UInt8):zAU l=(l.all zB4&&inB (l.length:Int) 1 40):=by
 unfold zAU zB4 inB;rw[Bool.and_assoc]
 congr 1
 simp only[decide_eq_decide.2 (show 1≤l.length↔(1:Int)≤(l.length:Int) by omega),decide_eq_decide.2 (show l.length≤40↔(l.length:Int)≤40 by omega),Bool.decide_and]
theorem zKR {l:List UInt8} {j:Nat} (h:j<l.length):zB4 l[j]=(decide (32≤at8 l j)&&decide (at8 l j≤126)):=by
 rw[zBk h];unfold zB4;simp only[decide_eq_decide.2 (show 32≤l[j].toNat↔(32:Int)≤(l[j].toNat:Int) by omega),decide_eq_decide.2 (show l[j].toNat≤126↔(l[j].toNat:Int)≤126 by omega)]
theorem zGv {l:List UInt8} {j:Nat} (h:j<l.length):(l.take (j+1)).all zB4=((l.take j).all zB4&&zB4 l[j]):=by
 rw[List.take_succ_eq_append_getElem h,List.all_append];simp
theorem zIA {l:List UInt8} {j:Nat} (h:j<l.length) (hb:zB4 l[j]=false):l.all zB4=false:=by
 rw[List.all_eq_false];exact⟨l[j],List.getElem_mem h,by simp[hb]⟩
def zAm (l ctx:List UInt8) (n:Int):Int:=if zAU l then (if ctx.length≤100 then (if inB n 0 255 then 0 else 3) else 2) else 5
theorem zHf:(⟨#[116,108,115,49,51,32]⟩:ByteArray)=strB zCe:=rfl
theorem zHg (l ctx:List UInt8) (n:Nat):zA3 l ctx n=putB n 2++[UInt8.ofNat (6+l.length)]++(zCe++l)++[UInt8.ofNat ctx.length]++ctx:=by simp[zA3]
theorem zF5 (l:List UInt8) (p:Option Addr) (q:Nat) (ctx:List UInt8) (n:Nat) (w:World) (hr:Rd w p q ctx) (hl:l.length≤40) (hl2:ctx.length≤100) (hn:n≤255):
  Calls prog 166 #[.string (strB l),.slice p ctx.length q,.int .i64 (n:Int)] w fun e w'=>∃ u,e=.returned u∧Own w' w.heap.size u (zA3 l ctx n)∧Below w.heap.size w w':=by
 have HR:Hid (Rd w p q ctx):=hr;clear hr;have ha:=zJu (P:=prog) zCe l (by simp[zCe];omega);rw[← zHf] at ha
 have hlf:Hid ((zCe++l).length=6+l.length):=by show _=_;simp[zCe];omega
 have hfs:(strB (zCe++l)).size=6+l.length:=by rw[zBN,hlf.out]
 have hb:=zHL (P:=prog) (src:=9) (dst:=22) underlying9 underlying22 underlying5 (zCe++l);have HE:Hid (zA3 l ctx n=putB n 2++[UInt8.ofNat (6+l.length)]++(zCe++l)++[UInt8.ofNat ctx.length]++ctx):=zHg l ctx n
 have hv1:Hid ((6:Int)+(l.length:Int)=((UInt8.ofNat (6+l.length)).toNat:Int)):=by show _=_;rw[UInt8.toNat_ofNat',Nat.mod_eq_of_lt (by omega)];omega
 have hv2:Hid ((ctx.length:Int)=((UInt8.ofNat ctx.length).toNat:Int)):=by show _=_;rw[UInt8.toNat_ofNat',Nat.mod_eq_of_lt (by omega)]
 generalize zCe++l=f at *;go_enter func166,ntmps166;go_wp2_with fail;refine(zH5 _ 2 _ (by omega) (by omega) (by decide) (by decide)).mono ?_;rintro e w1 ⟨u1,rfl,k1,hb1⟩;rw[Int.toNat_natCast,show(2:Int).toNat=2 from rfl] at k1;obtain⟨p1,q1,rfl,-⟩:=k1.rd;rw[zP] at k1 ⊢;have BW:=hb1
 have hfm:Hid (f.length≤46):=by show _≤_;rw[hlf.out];omega
 have k1':=k1.stay (zA w1 (.cells #[.int .u8 ((6:Int)+(l.length:Int))] 5));clear hb1
 go_wp2_with (first
  | (at_builtin;refine zK rfl (.tmp 12) (.tmp 16) rfl w.heap.size _ (putB n 2) rfl k1' _ 1 [UInt8.ofNat (6+l.length)] rfl (zE4 w1 _ _ _ hv1.out) (by simp[zP]) (by have:=BW.size;simp;omega) ?_;intro v2 w2 k2 hg2;replace BW:=(yt BW (.cells #[.int .u8 ((6:Int)+(l.length:Int))] 5)).grown hg2 (by have:=BW.size;simp;omega) (fun k hk=>k1.ge k hk);clear hg2 k1 k1')
  | (at_builtin;refine zK rfl (.tmp 18) (.tmp 20) rfl w.heap.size _ (putB n 2++[UInt8.ofNat (6+l.length)]) rfl (k2.stay (zB1 w2 f)) _ _ f rfl (zHM w2 f (by have:=hfm.out;unfold maxLen;omega)) (by have:=hfm.out;simp[zP];omega) (yn BW (zB1 w2 f)).size ?_;intro v3 w3 k3 hg3;replace BW:=(yn BW (zB1 w2 f)).grown hg3 (yn BW (zB1 w2 f)).size (fun k hk=>k2.ge k hk);clear hg3 k2;have k3':=k3.stay (zA w3 (.cells #[.int .u8 (ctx.length:Int)] 5)))
  | (at_builtin;refine zK rfl (.tmp 21) (.tmp 25) rfl w.heap.size _ (putB n 2++[UInt8.ofNat (6+l.length)]++f) rfl k3' _ 1 [UInt8.ofNat ctx.length] rfl (zE4 w3 _ _ _ hv2.out) (by have:=hfm.out;simp[zP];omega) (by have:=BW.size;simp;omega) ?_;intro v4 w4 k4 hg4;replace BW:=(yt BW (.cells #[.int .u8 (ctx.length:Int)] 5)).grown hg4 (by have:=BW.size;simp;omega) (fun k hk=>k3.ge k hk);clear hg4 k3 k3')
  | (at_builtin;refine zK rfl (.tmp 27) (.tmp 28) rfl w.heap.size _ (putB n 2++[UInt8.ofNat (6+l.length)]++f++[UInt8.ofNat ctx.length]) rfl k4 p q ctx rfl (HR.out.keep BW) (by have:=hfm.out;simp[zP];omega) BW.size ?_;intro v5 w5 k5 hg5;replace BW:=BW.grown hg5 BW.size (fun k hk=>k4.ge k hk);clear hg5 k4))
 go_ret;exact⟨_,rfl,by rw[HE.out];exact k5,BW⟩
def zAP (key l ctx:List UInt8) (n:Nat):List UInt8:=zBL key (zA3 l ctx n) n
def zAG (key l data:List UInt8):List UInt8:=zAP key l (zW data) 32
theorem zCM {l:List UInt8} (h:zAU l=true):l.length≤40:=by
 unfold zAU at h;simp only[Bool.and_eq_true,decide_eq_true_eq] at h;exact h.2
theorem zCN (p p2:Option Addr) (q q2:Nat) (key l ctx:List UInt8) (n:Nat) (w:World) (hr:Rd w p q key) (hr2:Rd w p2 q2 ctx) (hk:key.length≤64) (hl:l.length≤40) (hl2:ctx.length≤100) (hn:n≤255):
  Calls prog 126 #[.slice p key.length q,.string (strB l),.slice p2 ctx.length q2,.int .i64 (n:Int)] w fun e w'=>∃ u,e=.returned u∧Own w' w.heap.size u (zAP key l ctx n)∧Below w.heap.size w w':=by
 have HE:Hid (zAP key l ctx n=zBL key (zA3 l ctx n) n):=rfl;go_enter func126,ntmps126;go_wp2_with fail;refine(zF5 l p2 q2 ctx n _ hr2 hl hl2 hn).mono ?_;rintro e w1 ⟨u1,rfl,k1,hb1⟩;obtain⟨p1,q1,rfl,rd1⟩:=k1.rd
 have HB:Hid ((zA3 l ctx n).length≤400):=by show _≤_;rw[zGH];omega
 generalize zA3 l ctx n=lb at *;have hz:=hb1.size;clear k1;go_wp2_with fail;refine(zJU p p1 q q1 key lb n _ (hr.keep hb1) rd1 hk HB.out hn).mono ?_;rintro e w2 ⟨u2,rfl,k2,hb2⟩;go_wp2;go_ret;exact⟨_,rfl,by rw[HE.out];exact k2.lower hz,yn hb1 hb2⟩
theorem zGX (p p2:Option Addr) (q q2:Nat) (key l data:List UInt8) (w:World) (hr:Rd w p q key) (hr2:Rd w p2 q2 data) (hk:key.length≤64) (hl:l.length≤40) (hl2:data.length≤600):
  Calls prog 132 #[.slice p key.length q,.string (strB l),.slice p2 data.length q2] w fun e w'=>∃ u,e=.returned u∧Own w' w.heap.size u (zAG key l data)∧Below w.heap.size w w':=by
 have HE:Hid (zAG key l data=zAP key l (zW data) 32):=rfl;go_enter func132,ntmps132;go_wp2_with fail;refine(zCi p2 q2 data _ hr2 hl2).mono ?_;rintro e w1 ⟨u1,rfl,k1,hb1⟩;obtain⟨p1,q1,rfl,rd1⟩:=k1.rd;have HB:Hid ((zW data).length=32):=zAz data;generalize zW data=dg at *;have hz:=hb1.size;clear k1;go_wp2_with fail;refine(zCN p p1 q q1 key l dg 32 _ (hr.keep hb1) rd1 hk hl (by rw[HB.out];decide) (by decide)).mono ?_;rintro e w2 ⟨u2,rfl,k2,hb2⟩;go_wp2;go_ret;exact⟨_,rfl,by rw[HE.out];exact k2.lower hz,yn hb1 hb2⟩
def keyB (key:List UInt8):Bool:=decide (key.length≤64)
def zEF (data:List UInt8):Bool:=decide (data.length≤500)
def zEl (key data:List UInt8):Bool:=keyB key&&zEF data
def macC (key data:List UInt8):Int:=if zEl key data then 0 else 2
def macL (key data:List UInt8):List UInt8:=if zEl key data then macN key data else []
def extL (salt data:List UInt8):List UInt8:=if zEl salt data then zAH salt data else []
def zHh (info:List UInt8):Bool:=decide (info.length≤300)
def expC (key info:List UInt8) (n:Int):Int:=if keyB key&&zHh info then (if inB n 0 255 then 0 else 3) else 2
def expL (key info:List UInt8) (n:Int):List UInt8:=if keyB key&&zHh info&&inB n 0 255 then zBL key info n.toNat else []
theorem zKS {n:Int} (h:inB n 0 255=true):∃ m:Nat,n=m∧m≤255:=by
 simp[inB] at h;exact⟨n.toNat,by omega,by omega⟩
def labL (l ctx:List UInt8) (n:Int):List UInt8:=if zAm l ctx n=0 then zA3 l ctx n.toNat else []
theorem zDx {l ctx:List UInt8} {n:Int} (h:zAm l ctx n=0):zAU l=true∧ctx.length≤100∧inB n 0 255=true:=by
 unfold zAm at h;split at h
 ·rename_i h1;split at h
  ·rename_i h2;split at h
   ·rename_i h3;exact⟨h1,h2,h3⟩
   ·cases h
  ·cases h
 ·cases h
def elC (key l ctx:List UInt8) (n:Int):Int:=if keyB key then zAm l ctx n else 2
def elL (key l ctx:List UInt8) (n:Int):List UInt8:=if elC key l ctx n=0 then zAP key l ctx n.toNat else []
def dkC (key l data:List UInt8):Int:=if keyB key then (if zAU l then (if zEF data then 0 else 2) else 5) else 2
def dkL (key l data:List UInt8):List UInt8:=if keyB key&&zAU l&&zEF data then zAG key l data else []
end
section
open Go.RowKit
def zAb:List UInt8:=[100,101,114,105,118,101,100]
def zKT:List UInt8:=[101,120,112,111,114,116,101,114]
def cApB:List UInt8:=[99,32,97,112,32,116,114,97,102,102,105,99]
def sApB:List UInt8:=[115,32,97,112,32,116,114,97,102,102,105,99]
def zC6:List UInt8:=[101,120,112,32,109,97,115,116,101,114]
def zC7:List UInt8:=[114,101,115,32,109,97,115,116,101,114]
theorem zCv:(⟨#[100,101,114,105,118,101,100]⟩:ByteArray)=strB zAb:=rfl
theorem zKU:(⟨#[99,32,97,112,32,116,114,97,102,102,105,99]⟩:ByteArray)=strB cApB:=rfl
theorem zKV:(⟨#[115,32,97,112,32,116,114,97,102,102,105,99]⟩:ByteArray)=strB sApB:=rfl
theorem zIu:(⟨#[101,120,112,32,109,97,115,116,101,114]⟩:ByteArray)=strB zC6:=rfl
theorem zIv:(⟨#[114,101,115,32,109,97,115,116,101,114]⟩:ByteArray)=strB zC7:=rfl
def pskN (psk:List UInt8):List UInt8:=if psk.length=0 then zs 32 else psk
def zAp (psk:List UInt8):List UInt8:=zAH [] (pskN psk)
def zEm (early shared:List UInt8):List UInt8:=zAH (zAG early zAb []) shared
def zH (hand:List UInt8):List UInt8:=zAH (zAG hand zAb []) (zs 32)
def zAI (secret l digest:List UInt8):List UInt8:=zAP secret l digest 32
def zOH (exporter l ctx:List UInt8) (n:Nat):List UInt8:=zAP (zAG exporter l []) zKT (zW ctx) n
theorem zGY (psk:List UInt8):(zAp psk).length=32:=zCS _ _
theorem zKW (early shared:List UInt8):(zEm early shared).length=32:=zCS _ _
theorem zA0 (hand:List UInt8):(zH hand).length=32:=zCS _ _
theorem zFh (key l ctx:List UInt8) (n:Nat):(zAP key l ctx n).length=n:=zCp _ _ _
theorem zFi (secret l digest:List UInt8):(zAI secret l digest).length=32:=zFh _ _ _ _
theorem zCw (key l data:List UInt8):(zAG key l data).length=32:=zFh _ _ _ _
def is32 (s:List UInt8):Bool:=decide (s.length=32)
def esC (psk:List UInt8):Int:=if psk.length≤64 then 0 else 2
def esL (psk:List UInt8):List UInt8:=if esC psk=0 then zAp psk else []
def hsC (early shared:List UInt8):Int:=if is32 early then (if shared.length≤64 then 0 else 2) else 1
def hsL (early shared:List UInt8):List UInt8:=if hsC early shared=0 then zEm early shared else []
def msC (hand:List UInt8):Int:=if is32 hand then 0 else 1
def msL (hand:List UInt8):List UInt8:=if msC hand=0 then zH hand else []
def tfC (secret l digest:List UInt8):Int:=if is32 secret&&is32 digest then (if zAU l then 0 else 5) else 1
def tfL (secret l digest:List UInt8):List UInt8:=if tfC secret l digest=0 then zAI secret l digest else []
def scC (master digest:List UInt8):Int:=if is32 master&&is32 digest then 0 else 1
def scL (master digest l:List UInt8):List UInt8:=if scC master digest=0 then zAI master l digest else []
end
section
open Go.ChangeShapes Go.WideShapes Go.ChangeAt Go.RowKit
def zBQ:List UInt8:=[102,105,110,105,115,104,101,100]
theorem zFB:(⟨#[102,105,110,105,115,104,101,100]⟩:ByteArray)=strB zBQ:=rfl
theorem zM1 (key digest:List UInt8):finN key digest=macN (zAP key zBQ [] 32) digest:=rfl
theorem zGZ (p p2:Option Addr) (q q2:Nat) (key digest:List UInt8) (w:World) (hr:Rd w p q key) (hr2:Rd w p2 q2 digest) (hk:key.length≤64) (hd:digest.length≤500):
  Calls prog 129 #[.slice p key.length q,.slice p2 digest.length q2] w fun e w'=>∃ u,e=.returned u∧Own w' w.heap.size u (finN key digest)∧Below w.heap.size w w':=by
 have HE:Hid (finN key digest=macN (zAP key zBQ [] 32) digest):=rfl
 have K:Hid (∀ w,Rd w p q key→Calls prog 126 #[.slice p key.length q,.string ⟨#[102,105,110,105,115,104,101,100]⟩,.slice none 0 0,.int .i64 32] w fun e w'=>∃ u,e=.returned u∧Own w' w.heap.size u (zAP key zBQ [] 32)∧Below w.heap.size w w'):=fun w h=>by
  rw[zFB];exact zCN p none q 0 key zBQ [] 32 w h ⟨yf _,by unfold maxLen;decide,fun _=>rfl,fun hp=>by simp at hp⟩ hk (by decide) (by decide) (by decide)
 have HL:Hid ((zAP key zBQ [] 32).length=32):=by show _=_;rw[zAP,zCp]
 go_enter func129,ntmps129;go_wp2_with fail;refine(K.out _ hr).mono ?_;rintro e w1 ⟨u1,rfl,k1,hb1⟩;obtain⟨a1,c1,rfl,rd1⟩:=k1.rd;generalize zAP key zBQ [] 32=ek at *;have hz:=hb1.size;clear k1;go_wp2_with fail;refine(zGu a1 p2 c1 q2 ek digest _ rd1 (hr2.keep hb1) (by rw[HL.out];decide) (by omega)).mono ?_;rintro e w2 ⟨u2,rfl,k2,hb2⟩;go_wp2;go_ret;exact⟨_,rfl,by rw[HE.out];exact k2.lower hz,yn hb1 hb2⟩
def fnC (key digest:List UInt8):Int:=if key.length=32∧digest.length=32 then 0 else 1
def fnL (key digest:List UInt8):List UInt8:=if key.length=32∧digest.length=32 then finN key digest else []
end
end Go.Proofs.YtiabacnmmojfjaaGreatDoor
