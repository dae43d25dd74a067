import Derived.Test.YtiabacnmmojfjabGreatDoorJoint18
import Derived.Test.YtiabacnmmojfjabGreatDoorJoint13
import Derived.Test.YtiabacnmmojfjabGreatDoorJoint11
import Derived.Test.YtiabacnmmojfjabGreatDoorJoint6
import Derived.Test.YtiabacnmmojfjabGreatDoorJoint17
set_option maxHeartbeats 2000000
set_option maxRecDepth 4000
open Go.Proofs.Tryz
namespace Go.Proofs.YtiabacnmmojfjabGreatDoor
open Go.ChangeShapes Go.WideShapes Go.ChangeAt Go.RowKit
theorem zId {l:List MsgD} {k:Nat} {a:MsgD} (h:l[k]?=some a) (hl:zN l≤1000000):a.2.length≤1000000:=yi (zGz h) hl
theorem zAO (l:List MsgD) (p:Option Addr) (q:Nat) (w:World) (hr:RdL msgC w p q l) (hl:zN l≤1000000):
  Calls prog 40 #[.slice p l.length q] w fun e w'=>∃ v xs fp,e=.returned v∧OwnL 53 msgC w' w.heap.size v l xs fp∧Below w.heap.size w w':=by
 have HR:Hid (RdL msgC w p q l):=hr;have hq1:l.length≤q:=hr.1;have hq2:q≤2 ^ 63-1:=hr.2.1;have HL:Hid (zN l≤1000000):=hl
 have hln:(l.length:Int)≤1000000:=by
  have:l.length≤zN l:=Nat.le_add_left _ _;omega
 have O1:=zKo w w.heap.size (yf _);have BW:=zA w (.cells #[] 53);clear hr hl;go_enter func40,ntmps40;go_wp2_with fail
 go_loopw [3,4] (fun v i wr=>∃ (k:Nat) (xs:List Value) (fp:List Nat),k≤l.length∧i=.int .i64 k∧OwnL 53 msgC wr w.heap.size v (l.take k) xs fp∧Below w.heap.size w wr)
  (fun _ i _=>l.length-(intOf i).toNat)
 case atStart=>exact⟨0,[],[],Nat.zero_le _,rfl,O1,BW⟩
 case round=>
  clear O1 BW;obtain⟨k,xs,fp,hk,rfl,ho,BW⟩:=hrel
  by_cases hlt:k<l.length
  ·have hI:(k:Int)<(l.length:Int):=by omega
   obtain⟨b,o,e1,hc⟩:=(HR.out.keep BW).2.2.2 (by omega);subst e1;obtain⟨a,ha⟩:∃ a,l[k]?=some a:=⟨l[k],by simp[hlt]⟩;obtain⟨us,hrep,hcell⟩:=hc k a ha;obtain⟨pa,qa,rfl,ra⟩:=zAf hrep;have m0:=hcell 0 _ rfl;have m1:=hcell 1 _ rfl;rw[show msgC.n=2 from rfl] at m0 m1;rw[Nat.add_zero] at m0
   have HTk:Hid (l.take (k+1)=l.take k++[a]):=by show _=_;rw[List.take_add_one,ha];rfl
   have HA:Hid (a.2.length≤1000000):=zId ha HL.out;have HRA:Hid (Rd wr pa qa a.2):=ra;obtain⟨out,HO⟩:∃ out,Hid (out=l.take k):=⟨_,rfl⟩
   have hol:(out.length:Int)=(k:Int):=by rw[HO.out,List.length_take];omega
   have HOL:Hid (out.length=k):=by show _=_;omega
   rw[← HO.out] at ho;obtain⟨po,qo,rfl,hord⟩:=ho.rd;have hqo2:qo≤2 ^ 63-1:=hord.2.1;clear hc hcell hrep ra hord;go_wp2_with fail;have hc0:=yq m0;have hc1:=yq m1;have hne:=yo wr;refine wp_region_mix 11 3 2 rfl (by kernel_rfl) (by kernel_rfl) (by kernel_rfl) (by kernel_rfl) (by kernel_rfl) ?_;simp only[List.take_succ_cons,List.take_zero]
   repeat (go_big_quiet_step (fail))
   refine wpQuiet_nil ?_;refine wpM_call (k:=11) rfl (by kernel_rfl) (by kernel_rfl) (by go_simp) 66 _ #[.slice pa a.2.length qa] (fun w=>by go_simp) rfl ?_;rintro _ ⟨s1,rfl⟩;refine(zBc pa qa a.2 _ (HRA.out.keep s1.h) HA.out).mono ?_;rintro e w3 ⟨u3,rfl,k3,hb3⟩;refine⟨u3,rfl,⟨⟨_,hb3⟩,rfl⟩,?_⟩;obtain⟨pv,qv,rfl,-⟩:=k3.rd;refine wpM_make (k:=12) rfl (by kernel_rfl) (by kernel_rfl) (by go_simp) ?_;rintro _ ⟨s4,rfl⟩;refine⟨.agg #[.int .i64 a.1,.slice pv a.2.length qv],s4.w,by go_simp,⟨⟨_,Below.refl _ _⟩,rfl⟩,?_⟩;refine wpM_make (k:=13) rfl (by kernel_rfl) (by kernel_rfl) (by go_simp) ?_;rintro _ ⟨s5,rfl⟩;refine⟨.slice (some ⟨s5.w.heap.size,0,none⟩) 1 1,s5.w.alloc (.cells #[.int .i64 a.1,.slice pv a.2.length qv] 53),by go_simp,⟨⟨_,zA _ _⟩,rfl⟩,?_⟩;refine wpM_tail rfl (by kernel_rfl) (by decide) ?_;rintro _ ⟨s6,rfl⟩
   have hnew:∀ j u,[Value.int .i64 a.1,.slice pv a.2.length qv][j]?=some u→s6.w.cell? ((⟨s5.w.heap.size,0,none⟩:Addr).add j)=some u:=fun j u hj=>zL ((yp s5.w [.int .i64 a.1,.slice pv a.2.length qv] 53).cells j u hj) s6.h
   have hb4:=yn (yn s4.h s5.h) (yn (zA s5.w (.cells #[.int .i64 a.1,.slice pv a.2.length qv] 53)) s6.h);have k5:=k3.stay hb4;have hb5:=yn (yn s1.h hb3) hb4;have ho5:=ho.stay hb5;have BW5:=yn BW hb5;have hz4:Hid (wr.heap.size≤s1.w.heap.size):=s1.h.size;have hrow5:Hid (s6.w.ownsRow w.heap.size 53 2 (.slice po out.length qo) out.length xs):=ho5.row;generalize s6.w=W at *;generalize s5.w.heap.size=H5 at *;generalize s1.w.heap.size=H1 at *;clear hc0 hc1 hne;simp only[yd,ye];obtain⟨i0,hi,hz0,hz1,hz2⟩:=info_parts zBV
   go_simp
   go_wp2_with (at_builtin;refine wpList_append_lies _ rfl (.tmp 12) (.tmp 25) 33 rfl w.heap.size 53 i0 (.agg #[.int .i64 0,.slice none 0 0]) 2 32 underlying33 hi hz0 hz1 hz2 rfl (by decide) (.slice po out.length qo) out.length xs rfl hrow5.out ⟨H5,0,none⟩ 1 1 [.int .i64 a.1,.slice pv a.2.length qv] rfl rfl hnew (by intro u hu;simp at hu;rcases hu with rfl | rfl <;> rfl) (by decide) (by unfold maxLen;omega) (by omega) BW5.size W.heap.size rfl ?_;intro g6 c6 w6 hown6 hgrow6 hat6 hlt6)
   have hlow:Hid (∀ j,(Value.slice pv a.2.length qv).ownBlock=some j→H1≤j):=fun j hj=>k5.ge j hj
   have hinsO:Hid (∀ j,j∈(Value.slice po out.length qo).ownBlock.toList++fp→j<wr.heap.size):=fun j hj=>(ho.ins j hj).2
   have ka:=zAL (a:=a) (k5.lower (B':=w.heap.size) (by have:=hz4.out;have:=BW.size;omega))
   have OP:=ho5.push ka (fun j hj hj2=>by
    have h1:=hlow.out j (mem_opt.1 hj);have h2:=hinsO.out j hj2;have h3:=hz4.out
    omega) (k:=out.length+1) (v':=.slice (some ⟨g6,0,none⟩) (out.length+1) c6) (g:=g6) hown6 (by simp) hgrow6 rfl hat6
   have BW6:=BW5.grown hgrow6 BW5.size (fun k hk=>by have h:=hinsO.out k;have h2:=(ho5.ins k (List.mem_append_left _ (mem_opt.2 hk))).1;exact h2);rw[HO.out,← HTk.out] at OP;clear ho ho5 k3 k5 hown6 hgrow6 hat6 hnew hrow5 ka BW5 BW hb3 hb4 hb5 m0 m1;go_wp2_with fail;go_roundw
   case rel=>exact⟨k+1,_,_,by omega,by go_num,by first | exact OP | (rw[← HO.out] at OP;exact OP),BW6⟩
   case measure=>simp[intOf];omega
  ·have e:k=l.length:=by omega
   subst e;rw[List.take_length] at ho;obtain⟨po,qo,rfl,-⟩:=ho.rd;go_wp2_with fail;go_ret;exact⟨_,_,_,rfl,ho,BW⟩
theorem zC0 (s:zO) (p p2:Option Addr) (q q2:Nat) (w:World) (hr:Rd w p q s.2.1) (hr2:Rd w p2 q2 s.2.2.2) (hl:s.2.1.length≤1000000) (hl2:s.2.2.2.length≤1000000):
  Calls prog 91 #[.agg #[.int .i64 s.1,.slice p s.2.1.length q,.int .i64 s.2.2.1,.slice p2 s.2.2.2.length q2]] w fun e w'=>∃ u v fp,e=.returned (.agg #[.int .i64 s.1,u,.int .i64 s.2.2.1,v])∧sideC.own w' w.heap.size s [.int .i64 s.1,u,.int .i64 s.2.2.1,v] fp∧Below w.heap.size w w':=by
 have HR2:Hid (Rd w p2 q2 s.2.2.2):=hr2;have BW:=yr (zA w (.cells #[.int .i64 s.1,.slice p s.2.1.length q,.int .i64 s.2.2.1,.slice p2 s.2.2.2.length q2] 32)) (.cells #[.int .i64 0,.slice none 0 0,.int .i64 0,.slice none 0 0] 32);have A:=(yp w [.int .i64 s.1,.slice p s.2.1.length q,.int .i64 s.2.2.1,.slice p2 s.2.2.2.length q2] 32).old _ (.cells #[.int .i64 0,.slice none 0 0,.int .i64 0,.slice none 0 0] 32);have R:=yp (w.alloc (.cells #[.int .i64 s.1,.slice p s.2.1.length q,.int .i64 s.2.2.1,.slice p2 s.2.2.2.length q2] 32)) [.int .i64 0,.slice none 0 0,.int .i64 0,.slice none 0 0] 32;rw[zB] at R;have K1:=zBc p q s.2.1 _ (hr.keep BW) hl;have HL2:Hid (s.2.2.2.length≤1000000):=hl2
 have hz0:Hid (((w.alloc (.cells #[.int .i64 s.1,.slice p s.2.1.length q,.int .i64 s.2.2.1,.slice p2 s.2.2.2.length q2] 32)).alloc (.cells #[.int .i64 0,.slice none 0 0,.int .i64 0,.slice none 0 0] 32)).heap.size=w.heap.size+2):=by show _=_;rw[zB,zB]
 clear hr hr2 hl hl2;go_enter func91,ntmps91;go_wp2_with fail;refine K1.mono ?_;rintro e w1 ⟨u1,rfl,k1,hb1⟩;rw[hz0.out] at k1;obtain⟨a1,c1,rfl,-⟩:=k1.rd;replace A:=A.stay hb1;replace R:=R.stay hb1;replace BW:=yn BW hb1;have f0:=A.frozen;have a1c:=zQ (A.cell 1) rfl;have a3c:=zQ (A.cell 3) rfl;have A2:=A.set 1 (.slice a1 s.2.1.length c1);have R2:=R.setOther (a:=⟨w.heap.size,1,none⟩) (by show w.heap.size+1≠w.heap.size;omega) (.slice a1 s.2.1.length c1);have BW2:=BW.setCell (p:=⟨w.heap.size,1,none⟩) (yf _) (.slice a1 s.2.1.length c1);have k12:=k1.set (a:=⟨w.heap.size,1,none⟩) (by show w.heap.size<w.heap.size+2;omega) (.slice a1 s.2.1.length c1)
 have HG:Hid (∀ k,(Value.slice a1 s.2.1.length c1).ownBlock=some k→k<w1.heap.size):=fun k hk=>k1.lt k hk
 have hz1:Hid (w.heap.size+2≤w1.heap.size):=by have h:=hb1.size;rw[hz0.out] at h;exact h
 clear hb1 K1 k1 A R BW;simp only[List.set_cons_zero,List.set_cons_succ] at A2;have hsz:Hid ((w1.setCell ⟨w.heap.size,1,none⟩ (.slice a1 s.2.1.length c1)).heap.size=w1.heap.size):=World.size_setCell _ _ _;have K2:=zBc p2 q2 s.2.2.2 _ (HR2.out.keep BW2) HL2.out;generalize eW:w1.setCell ⟨w.heap.size,1,none⟩ (.slice a1 s.2.1.length c1)=W1 at *;have a3d:=zQ (A2.cell 3) rfl;go_wp2_with fail;refine K2.mono ?_;rintro e w2 ⟨u2,rfl,k2,hb2⟩;obtain⟨a2,c2,rfl,-⟩:=k2.rd;rw[hsz.out] at k2
 have HG2:Hid (∀ k,(Value.slice a2 s.2.2.2.length c2).ownBlock=some k→w1.heap.size≤k):=fun k hk=>k2.ge k hk
 replace k2:=k2.lower hz1.out;replace k12:=k12.stay hb2;replace A2:=A2.stay hb2;replace R2:=R2.stay hb2;replace BW2:=yn BW2 hb2;obtain⟨d0,d1,d2,d3⟩:=zc4 A2;have fd:=A2.frozen;obtain⟨r0,r1,r2,r3⟩:=zc4 R2;have fr:=R2.frozen;clear A2 R2 K2 hb2 eW a1c a3c a3d f0;go_wp2_with fail;refine bodyPost_ret (v:=.agg #[.int .i64 s.1,.slice a1 s.2.1.length c1,.int .i64 s.2.2.1,.slice a2 s.2.2.2.length c2]) (by simp[results,results91,go_sem,r0,r1,r2,r3]) rfl ⟨_,_,_,rfl,sideC.low (zBb 0 zBB (zBb w1.heap.size (zB6 (u:=.slice a1 s.2.1.length c1) ?_) (zBb 0 zBB (zB6 (u:=.slice a2 s.2.2.2.length c2) ?_) zE7 (fun _ _=>Nat.zero_le _)) (fun k hk=>HG.out k (mem_opt.1 hk)) (zKZ zI1 (fun k hk=>HG2.out k (mem_opt.1 hk)))) zE7 (fun _ _=>Nat.zero_le _)) (Nat.le_add_right _ 2),?_⟩
 ·exact(((((k12.set (by show w.heap.size<_;omega) _).set (by show w.heap.size+1<_;omega) _).set (by show w.heap.size+1<_;omega) _).set (by show w.heap.size+1<_;omega) _).set (by show w.heap.size+1<_;omega) _)
 ·exact(((((k2.set (by show w.heap.size<_;omega) _).set (by show w.heap.size+1<_;omega) _).set (by show w.heap.size+1<_;omega) _).set (by show w.heap.size+1<_;omega) _).set (by show w.heap.size+1<_;omega) _)
 ·exact((((BW2.setCell (yf _) _).setCell zzA _).setCell zzA _).setCell zzA _).setCell zzA _
theorem zR {α β:Type} {c:Cod α} {d:Cod β} {w:World} {B:Nat} {a:α×β} {us ts:List Value} {f g:List Nat} (h1:c.own w B a.1 us f) (h2:d.own w B a.2 ts g) (hd:∀ k,k∈f→k∉g):(zB2 c d).own w B a (us++ts) (f++g):=
 ⟨us,ts,f,g,rfl,rfl,List.nodup_append.2 ⟨c.nd h1,d.nd h2,fun _ ha _ hb e=>hd _ ha (e▸hb)⟩,h1,h2⟩
theorem zDR (w:World) (B:Nat):bytC.own w B [] [.slice none 0 0] []:=⟨_,rfl,zK _ _,rfl⟩
theorem zDS (w:World) (B:Nat):secretsC.own w B zeroX [.slice none 0 0,.slice none 0 0,.slice none 0 0,.slice none 0 0] []:=
 zR (a:=zeroX) (us:=[.slice none 0 0]) (f:=[]) (zDR w B) (zR (a:=zeroX.2) (us:=[.slice none 0 0]) (f:=[]) (zDR w B) (zR (a:=zeroX.2.2) (us:=[.slice none 0 0]) (f:=[]) (zDR w B) (zDR w B) (fun _ h=>by cases h)) (fun _ h=>by cases h)) (fun _ h=>by cases h)
theorem zEU {w:World} {B:Nat} {e:EndD} {us xs:List Value} {um ub:Value} {fs fm fb fx:List Nat} (ks:sideC.own w B e.1 us fs) (km:msgsC.own w B e.2.2.2.1 [um] fm) (kb:bytC.own w B e.2.2.2.2.1 [ub] fb) (kx:secretsC.own w B e.2.2.2.2.2 xs fx)
  (a1:∀ k,k∈fs→k∉fm) (a2:∀ k,k∈fs→k∉fb) (a3:∀ k,k∈fs→k∉fx) (a4:∀ k,k∈fm→k∉fb) (a5:∀ k,k∈fm→k∉fx) (a6:∀ k,k∈fb→k∉fx):
  endC.own w B e (us++([.int .i64 e.2.1]++([.int .i64 e.2.2.1]++([um]++([ub]++xs))))) (fs++([]++([]++(fm++(fb++fx))))):=
 zR (a:=e) ks (zR (a:=e.2) (us:=[.int .i64 e.2.1]) zBB (zR (a:=e.2.2) (us:=[.int .i64 e.2.2.1]) zBB (zR (a:=e.2.2.2) km (zR (a:=e.2.2.2.2) kb kx a6) (fun k h h2=>by
  rcases List.mem_append.1 h2 with h3 | h3
  ·exact a4 k h h3
  ·exact a5 k h h3)) (fun _ h=>by cases h)) (fun _ h=>by cases h)) (fun k h h2=>by
  simp only[yl,ym] at h2;rcases h2 with h3 | h3 | h3
  ·exact a1 k h h3
  ·exact a2 k h h3
  ·exact a3 k h h3)
theorem zC1 {w:World} {B:Nat} {r:zAb} {us:List Value} {ud:Value} {fe fd:List Nat} (ke:endC.own w B r.2.1 us fe) (kd:msgsC.own w B r.2.2 [ud] fd) (hd:∀ k,k∈fe→k∉fd):
  endResultC.own w B r ([.int .i64 r.1]++(us++[ud])) ([]++(fe++fd)):=
 zR (a:=r) (us:=[.int .i64 r.1]) zBB (zR (a:=r.2) ke kd hd) (fun _ h=>by cases h)
theorem zF7 (w:World) (B:Nat):endC.own w B zLA [.int .i64 0,.slice none 0 0,.int .i64 0,.slice none 0 0,.int .i64 0,.int .i64 0,.slice none 0 0,.slice none 0 0,.slice none 0 0,.slice none 0 0,.slice none 0 0,.slice none 0 0] []:=
 zEU (e:=zLA) (us:=[.int .i64 0,.slice none 0 0,.int .i64 0,.slice none 0 0]) (fs:=[]) (fm:=[]) (fb:=[]) (fx:=[]) (zR (a:=zeroS) (us:=[.int .i64 0]) (f:=[]) zBB (zR (a:=zeroS.2) (us:=[.slice none 0 0]) (f:=[]) (zDR w B) (zR (a:=zeroS.2.2) (us:=[.int .i64 0]) (f:=[]) zBB (zDR w B) (fun _ h=>by cases h)) (fun _ h=>by cases h)) (fun _ h=>by cases h)) ⟨_,_,_,rfl,zEM w B,rfl⟩ (zDR w B) (zDS w B) (fun _ h=>by cases h) (fun _ h=>by cases h) (fun _ h=>by cases h) (fun _ h=>by cases h) (fun _ h=>by cases h) (fun _ h=>by cases h)
theorem zAQ (w:World) (B:Nat) (c:Int):endResultC.own w B (badE c) [.int .i64 c,.int .i64 0,.slice none 0 0,.int .i64 0,.slice none 0 0,.int .i64 0,.int .i64 0,.slice none 0 0,.slice none 0 0,.slice none 0 0,.slice none 0 0,.slice none 0 0,.slice none 0 0,.slice none 0 0] []:=
 zC1 (r:=badE c) (fe:=[]) (fd:=[]) (zF7 w B) ⟨_,_,_,rfl,zEM w B,rfl⟩ (fun _ h=>by cases h)
theorem zJR {w:World} {B g:Nat} {l:List MsgD} {xs:List Value} {fp:List Nat} (A:Arr w g 53 xs) (hg:B≤g) (hall:OwnAll msgC w B l xs fp) (hnd:fp.Nodup) (hne:g∉fp) (hn:l.length≤1000):
  OwnL 53 msgC w B (.slice (some ⟨g,0,none⟩) l.length l.length) l xs fp:=by
 have hl:=hall.len;refine⟨⟨hl,.inr ⟨g,l.length,xs.toArray,rfl,hg,A,yf _,by unfold maxLen;omega,by simpa using hl,?_⟩⟩,hall,?_⟩
 ·rw[List.take_of_length_le (by simp[hl])]
 ·show([g]++fp).Nodup
  exact List.nodup_append.2 ⟨by simp,hnd,fun x hx y hy e=>by
   rw[List.mem_singleton.1 hx] at e;subst e
   exact hne hy⟩
theorem zME {w:World} {B g q:Nat} {k:Int} {p:Option Addr} {bs:List UInt8} (A:Arr w g 53 [.int .i64 k,.slice p bs.length q]) (hg:B≤g) (o:Own w B (.slice p bs.length q) bs) (hne:g∉(Value.slice p bs.length q).ownBlock.toList):
  msgsC.own w B [(k,bs)] [.slice (some ⟨g,0,none⟩) 1 1] (g :: (Value.slice p bs.length q).ownBlock.toList):=by
 have h:=zJR (l:=[(k,bs)]) A hg ⟨_,[],_,[],by simp,by simp,zAL (a:=(k,bs)) o,rfl,rfl⟩ (zAo _) hne (by simp);exact⟨_,_,_,rfl,h,rfl⟩
theorem zAv {w:World} {g q:Nat} {k:Int} {p:Option Addr} {bs:List UInt8} (A:Arr w g 53 [.int .i64 k,.slice p bs.length q]) (r:Rd w p q bs):RdL msgC w (some ⟨g,0,none⟩) 1 [(k,bs)]:=by
 refine⟨yf _,by unfold maxLen;omega,(fun e=>by cases e),fun _=>⟨g,0,rfl,fun i a hi=>?_⟩⟩
 have h0:i=0:=by
  have:=(List.getElem?_eq_some_iff.1 hi).1;simp at this;exact this
 subst h0;cases hi;refine⟨_,zDM (a:=(k,bs)) r,fun j u hj=>?_⟩;rw[Nat.zero_mul,Nat.zero_add];exact(A.cell j).trans hj
end Go.Proofs.YtiabacnmmojfjabGreatDoor
