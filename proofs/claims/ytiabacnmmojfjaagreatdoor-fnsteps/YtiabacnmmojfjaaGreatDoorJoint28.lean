import Derived.Test.YtiabacnmmojfjaaGreatDoorJoint17
import Derived.Test.YtiabacnmmojfjaaGreatDoorRows
import Derived.Lib.LaidTab
import Derived.Stop.LaidErr
import Derived.Test.YtiabacnmmojfjaaGreatDoorJoint23
import Derived.Test.YtiabacnmmojfjaaGreatDoorJoint27
import Derived.Test.YtiabacnmmojfjaaGreatDoorJoint18
import Derived.Test.YtiabacnmmojfjaaGreatDoorJoint25
import Derived.Test.YtiabacnmmojfjaaGreatDoorJoint7
set_option maxHeartbeats 1000000
set_option maxRecDepth 4000
open Go.Proofs.Tryz
namespace Go.Proofs.YtiabacnmmojfjaaGreatDoor
section
open Go.RowKit
theorem zML : Tryz.prog.globalNamed "loop.example/g00375/impl.digestStart" = some 0 := by kernel_rfl
theorem zNn : Tryz.prog.globalNamed "loop.example/g00375/impl.roundKeys" = some 1 := by kernel_rfl
theorem zND:(Tryz.prog.globals[0]?).map (·.type)=some 207:=by kernel_rfl
theorem zNo:(Tryz.prog.globals[1]?).map (·.type)=some 223:=by kernel_rfl
theorem zMM:Tryz.prog.cellsOf 205=1:=by kernel_rfl
theorem zNp:Tryz.prog.cellsOf 207=8:=by kernel_rfl
theorem zNq:Tryz.prog.cellsOf 223=64:=by kernel_rfl
theorem zF1 {P:Program} {w:World} {name:String} {k:IntKind} {zs:List Int} {g:Nat} (h:Lib.TabIs P w name k zs) (hg:P.globalNamed name=some g):
  ∃ t fr,w.heap[g]?=some (.cells (zs.map fun z=>Value.int k z).toArray t fr):=by
 unfold Lib.TabIs World.var? at h;rw[hg,Option.bind_some] at h;split at h
 ·rename_i cs t fr e;rw[Option.some.inj h] at e;exact⟨t,fr,e⟩
 ·cases h
theorem zL4 (l:List Nat):(l.map Int.ofNat).map (fun z=>Value.int .u32 z)=l.map u32v:=by simp[u32v]
theorem zNE {W : World} (h : laidMet prog [("loop.example/g00375/impl.digestStart", Rows.laid_loop_example_g00375_impl_digestStart), ("loop.example/g00375/impl.roundKeys", Rows.laid_loop_example_g00375_impl_roundKeys)] W) : Tabs W := by
 have h1:=zF1 (Lib.tabIs_of_head (k:=.u32) (zs:=startN.list.map Int.ofNat) zML zND underlying207 underlying205 zMM zNp h) zML;have h2:=zF1 (Lib.tabIs_of_head (k:=.u32) (zs:=keysN.map Int.ofNat) zNn zNo underlying223 underlying205 zMM zNq h.tail) zNn;rw[zL4] at h1 h2;exact⟨h1,h2⟩
end
section
open Go.ChangeShapes Go.WideShapes Go.ChangeAt Go.RowKit
theorem zL5 (p p2:Option Addr) (q q2:Nat) (master digest:List UInt8) (w:World) (hr:Rd w p q master) (hr2:Rd w p2 q2 digest) (hT:Tabs w):
  Calls prog 114 #[.slice p master.length q,.slice p2 digest.length q2] w fun e w'=>∃ u1 u2 u3 u4,e=.returned (.agg #[.int .i64 (scC master digest),u1,u2,u3,u4])∧Own w' w.heap.size u1 (scL master digest cApB)∧Own w' w.heap.size u2 (scL master digest sApB)∧Own w' w.heap.size u3 (scL master digest zC6)∧Own w' w.heap.size u4 (scL master digest zC7)∧(u1.ownBlock.toList++(u2.ownBlock.toList++(u3.ownBlock.toList++u4.ownBlock.toList))).Nodup∧Below w.heap.size w w':=by
 cases h1:is32 master
 ·have hc:scC master digest=1:=by simp[scC,h1]
  have hn:∀ l,scL master digest l=[]:=fun l=>by rw[scL,if_neg (by rw[hc];decide)]
  rw[hc,hn,hn,hn,hn];go_enter func114,ntmps114;go_wp2_with fail;refine(zBG p q master _).mono ?_;rintro e w' ⟨rfl,hw⟩;subst hw;rw[h1];go_wp2;exact bodyPost_ret (v:=.agg #[.int .i64 1,.slice none 0 0,.slice none 0 0,.slice none 0 0,.slice none 0 0]) (by simp[results,results114,go_sem]) rfl ⟨_,_,_,_,rfl,zO _ _,zO _ _,zO _ _,zO _ _,by simp[Value.ownBlock],zA _ _⟩
 ·cases h2:is32 digest
  ·have hc:scC master digest=1:=by simp[scC,h1,h2]
   have hn:∀ l,scL master digest l=[]:=fun l=>by rw[scL,if_neg (by rw[hc];decide)]
   rw[hc,hn,hn,hn,hn];go_enter func114,ntmps114;go_wp2_with fail;refine(zBG p q master _).mono ?_;rintro e w' ⟨rfl,hw⟩;subst hw;rw[h1];go_wp2_with fail;refine(zBG p2 q2 digest _).mono ?_;rintro e w' ⟨rfl,hw⟩;subst hw;rw[h2];go_wp2;exact bodyPost_ret (v:=.agg #[.int .i64 1,.slice none 0 0,.slice none 0 0,.slice none 0 0,.slice none 0 0]) (by simp[results,results114,go_sem]) rfl ⟨_,_,_,_,rfl,zO _ _,zO _ _,zO _ _,zO _ _,by simp[Value.ownBlock],zA _ _⟩
  ·have l1:master.length=32:=by simpa [is32] using h1
   have l2:digest.length=32:=by simpa [is32] using h2
   have hc:scC master digest=0:=by simp[scC,h1,h2]
   have hn:∀ l,scL master digest l=zAI master l digest:=fun l=>by rw[scL,if_pos hc]
   rw[hc,hn,hn,hn,hn]
   have K1:Hid (∀ w,Rd w p q master→Rd w p2 q2 digest→Tabs w→Calls prog 159 #[.slice p master.length q,.string ⟨#[99,32,97,112,32,116,114,97,102,102,105,99]⟩,.slice p2 digest.length q2] w fun e w'=>∃ u,e=.returned (.agg #[.int .i64 0,u])∧Own w' w.heap.size u (zAI master cApB digest)∧Below w.heap.size w w'):=fun w h h' h''=>by
    have g:=zEU p p2 q q2 master cApB digest w h h' (by decide) h''
    have e3:zAU cApB=true:=by decide
    rw[show tfC master cApB digest=0 by simp[tfC,h1,h2,e3],show tfL master cApB digest=zAI master cApB digest by simp[tfL,tfC,h1,h2,e3]] at g;rw[zKU];exact g
   obtain⟨t1,T1⟩:∃ t,Hid (t=zAI master cApB digest):=⟨_,rfl⟩;rw[← T1.out] at K1 ⊢
   have K2:Hid (∀ w,Rd w p q master→Rd w p2 q2 digest→Tabs w→Calls prog 159 #[.slice p master.length q,.string ⟨#[115,32,97,112,32,116,114,97,102,102,105,99]⟩,.slice p2 digest.length q2] w fun e w'=>∃ u,e=.returned (.agg #[.int .i64 0,u])∧Own w' w.heap.size u (zAI master sApB digest)∧Below w.heap.size w w'):=fun w h h' h''=>by
    have g:=zEU p p2 q q2 master sApB digest w h h' (by decide) h''
    have e3:zAU sApB=true:=by decide
    rw[show tfC master sApB digest=0 by simp[tfC,h1,h2,e3],show tfL master sApB digest=zAI master sApB digest by simp[tfL,tfC,h1,h2,e3]] at g;rw[zKV];exact g
   obtain⟨t2,T2⟩:∃ t,Hid (t=zAI master sApB digest):=⟨_,rfl⟩;rw[← T2.out] at K2 ⊢
   have K3:Hid (∀ w,Rd w p q master→Rd w p2 q2 digest→Tabs w→Calls prog 159 #[.slice p master.length q,.string ⟨#[101,120,112,32,109,97,115,116,101,114]⟩,.slice p2 digest.length q2] w fun e w'=>∃ u,e=.returned (.agg #[.int .i64 0,u])∧Own w' w.heap.size u (zAI master zC6 digest)∧Below w.heap.size w w'):=fun w h h' h''=>by
    have g:=zEU p p2 q q2 master zC6 digest w h h' (by decide) h''
    have e3:zAU zC6=true:=by decide
    rw[show tfC master zC6 digest=0 by simp[tfC,h1,h2,e3],show tfL master zC6 digest=zAI master zC6 digest by simp[tfL,tfC,h1,h2,e3]] at g;rw[zIu];exact g
   obtain⟨t3,T3⟩:∃ t,Hid (t=zAI master zC6 digest):=⟨_,rfl⟩;rw[← T3.out] at K3 ⊢
   have K4:Hid (∀ w,Rd w p q master→Rd w p2 q2 digest→Tabs w→Calls prog 159 #[.slice p master.length q,.string ⟨#[114,101,115,32,109,97,115,116,101,114]⟩,.slice p2 digest.length q2] w fun e w'=>∃ u,e=.returned (.agg #[.int .i64 0,u])∧Own w' w.heap.size u (zAI master zC7 digest)∧Below w.heap.size w w'):=fun w h h' h''=>by
    have g:=zEU p p2 q q2 master zC7 digest w h h' (by decide) h''
    have e3:zAU zC7=true:=by decide
    rw[show tfC master zC7 digest=0 by simp[tfC,h1,h2,e3],show tfL master zC7 digest=zAI master zC7 digest by simp[tfL,tfC,h1,h2,e3]] at g;rw[zIv];exact g
   obtain⟨t4,T4⟩:∃ t,Hid (t=zAI master zC7 digest):=⟨_,rfl⟩;rw[← T4.out] at K4 ⊢;have HR:Hid (Rd w p q master):=hr;have HR2:Hid (Rd w p2 q2 digest):=hr2;have HT:Hid (Tabs w):=hT;clear l1 l2 hc hn hr hr2 hT T1 T2 T3 T4;go_enter func114,ntmps114;go_wp2_with fail;refine(zBG p q master _).mono ?_;rintro e w' ⟨rfl,hw⟩;subst hw;rw[h1];go_wp2_with fail;refine(zBG p2 q2 digest _).mono ?_;rintro e w' ⟨rfl,hw⟩;subst hw;rw[h2];go_wp2_with fail;refine(K1.out _ (HR.out.keep (zA _ _)) (HR2.out.keep (zA _ _)) (HT.out.keep (zA _ _))).mono ?_;rintro e w1 ⟨u1,rfl,k1,hb⟩;have C:=(yr w [.int .i64 0,.slice none 0 0,.slice none 0 0,.slice none 0 0,.slice none 0 0] 137).stay hb;have BW:=yu hb;have hz:Hid (w.heap.size<w1.heap.size):=zC8 hb;rw[zB] at k1
   have b1:Hid (∀ k,u1.ownBlock=some k→k<w1.heap.size):=fun k e=>k1.lt k e
   obtain⟨a1,c1,rfl,-⟩:=k1.rd;have f1:=zAk 0 a1 t1.length c1;clear hb;go_wp2_with fail;refine(K2.out _ (HR.out.keep BW) (HR2.out.keep BW) (HT.out.keep BW)).mono ?_;rintro e w2 ⟨u2,rfl,k2,hb⟩;replace C:=C.stay hb;replace BW:=yn BW hb;replace k1:=k1.stay hb
   have g2:Hid (∀ k,u2.ownBlock=some k→w1.heap.size≤k):=fun k e=>k2.ge k e
   have l2:Hid (w1.heap.size≤w2.heap.size):=hb.size
   have b2:Hid (∀ k,u2.ownBlock=some k→k<w2.heap.size):=fun k e=>k2.lt k e
   obtain⟨a2,c2,rfl,-⟩:=k2.rd;have f2:=zAk 0 a2 t2.length c2;clear hb f1;go_wp2_with fail;refine(K3.out _ (HR.out.keep BW) (HR2.out.keep BW) (HT.out.keep BW)).mono ?_;rintro e w3 ⟨u3,rfl,k3,hb⟩;replace C:=C.stay hb;replace BW:=yn BW hb;replace k1:=k1.stay hb;replace k2:=k2.stay hb
   have g3:Hid (∀ k,u3.ownBlock=some k→w2.heap.size≤k):=fun k e=>k3.ge k e
   have l3:Hid (w2.heap.size≤w3.heap.size):=hb.size
   have b3:Hid (∀ k,u3.ownBlock=some k→k<w3.heap.size):=fun k e=>k3.lt k e
   obtain⟨a3,c3,rfl,-⟩:=k3.rd;have f3:=zAk 0 a3 t3.length c3;clear hb f2;go_wp2_with fail;refine(K4.out _ (HR.out.keep BW) (HR2.out.keep BW) (HT.out.keep BW)).mono ?_;rintro e w4 ⟨u4,rfl,k4,hb⟩;replace C:=C.stay hb;replace BW:=yn BW hb;replace k1:=k1.stay hb;replace k2:=k2.stay hb;replace k3:=k3.stay hb
   have g4:Hid (∀ k,u4.ownBlock=some k→w3.heap.size≤k):=fun k e=>k4.ge k e
   have l4:Hid (w3.heap.size≤w4.heap.size):=hb.size
   have b4:Hid (∀ k,u4.ownBlock=some k→k<w4.heap.size):=fun k e=>k4.lt k e
   obtain⟨a4,c4,rfl,-⟩:=k4.rd;have f4:=zAk 0 a4 t4.length c4;clear hb f3;have e0:=C.cell 0;have e1:=C.cell 1;have e2:=C.cell 2;have e3:=C.cell 3;have e4:=C.cell 4;simp at e0 e1 e2 e3 e4;have fz:=C.frozen
   have HN:Hid (((Value.slice a1 t1.length c1).ownBlock.toList++((Value.slice a2 t2.length c2).ownBlock.toList++((Value.slice a3 t3.length c3).ownBlock.toList++(Value.slice a4 t4.length c4).ownBlock.toList))).Nodup):=by
    have z2:=l2.out;have z3:=l3.out;have z4:=l4.out;refine List.nodup_append.2 ⟨zAo _,List.nodup_append.2 ⟨zAo _,List.nodup_append.2 ⟨zAo _,zAo _,fun x hx y hy e=>?_⟩,fun x hx y hy e=>?_⟩,fun x hx y hy e=>?_⟩
    ·have h1:=b3.out x (mem_opt.1 hx);have h2:=g4.out y (mem_opt.1 hy);omega
    ·have h1:=b2.out x (mem_opt.1 hx);rcases List.mem_append.1 hy with h | h
     ·have h2:=g3.out y (mem_opt.1 h);omega
     ·have h2:=g4.out y (mem_opt.1 h);omega
    ·have h1:=b1.out x (mem_opt.1 hx);rcases List.mem_append.1 hy with h | h
     ·have h2:=g2.out y (mem_opt.1 h);omega
     ·rcases List.mem_append.1 h with h | h
      ·have h2:=g3.out y (mem_opt.1 h);omega
      ·have h2:=g4.out y (mem_opt.1 h);omega
   have hz2:w.heap.size+1≤w1.heap.size:=hz.out;have hz3:w.heap.size+1≤w2.heap.size:=yi hz2 l2.out;have hz4:w.heap.size+1≤w3.heap.size:=yi hz3 l3.out;replace k1:=k1.lower (B':=w.heap.size+1) (yf _);replace k2:=k2.lower hz2;replace k3:=k3.lower hz3;replace k4:=k4.lower hz4;clear g2 g3 g4 b1 b2 b3 b4 hz2 hz3 hz4 K1 K2 K3 K4 HR HR2 HT;go_wp2;have hlt:w.heap.size<w.heap.size+1:=yg _
   have S:∀ {v:Value} {bs:List UInt8},Own w4 (w.heap.size+1) v bs→∀ x0 x1 x2 x3 x4,Own (((((w4.setCell ⟨w.heap.size,0,none⟩ x0).setCell ⟨w.heap.size,1,none⟩ x1).setCell ⟨w.heap.size,2,none⟩ x2).setCell ⟨w.heap.size,3,none⟩ x3).setCell ⟨w.heap.size,4,none⟩ x4) w.heap.size v bs:=fun k x0 x1 x2 x3 x4=>
    (((((k.set (a:=⟨w.heap.size,0,none⟩) hlt x0).set (a:=⟨w.heap.size,1,none⟩) hlt x1).set (a:=⟨w.heap.size,2,none⟩) hlt x2).set (a:=⟨w.heap.size,3,none⟩) hlt x3).set (a:=⟨w.heap.size,4,none⟩) hlt x4).lower (yh _)
   refine bodyPost_ret (v:=.agg #[.int .i64 0,.slice a1 t1.length c1,.slice a2 t2.length c2,.slice a3 t3.length c3,.slice a4 t4.length c4]) (by simp[results,results114,go_sem,e0,e1,e2,e3,e4]) rfl ⟨_,_,_,_,rfl,S k1 _ _ _ _ _,S k2 _ _ _ _ _,S k3 _ _ _ _ _,S k4 _ _ _ _ _,HN.out,?_⟩;exact((((BW.setCell (p:=⟨w.heap.size,0,none⟩) (yf _) _).setCell (p:=⟨w.heap.size,1,none⟩) (yf _) _).setCell (p:=⟨w.heap.size,2,none⟩) (yf _) _).setCell (p:=⟨w.heap.size,3,none⟩) (yf _) _).setCell (p:=⟨w.heap.size,4,none⟩) (yf _) _
theorem zL6 (p p2:Option Addr) (q q2:Nat) (master digest:List UInt8) (w:World) (hr:Rd w p q master) (hr2:Rd w p2 q2 digest) (hT:Tabs w):
  Calls prog 114 #[.slice p master.length q,.slice p2 digest.length q2] w fun e w'=>∃ us fp,e=.returned (.agg us.toArray)∧secretsResultC.own w' w.heap.size (scD master digest) us fp∧Below w.heap.size w w':=by
 refine(zL5 p p2 q q2 master digest w hr hr2 hT).mono ?_;rintro e w' ⟨u1,u2,u3,u4,rfl,o1,o2,o3,o4,hn,hb⟩;exact⟨_,_,rfl,zFF (a:=scD master digest) o1 o2 o3 o4 hn,hb⟩
theorem zHB (l:List MsgD) (p:Option Addr) (q:Nat) (w:World) (hr:RdL msgC w p q l) (hT:Tabs w):
  Calls prog 113 #[.slice p l.length q] w fun e w'=>∃ u,e=.returned (.agg #[.int .i64 (psC l),u])∧Own w' w.heap.size u (trL l)∧Below w.heap.size w w':=by
 have BW:=zA w (.cells #[.int .i64 0,.slice none 0 0] 129);have R:=yr w [.int .i64 0,.slice none 0 0] 129;have hz0:Hid ((w.alloc (.cells #[.int .i64 0,.slice none 0 0] 129)).heap.size=w.heap.size+1):=zB _ _;have KP:=zLb l p q _ (hr.keep BW);have HT:Hid (Tabs w):=hT;clear hr hT
 by_cases hc:psC l=0
 ·have hpl:psL l=zG l:=by rw[psL,if_pos hc]
  have H600:Hid ((zG l).length≤600):=(zIZ hc).2.2;rw[hc,hpl] at KP;rw[hc,show trL l=zW (zG l) by rw[trL,if_pos hc]];clear hc hpl;generalize zG l=bs at *;go_enter func113,ntmps113;go_wp2_with fail;refine KP.mono ?_;rintro e w1 ⟨u1,rfl,k1,hb1⟩;obtain⟨a1,c1,rfl,-⟩:=k1.rd;have hl:=zA w1 (.cells #[.int .i64 0,.slice a1 bs.length c1] 129);replace R:=(R.stay hb1).stay hl;replace BW:=yn (yn BW hb1) hl;replace k1:=k1.stay hl
  have hz2:Hid (w.heap.size+1≤(w1.alloc (.cells #[.int .i64 0,.slice a1 bs.length c1] 129)).heap.size):=by have h:=(yn hb1 hl).size;rw[hz0.out] at h;exact h
  have KD:=zIy a1 c1 bs _ (Rd.own k1) (HT.out.keep BW);rw[show zEG bs=0 by simp[zEG,H600.out],show zEH bs=zW bs by simp[zEH,H600.out]] at KD;clear hb1 hl KP;go_wp2_with fail;refine KD.mono ?_;rintro e w2 ⟨u2,rfl,k2,hb2⟩;obtain⟨a2,c2,rfl,-⟩:=k2.rd;replace k2:=k2.lower hz2.out;replace R:=R.stay hb2;replace BW:=yn BW hb2;obtain⟨t0,t1⟩:=zc2 R;have ft:=R.frozen;clear R hb2 KD;go_wp2_with fail;exact bodyPost_ret (v:=.agg #[.int .i64 0,.slice a2 (zW bs).length c2]) (by simp[results,results113,go_sem,t0,t1]) rfl ⟨_,rfl,((k2.set (yg _) _).set (yg _) _).lower (yh _),(BW.setCell (yf _) _).setCell (yf _) _⟩
 ·have hd:(psC l != 0)=true:=by rw[bne_iff_ne];exact hc
  rw[show trL l=[] by rw[trL,if_neg hc]];rw[show psL l=[] by rw[psL,if_neg hc]] at KP;clear hc;generalize psC l=ac at *;go_enter func113,ntmps113;go_wp2_with fail;refine KP.mono ?_;rintro e w1 ⟨u1,rfl,k1,hb1⟩;obtain⟨a1,c1,rfl,-⟩:=k1.rd;rw[hz0.out] at k1;have hl:=zA w1 (.cells #[.int .i64 ac,.slice a1 ([]:List UInt8).length c1] 129);replace R:=(R.stay hb1).stay hl;replace BW:=yn (yn BW hb1) hl;replace k1:=k1.stay hl;obtain⟨t0,t1⟩:=zc2 R;have ft:=R.frozen;clear R hb1 hl KP;simp only[List.length_nil] at k1 BW t0 t1 ft ⊢;go_wp2_with fail;exact bodyPost_ret (v:=.agg #[.int .i64 ac,.slice a1 0 c1]) (by simp[results,results113,go_sem,t0,t1]) rfl ⟨_,rfl,((k1.set (yg _) _).set (yg _) _).lower (yh _),(BW.setCell (yf _) _).setCell (yf _) _⟩
theorem zJD (s:List UInt8) (l:List MsgD) (p p2:Option Addr) (q q2:Nat) (w:World) (hs:Rd w p q s) (hr:RdL msgC w p2 q2 l) (hT:Tabs w):
  Calls prog 156 #[.slice p s.length q,.slice p2 l.length q2] w fun e w'=>∃ u,e=.returned (.agg #[.int .i64 (fmD s l).1,.int .i64 (fmD s l).2.1,u])∧Own w' w.heap.size u (fmD s l).2.2∧Below w.heap.size w w':=by
 have BW:=zA w (.cells #[.int .i64 0,.int .i64 0,.slice none 0 0] 150);have R:=yr w [.int .i64 0,.int .i64 0,.slice none 0 0] 150;have hz0:Hid ((w.alloc (.cells #[.int .i64 0,.int .i64 0,.slice none 0 0] 150)).heap.size=w.heap.size+1):=zB _ _;have HS:Hid (Rd w p q s):=hs;have KT:=zHB l p2 q2 _ (hr.keep BW) (hT.keep BW);have HT:Hid (Tabs w):=hT;clear hs hr hT;cases h1:is32 s
 ·rw[zEt (s:=s) (l:=l) (by rw[fmC,h1];simp),show fmC s l=1 by rw[fmC,h1];rfl];clear KT;go_enter func156,ntmps156;go_wp2_with fail;refine(zFR p q s _).mono ?_;rintro e w1 ⟨rfl,hw⟩;subst w1;rw[h1];go_wp2_with fail;exact bodyPost_ret (v:=.agg #[.int .i64 1,.int .i64 0,.slice none 0 0]) (by simp[results,results156,go_sem]) rfl ⟨_,rfl,zO _ _,zA _ _⟩
 ·have h32:s.length=32:=by simpa [is32] using h1
  have HF:Hid (fmC s l=psC l):=by show _=_;rw[fmC,h1];rfl
  by_cases hc:psC l=0
  ·rw[zHr (s:=s) (l:=l) (by rw[HF.out];exact hc)];rw[hc,show trL l=zW (zG l) by rw[trL,if_pos hc]] at KT;have HD:Hid ((zW (zG l)).length=32):=zAz _;rw[show fmL s l=finN s (zW (zG l)) from rfl];have H32:Hid (s.length=32):=h32;clear hc h32 HF;generalize zW (zG l)=dg at *
   have HFN:Hid (fnC s dg=0∧fnL s dg=finN s dg):=by
    have h:=And.intro H32.out HD.out;exact⟨by rw[fnC,if_pos h],by rw[fnL,if_pos h]⟩
   go_enter func156,ntmps156;go_wp2_with fail;refine(zFR p q s _).mono ?_;rintro e w1 ⟨rfl,hw⟩;subst w1;rw[h1];go_wp2_with fail;refine KT.mono ?_;rintro e w1 ⟨u1,rfl,k1,hb1⟩;obtain⟨a1,c1,rfl,-⟩:=k1.rd;have hl:=zA w1 (.cells #[.int .i64 0,.slice a1 dg.length c1] 129);replace R:=(R.stay hb1).stay hl;replace BW:=yn (yn BW hb1) hl;replace k1:=k1.stay hl
   have hz2:Hid (w.heap.size+1≤(w1.alloc (.cells #[.int .i64 0,.slice a1 dg.length c1] 129)).heap.size):=by have h:=(yn hb1 hl).size;rw[hz0.out] at h;exact h
   have KF:=zLa p a1 q c1 s dg _ (HS.out.keep BW) (Rd.own k1) (HT.out.keep BW);rw[HFN.out.1,HFN.out.2] at KF;clear hb1 hl KT;go_wp2_with fail;refine KF.mono ?_;rintro e w2 ⟨u2,rfl,k2,hb2⟩;obtain⟨a2,c2,rfl,-⟩:=k2.rd;replace k2:=k2.lower hz2.out;have hl2:=zA w2 (.cells #[.int .i64 0,.slice a2 (finN s dg).length c2] 129);replace k2:=k2.stay hl2;replace R:=(R.stay hb2).stay hl2;replace BW:=yn (yn BW hb2) hl2;obtain⟨t0,t1,t2⟩:=zc3 R;have ft:=R.frozen;clear R hb2 hl2 k1 KF;go_wp2_with fail;exact bodyPost_ret (v:=.agg #[.int .i64 0,.int .i64 20,.slice a2 (finN s dg).length c2]) (by simp[results,results156,go_sem,t0,t1,t2]) rfl ⟨_,rfl,(((k2.set (yg _) _).set (yg _) _).set (yg _) _).lower (yh _),(((BW.setCell (yf _) _).setCell (yf _) _).setCell (yf _) _)⟩
  ·have hd:(psC l != 0)=true:=by rw[bne_iff_ne];exact hc
   rw[zEt (s:=s) (l:=l) (by rw[HF.out];exact hc),HF.out];clear hc h32 HF;generalize psC l=ac at *;go_enter func156,ntmps156;go_wp2_with fail;refine(zFR p q s _).mono ?_;rintro e w1 ⟨rfl,hw⟩;subst w1;rw[h1];go_wp2_with fail;refine KT.mono ?_;rintro e w1 ⟨u1,rfl,k1,hb1⟩;obtain⟨a1,c1,rfl,-⟩:=k1.rd;have hl:=zA w1 (.cells #[.int .i64 ac,.slice a1 (trL l).length c1] 129);replace R:=(R.stay hb1).stay hl;replace BW:=yn (yn BW hb1) hl;obtain⟨t0,t1,t2⟩:=zc3 R;have ft:=R.frozen;clear R hb1 hl k1 KT;go_wp2_with fail;exact bodyPost_ret (v:=.agg #[.int .i64 ac,.int .i64 0,.slice none 0 0]) (by simp[results,results156,go_sem,t0,t1,t2]) rfl ⟨_,rfl,zO _ _,(((BW.setCell (yf _) _).setCell (yf _) _).setCell (yf _) _)⟩
theorem zL7 (s:List UInt8) (l:List MsgD) (m:MsgD) (p p2 p3:Option Addr) (q q2 q3:Nat) (w:World) (hs:Rd w p q s) (hr:RdL msgC w p2 q2 l) (hm:Rd w p3 q3 m.2) (hT:Tabs w):
  Calls prog 153 #[.slice p s.length q,.slice p2 l.length q2,.agg #[.int .i64 m.1,.slice p3 m.2.length q3]] w fun e w'=>e=.returned (.int .i64 (cfC s l m))∧Below w.heap.size w w':=by
 have BW:=zA w (.cells #[.int .i64 m.1,.slice p3 m.2.length q3] 46);have A:=yr w [.int .i64 m.1,.slice p3 m.2.length q3] 46;have KM:=zJD s l p p2 q q2 _ (hs.keep BW) (hr.keep BW) (hT.keep BW);have HM:Hid (Rd w p3 q3 m.2):=hm;have KF:=zFL m.1 m.2.length q3 p3;clear hs hr hm hT
 suffices H:∀ Q:Ending→World→Prop,Hid (∀ c w',c=cfC s l m→Below w.heap.size w w'→Q (.returned (.int .i64 c)) w')→Calls prog 153 #[.slice p s.length q,.slice p2 l.length q2,.agg #[.int .i64 m.1,.slice p3 m.2.length q3]] w Q from H _ (show Hid _ from fun c w' hc hb=>⟨by rw[hc],hb⟩)
 intro Q HQ
 by_cases hf:fmC s l=0
 ·have hcf:Hid (cfC s l m=if zF m.1 m.2.length=0 then (if m.1=20 then (if m.2=fmL s l then 0 else 7) else 1) else zF m.1 m.2.length):=by show _=_;rw[cfC,if_pos hf]
  rw[zHr hf] at KM;clear hf;generalize fmL s l=fl at *
  by_cases hc:zF m.1 m.2.length=0
  ·have KF2:Hid (∀ w,Calls prog 44 #[.agg #[.int .i64 m.1,.slice p3 m.2.length q3]] w fun e w'=>e=.returned (.int .i64 0)∧Below w.heap.size w w'):=fun w=>by have h:=KF w;rw[hc] at h;exact h
   replace hcf:Hid (cfC s l m=(if m.1=20 then (if m.2=fl then 0 else 7) else 1)):=by show _=_;rw[hcf.out,if_pos hc]
   clear hc KF;go_enter func153,ntmps153;go_wp2_with fail;refine KM.mono ?_;rintro e w1 ⟨u1,rfl,k1,hb1⟩;obtain⟨a1,c1,rfl,-⟩:=k1.rd;have hl:=zA w1 (.cells #[.int .i64 0,.int .i64 20,.slice a1 fl.length c1] 150);have N:=yr w1 [.int .i64 0,.int .i64 20,.slice a1 fl.length c1] 150;replace A:=(A.stay hb1).stay hl;replace BW:=yn (yn BW hb1) hl;replace k1:=k1.stay hl;obtain⟨b0,b1⟩:=zc2 A;clear hb1 hl KM;go_wp2_with fail;refine(KF2.out _).mono ?_;rintro e w2 ⟨rfl,hb2⟩;replace A:=A.stay hb2;replace N:=N.stay hb2;replace BW:=yn BW hb2;replace k1:=k1.stay hb2;replace b0:=zQ (A.cell 0) rfl;replace b1:=zQ (A.cell 1) rfl;have n2:=zQ (N.cell 2) rfl;clear hb2
   by_cases hk:m.1=20
   ·have dk:(m.1 != 20)=false:=by rw[bne_eq_false_iff_eq];exact hk
    replace hcf:Hid (cfC s l m=(if m.2=fl then 0 else 7)):=by show _=_;rw[hcf.out,if_pos hk]
    clear hk;go_wp2_with fail;refine(zGM p3 a1 q3 c1 m.2 fl _ (HM.out.keep BW) (Rd.own k1)).mono ?_;rintro e w3 ⟨rfl,hb3⟩;replace BW:=yn BW hb3;clear hb3
    by_cases he:m.2=fl
    ·rw[show zD9 m.2 fl=true by simp[zD9,he]]
     replace hcf:Hid (cfC s l m=0):=by show _=_;rw[hcf.out,if_pos he]
     clear he;go_wp2;exact HQ.out _ _ hcf.out.symm BW
    ·rw[show zD9 m.2 fl=false by simp[zD9,he]]
     replace hcf:Hid (cfC s l m=7):=by show _=_;rw[hcf.out,if_neg he]
     clear he;go_wp2;exact HQ.out _ _ hcf.out.symm BW
   ·have dk:(m.1 != 20)=true:=by rw[bne_iff_ne];exact hk
    replace hcf:Hid (cfC s l m=1):=by show _=_;rw[hcf.out,if_neg hk]
    clear hk;go_wp2;exact HQ.out _ _ hcf.out.symm BW
  ·have hd:(zF m.1 m.2.length != 0)=true:=by rw[bne_iff_ne];exact hc
   replace hcf:Hid (cfC s l m=zF m.1 m.2.length):=by show _=_;rw[hcf.out,if_neg hc]
   have KF2:Hid (∀ w,Calls prog 44 #[.agg #[.int .i64 m.1,.slice p3 m.2.length q3]] w fun e w'=>e=.returned (.int .i64 (zF m.1 m.2.length))∧Below w.heap.size w w'):=KF;clear hc KF;generalize zF m.1 m.2.length=ac at *;go_enter func153,ntmps153;go_wp2_with fail;refine KM.mono ?_;rintro e w1 ⟨u1,rfl,k1,hb1⟩;obtain⟨a1,c1,rfl,-⟩:=k1.rd;have hl:=zA w1 (.cells #[.int .i64 0,.int .i64 20,.slice a1 fl.length c1] 150);replace A:=(A.stay hb1).stay hl;replace BW:=yn (yn BW hb1) hl;obtain⟨b0,b1⟩:=zc2 A;clear hb1 hl KM k1;go_wp2_with fail;refine(KF2.out _).mono ?_;rintro e w2 ⟨rfl,hb2⟩;replace BW:=yn BW hb2;clear hb2;go_wp2;exact HQ.out _ _ hcf.out.symm BW
 ·have hd:(fmC s l != 0)=true:=by rw[bne_iff_ne];exact hf
  have hcf:Hid (cfC s l m=fmC s l):=by show _=_;rw[cfC,if_neg hf]
  rw[zEt hf] at KM;clear hf;generalize fmC s l=ac at *;go_enter func153,ntmps153;go_wp2_with fail;refine KM.mono ?_;rintro e w1 ⟨u1,rfl,k1,hb1⟩;obtain⟨a1,c1,rfl,-⟩:=k1.rd;have hl:=zA w1 (.cells #[.int .i64 ac,.int .i64 0,.slice a1 0 c1] 150);replace BW:=yn (yn BW hb1) hl;clear hb1 hl KM A;go_wp2;exact HQ.out _ _ hcf.out.symm BW
end
end Go.Proofs.YtiabacnmmojfjaaGreatDoor
