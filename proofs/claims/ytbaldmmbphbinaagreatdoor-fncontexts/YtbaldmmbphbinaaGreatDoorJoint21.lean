import Derived.Test.YtbaldmmbphbinaaGreatDoorJoint19
import Derived.Test.YtbaldmmbphbinaaGreatDoorJoint18
import Derived.Test.YtbaldmmbphbinaaGreatDoorJoint14
import Derived.Test.YtbaldmmbphbinaaGreatDoorJoint1
import Derived.Handy
set_option maxHeartbeats 1000000
set_option maxRecDepth 4000
namespace Go.Proofs.YtbaldmmbphbinaaGreatDoor
open Go.ChangeShapes Go.WideShapes Go.ChangeAt Go.RowKit
theorem zKn (x y:UInt8):bits .or .i64 ((x.toNat:Int)*256) (y.toNat:Int)=(x.toNat:Int)*256+y.toNat:=by
 have hx:=x.toNat_lt;have hy:=y.toNat_lt
 have e:∀ n:Nat,n<18446744073709551616→(BitVec.ofInt 64 (n:Int)).toNat=n:=fun n hn=>by rw[BitVec.toNat_ofInt];omega
 have h2:y.toNat<2 ^ 8:=by omega
 rw[show((x.toNat:Int)*256)=((x.toNat*256:Nat):Int) by omega]
 show IntKind.i64.wrap ((BitVec.ofInt 64 ((x.toNat*256:Nat):Int) ||| BitVec.ofInt 64 (y.toNat:Int)).toNat:Int)=_
 rw[BitVec.toNat_or,e _ (by omega),e _ (by omega),show x.toNat*256=x.toNat <<< 8 by rw[Nat.shiftLeft_eq],← Nat.shiftLeft_add_eq_or_of_lt h2,Nat.shiftLeft_eq,IntKind.wrap_i64];omega
theorem RdL.front {α:Type} {c:Cod α} {w:World} {p:Option Addr} {q:Nat} {l:List α} (h:RdL c w p q l) (n:Nat):RdL c w p q (l.take n):=by
 obtain⟨h1,h2,h3,h4⟩:=h;refine⟨by rw[List.length_take];omega,h2,h3,fun hp=>?_⟩;obtain⟨b,o,rfl,hc⟩:=h4 (by rw[List.length_take] at hp;omega);refine⟨b,o,rfl,fun i a hi=>hc i a ?_⟩;have hlt:=(List.getElem?_eq_some_iff.1 hi).1;rw[List.length_take] at hlt;rw[List.getElem?_take_of_lt (by omega)] at hi;exact hi
theorem zKo (l:List zH) (p:Option Addr) (q:Nat) (w:World) (hr:RdL certC w p q l):
  Calls Tryz.prog 93 #[.slice p l.length q] w fun e w'=>e=.returned (.int .i64 (ctC l))∧Below w.heap.size w w':=by
 have HR:Hid (RdL certC w p q l):=hr;have hq1:l.length≤q:=hr.1;have hq2:q≤2 ^ 63-1:=hr.2.1;clear hr
 by_cases hl:l.length≤8
 ·have hlI:¬ (8<(l.length:Int)):=by omega
  have HC:Hid (ctC l=cgC [] l):=by show _=_;rw[ctC,if_pos hl]
  go_enter Tryz.func93,Tryz.ntmps93;go_wp2
  go_loopw [10] (fun i wr=>∃ k:Nat,k≤l.length∧i=.int .i64 k∧ctC l=cgC (l.take k) (l.drop k)∧Below w.heap.size w wr)
   (fun i _=>l.length-(intOf i).toNat)
  case atStart=>exact⟨0,Nat.zero_le _,rfl,HC.out,Below.refl _ _⟩
  case round=>
   obtain⟨k,hk,rfl,hn,BW⟩:=hrel
   by_cases hlt:k<l.length
   ·have hI:(k:Int)<(l.length:Int):=by omega
    obtain⟨b,o,e1,hc⟩:=(HR.out.keep BW).2.2.2 (by omega);subst e1;obtain⟨a,ha⟩:∃ a,l[k]?=some a:=⟨l[k],by simp[hlt]⟩;obtain⟨us,hrep,hcell⟩:=hc k a ha;obtain rfl:=zBk hrep;have c0:=hcell 0 _ rfl;have c1:=hcell 1 _ rfl;have c2:=hcell 2 _ rfl;rw[show certC.n=3 from rfl] at c0 c1 c2;rw[Nat.add_zero] at c0;have A:=Arr.new wr [.int .i64 a.1,.int .i64 a.2.1,.int .i64 a.2.2] 62;have B2:=Below.mk BW (.cells #[.int .i64 a.1,.int .i64 a.2.1,.int .i64 a.2.2] 62);have K1:Hid (Calls Tryz.prog 112 #[.agg #[.int .i64 a.1,.int .i64 a.2.1,.int .i64 a.2.2]] (wr.alloc (.cells #[.int .i64 a.1,.int .i64 a.2.1,.int .i64 a.2.2] 62)) fun e w'=>e=.returned (.bool (okC a))∧Below (wr.alloc (.cells #[.int .i64 a.1,.int .i64 a.2.1,.int .i64 a.2.2] 62)).heap.size (wr.alloc (.cells #[.int .i64 a.1,.int .i64 a.2.1,.int .i64 a.2.2] 62)) w'):=zD5 a _;clear hc hcell hrep;cases ho:okC a
    ·have hn2:Hid (ctC l=3):=hn.trans (zJM ha ho);rw[ho] at K1;clear hn;go_wp2_with fail;refine K1.out.mono ?_;rintro e w2 ⟨rfl,hb2⟩;go_wp2;go_ret;exact⟨by rw[hn2.out];rfl,Below.step B2 hb2⟩
    ·rw[ho] at K1;go_wp2_with fail;refine K1.out.mono ?_;rintro e V ⟨rfl,hb2⟩;have A2:=A.stay hb2;have B3:=Below.step B2 hb2;have l0:=zQ (A2.cell 0) rfl
     have KO:Hid (∀ W:World,Below V.heap.size V W→Calls Tryz.prog 113 #[.slice (some ⟨b,o,none⟩) k q,.int .i64 a.1] W fun e w'=>e=.returned (.agg #[.int .i64 (foC (l.take k) a.1).1,.int .i64 (foC (l.take k) a.1).2.1,.int .i64 (foC (l.take k) a.1).2.2])∧Below W.heap.size W w'):=fun W hW=>by
      have h:=zKj (l.take k) (some ⟨b,o,none⟩) q a.1 W (((HR.out.keep B3).keep hW).front k);rw[List.length_take,Nat.min_eq_left hk] at h;exact h
     obtain⟨f,hf⟩:∃ f,Hid (foC (l.take k) a.1=f):=⟨_,rfl⟩;rw[hf.out] at KO;clear K1 hb2 A c0 c1 c2 B2 BW;have HO:=zBc ho;cases ht:hasC (l.take k) a.1
     ·have hn2:Hid (ctC l=cgC (l.take (k+1)) (l.drop (k+1))):=hn.trans (zHM ha ho ht);have hz:f=zC:=hf.out.symm.trans (zHL ht);subst hz;clear hn ht HO hf;go_wp2_with fail;apply zBR
      case h=>
       intro JN;have BB:=Below.refl V.heap.size V;have hne:=HW.some V;have g0:=HW.at (l0);refine wp_region_pick [0,1,2,3,4,6] 7 1 1 rfl rfl rfl (by kernel_rfl) (by kernel_rfl) (by kernel_rfl) (by kernel_rfl) ?_;simp only[zL,List.getElem?_toArray,List.getElem?_cons_zero,List.getElem?_cons_succ]
       repeat (go_big_quiet_step (fail))
       refine wpQuiet_nil ?_;clear g0;refine wpM_only (i:=5) (by kernel_rfl) ?_;refine mOp_call rfl (by go_simp) 113 _ #[.slice (some ⟨b,o,none⟩) k q,.int .i64 a.1] (fun w=>by go_simp) rfl ?_;rintro _ ⟨sg,rfl⟩;refine(KO.out _ (Below.step BB sg.h)).mono ?_;rintro e wg1 ⟨rfl,hbx⟩;have hbg:=Below.step sg.h hbx;refine⟨_,rfl,⟨⟨wg1,hbx⟩,rfl⟩,?_⟩;replace BB:=Below.step BB hbg;clear hbg hbx sg;replace hne:=HW.some wg1;refine wpM_end (by kernel_rfl) rfl (by kernel_rfl) (by decide) ?_;rintro _ ⟨sz,rfl⟩;simp only[List.drop_succ_cons,List.drop_zero]
       go_simp
       replace BB:=Below.step BB sz.h;clear hne;generalize sz.w=W at *;clear sz;revert BB;revert W;exact JN.out
      case hj=>
      intro W BB;have B4:=Below.step B3 BB;go_wp2_with fail;go_roundw
      case rel=>exact⟨k+1,by omega,by go_num,hn2.out,B4⟩
      case measure=>simp[intOf];omega
     ·have hn2:Hid (ctC l=6):=hn.trans (zGD ha ho ht);obtain⟨j,hj,hj2⟩:=zJL ht;rw[hf.out] at hj2
      have d0:(f.1==0)=false:=by rw[beq_eq_false_iff_ne];omega
      clear hn ht hj hj2 HO hf;go_wp2_with fail;apply zBR
      case h=>
       intro JN;have BB:=Below.refl V.heap.size V;have hne:=HW.some V;have g0:=HW.at (l0);refine wp_region_pick [0,1,2,3,4,6] 7 1 1 rfl rfl rfl (by kernel_rfl) (by kernel_rfl) (by kernel_rfl) (by kernel_rfl) ?_;simp only[zL,List.getElem?_toArray,List.getElem?_cons_zero,List.getElem?_cons_succ]
       repeat (go_big_quiet_step (fail))
       refine wpQuiet_nil ?_;clear g0;refine wpM_only (i:=5) (by kernel_rfl) ?_;refine mOp_call rfl (by go_simp) 113 _ #[.slice (some ⟨b,o,none⟩) k q,.int .i64 a.1] (fun w=>by go_simp) rfl ?_;rintro _ ⟨sg,rfl⟩;refine(KO.out _ (Below.step BB sg.h)).mono ?_;rintro e wg1 ⟨rfl,hbx⟩;have hbg:=Below.step sg.h hbx;refine⟨_,rfl,⟨⟨wg1,hbx⟩,rfl⟩,?_⟩;replace BB:=Below.step BB hbg;clear hbg hbx sg;replace hne:=HW.some wg1;refine wpM_end (by kernel_rfl) rfl (by kernel_rfl) (by decide) ?_;rintro _ ⟨sz,rfl⟩;simp only[List.drop_succ_cons,List.drop_zero]
       go_simp
       replace BB:=Below.step BB sz.h;clear hne;generalize sz.w=W at *;clear sz;revert BB;revert W;exact JN.out
      case hj=>
      intro W BB;have B4:=Below.step B3 BB;go_wp2_with fail;go_ret;exact⟨by rw[hn2.out];rfl,B4⟩
   ·have e:k=l.length:=by omega
    subst e;have hn2:Hid (ctC l=0):=hn.trans (zJN l);clear hn;go_wp2;go_ret;exact⟨by rw[hn2.out];rfl,BW⟩
 ·have hlI:8<(l.length:Int):=by omega
  rw[show ctC l=2 by rw[ctC,if_neg hl]];clear hl;go_enter Tryz.func93,Tryz.ntmps93;go_wp2;go_ret;exact⟨rfl,Below.refl _ _⟩
theorem zHf (c:zH) (w:World):
  Calls Tryz.prog 121 #[.agg #[.int .i64 c.1,.int .i64 c.2.1,.int .i64 c.2.2]] w fun e w'=>∃ u,e=.returned (.agg #[.int .i64 (pcD c).1,u])∧Own w' w.heap.size u (pcD c).2∧Below w.heap.size w w':=by
 have BW:=Below.mk (zA w (.cells #[.int .i64 c.1,.int .i64 c.2.1,.int .i64 c.2.2] 62)) (.cells #[.int .i64 0,.slice none 0 0] 126);have A:=(Arr.new w [.int .i64 c.1,.int .i64 c.2.1,.int .i64 c.2.2] 62).old _ (.cells #[.int .i64 0,.slice none 0 0] 126);have R:=Arr.new (w.alloc (.cells #[.int .i64 c.1,.int .i64 c.2.1,.int .i64 c.2.2] 62)) [.int .i64 0,.slice none 0 0] 126;rw[zD] at R;have K1:=zD5 c ((w.alloc (.cells #[.int .i64 c.1,.int .i64 c.2.1,.int .i64 c.2.2] 62)).alloc (.cells #[.int .i64 0,.slice none 0 0] 126));cases hc:okC c
 ·rw[hc] at K1;rw[show pcD c=(3,[]) by simp[pcD,hc]];have KK:Hid (Calls Tryz.prog 112 #[.agg #[.int .i64 c.1,.int .i64 c.2.1,.int .i64 c.2.2]] _ _):=K1;go_enter Tryz.func121,Tryz.ntmps121;go_wp2_with fail;refine KK.out.mono ?_;rintro e w2 ⟨rfl,hb⟩;have R2:=R.stay hb;have r0:=R2.cell 0;have r1:=R2.cell 1;have fr:=R2.frozen;simp at r0 r1;have B2:=Below.step BW hb;clear KK K1 A R hb R2;go_wp2_with fail;refine bodyPost_ret (v:=.agg #[.int .i64 3,.slice none 0 0]) (by simp[results,Tryz.results121,go_sem,r0,r1]) rfl ⟨_,rfl,zAA _ _,(B2.setCell (by show w.heap.size≤w.heap.size+1;omega) _).setCell (by show w.heap.size≤w.heap.size+1;omega) _⟩
 ·rw[hc] at K1;rw[show pcD c=(0,pcL c) by simp[pcD,hc]];have KK:Hid (Calls Tryz.prog 112 #[.agg #[.int .i64 c.1,.int .i64 c.2.1,.int .i64 c.2.2]] _ _):=K1;go_enter Tryz.func121,Tryz.ntmps121;go_wp2_with fail;refine KK.out.mono ?_;rintro e w2 ⟨rfl,hb⟩;have R2:=R.stay hb;have A2:=A.stay hb;have r0:=R2.cell 0;have r1:=R2.cell 1;have fr:=R2.frozen;have a0:=A2.cell 0;have a1:=A2.cell 1;have a2:=A2.cell 2;have R3:=R2.old _ (.cells #[.int .u8 (c.1 % 256),.int .u8 (c.2.1 % 256),.int .u8 (c.2.2 / 256 % 256),.int .u8 (c.2.2 % 256)] 5);have s0:=R3.cell 0;have s1:=R3.cell 1;have fs:=R3.frozen;simp at r0 r1 a0 a1 a2 s0 s1;have B2:=Below.step BW hb;have hlt:Hid (w.heap.size+1<w2.heap.size):=R2.lt;have k3:=zDn w2 (pcL c) w2.heap.size (Nat.le_refl _) (by simp[pcL]);have hp:=zBc hc
  rw[show((pcL c).map u8v).toArray=#[.int .u8 (c.1 % 256),.int .u8 (c.2.1 % 256),.int .u8 (c.2.2 / 256 % 256),.int .u8 (c.2.2 % 256)] by
   simp only[pcL,List.map_cons,List.map_nil];rw[zDV (by omega),zDV (by omega),zDV (by omega),show c.2.2.toNat / 256=(c.2.2 / 256).toNat by omega,zDV (by omega)],show(pcL c).length=4 from rfl] at k3
  have HK:Hid (Own _ _ _ _):=k3;clear KK K1 A R hb A2 hp k3;go_wp2_with fail;refine bodyPost_ret (v:=.agg #[.int .i64 0,.slice (some ⟨w2.heap.size,0,none⟩) 4 4]) (by simp[results,Tryz.results121,go_sem,s0,s1]) rfl ⟨_,rfl,?_,((Below.mk B2 _).setCell (by show w.heap.size≤w.heap.size+1;omega) _).setCell (by show w.heap.size≤w.heap.size+1;omega) _⟩;exact((HK.out.set (a:=⟨w.heap.size+1,0,none⟩) hlt.out _).set (a:=⟨w.heap.size+1,1,none⟩) hlt.out _).lower (B':=w.heap.size) (by have:=hlt.out;omega)
theorem zKp (bs:List UInt8) (p:Option Addr) (q:Nat) (w:World) (hr:Rd w p q bs):
  Calls Tryz.prog 116 #[.slice p bs.length q] w fun e w'=>e=.returned (aggC (ucD bs))∧Below w.heap.size w w':=by
 have BW:=zA w (.cells #[.int .i64 0,.int .i64 0,.int .i64 0,.int .i64 0] 142);have R:=Arr.new w [.int .i64 0,.int .i64 0,.int .i64 0,.int .i64 0] 142
 by_cases h4:bs.length=4
 ·obtain⟨x0,x1,x2,x3,rfl⟩:=zGp h4;have hq:4≤q:=hr.1;have hqm:q≤2 ^ 63-1:=hr.2.1;have hr2:=hr.keep BW;obtain⟨b0,o0,rfl,hc⟩:=hr2.2.2.2 (by simp);have d0:=hc 0 (by simp);have d1:=hc 1 (by simp);have d2:=hc 2 (by simp);have d3:=hc 3 (by simp);rw[Nat.add_zero] at d0;rw[show at8 [x0,x1,x2,x3] 0=x0.toNat from rfl] at d0;rw[show at8 [x0,x1,x2,x3] 1=x1.toNat from rfl] at d1;rw[show at8 [x0,x1,x2,x3] 2=x2.toNat from rfl] at d2;rw[show at8 [x0,x1,x2,x3] 3=x3.toNat from rfl] at d3;clear hc h4 hr hr2;go_enter Tryz.func116,Tryz.ntmps116;go_wp2_with fail;generalize hV:w.alloc (.cells #[.int .i64 0,.int .i64 0,.int .i64 0,.int .i64 0] 142)=V at *;apply zBR
  case h=>
   intro JN;have BB:=Below.refl V.heap.size V;have hne:=HW.some V;have g0:=HW.at (d0);have g1:=HW.at (d1);have g2:=HW.at (d2);have g3:=HW.at (d3);refine wp_region_pick [0,1,2,3,4,5,6,7,8,9,10,11,12,13,14,15,16,17,18] 20 1 1 rfl rfl rfl (by kernel_rfl) (by kernel_rfl) (by kernel_rfl) (by kernel_rfl) ?_;simp only[zL,List.getElem?_toArray,List.getElem?_cons_zero,List.getElem?_cons_succ]
   repeat (go_big_quiet_step (fail))
   refine wpQuiet_nil ?_;clear g0 g1 g2 g3;refine wpM_only (i:=19) (by kernel_rfl) ?_;refine mOp_make rfl (by go_simp) ?_;rintro _ ⟨sg,rfl⟩;refine⟨.pointer (some ⟨sg.w.heap.size,0,none⟩),sg.w.alloc (.cells #[.int .i64 0,.int .i64 0,.int .i64 0] 62),by go_simp,⟨⟨_,zA _ _⟩,rfl⟩,?_⟩;have hbg:=Below.step sg.h (zA sg.w (.cells #[.int .i64 0,.int .i64 0,.int .i64 0] 62));have AA:=Arr.new sg.w [.int .i64 0,.int .i64 0,.int .i64 0] 62;have GG:=(Below.step BB sg.h).size;replace BB:=Below.step BB hbg;clear hbg;replace hne:=HW.some (sg.w.alloc (.cells #[.int .i64 0,.int .i64 0,.int .i64 0] 62));generalize hW:(sg.w.alloc (.cells #[.int .i64 0,.int .i64 0,.int .i64 0] 62))=wg1 at *;clear hW;generalize sg.w.heap.size=gg at *;clear sg;refine wpM_end (by kernel_rfl) rfl (by kernel_rfl) (by decide) ?_;rintro _ ⟨sz,rfl⟩;simp only[List.drop_succ_cons,List.drop_zero]
   go_simp
   replace AA:=AA.stay sz.h;replace BB:=Below.step BB sz.h;clear hne;generalize sz.w=W at *;clear sz;revert GG;revert AA;revert BB;revert gg;revert W;exact JN.out
  case hj=>
  intro W gg BB AA GG;have hx2:=x2.toNat_lt;have hx3:=x3.toNat_lt;rw[zDW,zDW,zDW,zDW,show wrap64 ((x2.toNat:Int)*256)=(x2.toNat:Int)*256 by unfold wrap64;omega,zKn x2 x3];have a0:=AA.cell 0;have a1:=AA.cell 1;have a2:=AA.cell 2;have fa:=AA.frozen;simp at a0 a1 a2;have RW:=R.stay BB
  have hne:Hid (w.heap.size≠gg):=by show _≠_;have:=R.lt;omega
  have A3:=((AA.set 0 (.int .i64 (x0.toNat:Int))).set 1 (.int .i64 (x1.toNat:Int))).set 2 (.int .i64 ((x2.toNat:Int)*256+x3.toNat));have R3:=((RW.setOther (a:=⟨gg,0,none⟩) hne.out (.int .i64 (x0.toNat:Int))).setOther (a:=⟨gg,1,none⟩) hne.out (.int .i64 (x1.toNat:Int))).setOther (a:=⟨gg,2,none⟩) hne.out (.int .i64 ((x2.toNat:Int)*256+x3.toNat));have B3:=(((Below.step BW BB).setCell (p:=⟨gg,0,none⟩) (by have:=BW.size;show w.heap.size≤gg;omega) (.int .i64 (x0.toNat:Int))).setCell (p:=⟨gg,1,none⟩) (by have:=BW.size;show w.heap.size≤gg;omega) (.int .i64 (x1.toNat:Int))).setCell (p:=⟨gg,2,none⟩) (by have:=BW.size;show w.heap.size≤gg;omega) (.int .i64 ((x2.toNat:Int)*256+x3.toNat));clear AA R RW BB d0 d1 d2 d3;go_wp2_with fail;refine(zD5 (rdC x0 x1 x2 x3) _).mono ?_;rintro e W2 ⟨rfl,hb⟩;have R4:=R3.stay hb;have A4:=A3.stay hb;have B4:=Below.step B3 hb;have r0:=R4.cell 0;have r1:=R4.cell 1;have r2:=R4.cell 2;have r3:=R4.cell 3;have fr:=R4.frozen;have l0:=zQ (A4.cell 0) rfl;have l1:=zQ (A4.cell 1) rfl;have l2:=zQ (A4.cell 2) rfl;simp at r0 r1 r2 r3;clear R3 R4 A3 A4 B3 hb;cases ho:okC (rdC x0 x1 x2 x3)
  ·have HU:Hid (ucD [x0,x1,x2,x3]=(5,zC)):=zL5 ho;clear ho;go_wp2_with fail;refine bodyPost_ret (v:=.agg #[.int .i64 5,.int .i64 0,.int .i64 0,.int .i64 0]) (by simp[results,Tryz.results116,go_sem,r0,r1,r2,r3]) rfl ⟨by rw[HU.out];rfl,?_⟩;exact(((B4.setCell (Nat.le_refl _) _).setCell (Nat.le_refl _) _).setCell (Nat.le_refl _) _).setCell (Nat.le_refl _) _
  ·have HU:Hid (ucD [x0,x1,x2,x3]=(0,rdC x0 x1 x2 x3)):=zKi ho;clear ho;go_wp2_with fail;refine bodyPost_ret (v:=.agg #[.int .i64 0,.int .i64 (x0.toNat:Int),.int .i64 (x1.toNat:Int),.int .i64 ((x2.toNat:Int)*256+x3.toNat)]) (by simp[results,Tryz.results116,go_sem,r0,r1,r2,r3]) rfl ⟨by rw[HU.out];rfl,?_⟩;exact(((B4.setCell (Nat.le_refl _) _).setCell (Nat.le_refl _) _).setCell (Nat.le_refl _) _).setCell (Nat.le_refl _) _
 ·have d:((bs.length:Int) != 4)=true:=by rw[bne_iff_ne];omega
  have HU:Hid (ucD bs=(5,zC)):=zFO h4;go_enter Tryz.func116,Tryz.ntmps116;go_wp2;exact bodyPost_ret (v:=.agg #[.int .i64 5,.int .i64 0,.int .i64 0,.int .i64 0]) (by simp[results,Tryz.results116,go_sem]) rfl ⟨by rw[HU.out];rfl,zA _ _⟩
end Go.Proofs.YtbaldmmbphbinaaGreatDoor
namespace Go.Proofs.YtbaldmmbphbinaaGreatDoor
open Go.RowKit
end Go.Proofs.YtbaldmmbphbinaaGreatDoor
namespace Go.Proofs.YtbaldmmbphbinaaGreatDoor
open Go.ChangeShapes Go.WideShapes Go.ChangeAt Go.RowKit
theorem zBn (p:Option Addr) (q:Nat) (bs:List UInt8) (w:World):Calls Tryz.prog 76 #[.slice p bs.length q] w fun e w'=>e=.returned (.bool (is32 bs))∧w'=w:=by
 by_cases h:bs.length=32
 ·rw[show is32 bs=true by simp[is32,h]]
  have d1:((bs.length:Int)==32)=true:=by rw[beq_iff_eq];omega
  clear h;go_enter Tryz.func76,Tryz.ntmps76;go_wp2;go_ret;exact⟨rfl,rfl⟩
 ·rw[show is32 bs=false by simp[is32,h]]
  have d1:((bs.length:Int)==32)=false:=by rw[beq_eq_false_iff_ne];omega
  clear h;go_enter Tryz.func76,Tryz.ntmps76;go_wp2;go_ret;exact⟨rfl,rfl⟩
end Go.Proofs.YtbaldmmbphbinaaGreatDoor
