import Derived.Test.YtbaldmmbphbinaaGreatDoorJoint18
import Derived.Test.YtbaldmmbphbinaaGreatDoorJoint7
import Derived.Test.YtbaldmmbphbinaaGreatDoorJoint9
import Derived.Test.YtbaldmmbphbinaaGreatDoorJoint5
set_option maxHeartbeats 1000000
set_option maxRecDepth 4000
namespace Go.Proofs.YtbaldmmbphbinaaGreatDoor
open Go.ChangeShapes Go.WideShapes Go.ChangeAt Go.RowKit
abbrev aggC (r:Int×zH):Value:=.agg #[.int .i64 r.1,.int .i64 r.2.1,.int .i64 r.2.2.1,.int .i64 r.2.2.2]
theorem zDW (x:UInt8):wrap64 (x.toNat:Int)=x.toNat:=by unfold wrap64;have:=x.toNat_lt;omega
theorem zKh (c d:UInt8):((getB [c,d]:Nat):Int)=c.toNat*256+d.toNat:=by simp[getB]
theorem zL5 {a b c d:UInt8} (h:okC (rdC a b c d)=false):ucD [a,b,c,d]=(5,zC):=by show(if okC (rdC a b c d) then _ else _)=_;rw[h];rfl
theorem zKi {a b c d:UInt8} (h:okC (rdC a b c d)=true):ucD [a,b,c,d]=(0,rdC a b c d):=by show(if okC (rdC a b c d) then _ else _)=_;rw[h];rfl
theorem zGr (bs:List UInt8) (p:Option Addr) (q:Nat) (w:World) (hr:Rd w p q bs):
    Calls Tryz.prog 128 #[.slice p bs.length q] w fun e w'=>∃ (c:zH) (t:Bool),e=.returned (.tuple #[.agg #[.int .i64 c.1,.int .i64 c.2.1,.int .i64 c.2.2],.bool t])∧Below w.heap.size w w'∧ucD bs=(if t then (0,c) else (5,zC)):=by
  have BW:=zA w (.cells #[.int .i64 0,.int .i64 0,.int .i64 0] 62);have R:=Arr.new w [.int .i64 0,.int .i64 0,.int .i64 0] 62
  by_cases h4:bs.length=4
  · obtain⟨x0,x1,x2,x3,rfl⟩:=zGp h4;obtain⟨b0,o0,rfl,hc⟩:=hr.2.2.2 (by simp);have hq:4≤q:=hr.1;have hqm:q≤2 ^ 63-1:=hr.2.1;have hr2:=hr.keep BW;obtain⟨b0',o0',e0,hc⟩:=hr2.2.2.2 (by simp);cases e0;have d0:=hc 0 (by simp);have d1:=hc 1 (by simp);rw[Nat.add_zero] at d0;rw[show at8 [x0,x1,x2,x3] 0=x0.toNat from rfl] at d0;rw[show at8 [x0,x1,x2,x3] 1=x1.toNat from rfl] at d1
    have KG:Hid (∀ W:World,Below (w.alloc (.cells #[.int .i64 0,.int .i64 0,.int .i64 0] 62)).heap.size (w.alloc (.cells #[.int .i64 0,.int .i64 0,.int .i64 0] 62)) W→Calls Tryz.prog 107 #[.slice (some ⟨b0,o0+2,none⟩) 2 (q-2)] W fun e w'=>e=.returned (.int .i64 (x2.toNat*256+x3.toNat))∧Below W.heap.size W w'):=fun W hW=>by
      have h:=zIq (some ⟨b0,o0+2,none⟩) (q-2) [x2,x3] W ((hr2.cut 2 2 (q-2) (by simp) (by omega) (by unfold maxLen;omega)).keep hW) (by simp);rw[zKh] at h;refine Calls.mono h ?_;rintro e w' ⟨rfl,rfl⟩;exact⟨rfl,Below.refl _ _⟩
    clear hc h4 hr hr2;go_enter Tryz.func128,Tryz.ntmps128;go_wp2_with fail;generalize hV:w.alloc (.cells #[.int .i64 0,.int .i64 0,.int .i64 0] 62)=V at *;apply zBR
    case h=>
      intro JN;have BB:=Below.refl V.heap.size V;have hne:=HW.some V;have g0:=HW.at (d0);have g1:=HW.at (d1);refine wp_region_pick [0,1,2,3,4,5,6,7,8,9] 13 3 1 rfl rfl rfl (by kernel_rfl) (by kernel_rfl) (by kernel_rfl) (by kernel_rfl) ?_;simp only[zL,List.getElem?_toArray,List.getElem?_cons_zero,List.getElem?_cons_succ]
      repeat (go_big_quiet_step (fail))
      refine wpQuiet_nil ?_;clear g0 g1;refine wpM_two (i:=10) (j:=12) (by kernel_rfl) ?_ ?_
      · skip
        refine mOp_call rfl (by go_simp) 107 _ #[.slice (some ⟨b0,o0+2,none⟩) 2 (q-2)] (fun w=>by go_simp) rfl ?_;rintro _ ⟨sg,rfl⟩;refine(KG.out _ (Below.step BB sg.h)).mono ?_;rintro e wg1 ⟨rfl,hbx⟩;have hbg:=Below.step sg.h hbx;refine⟨_,rfl,⟨⟨wg1,hbx⟩,rfl⟩,?_⟩;replace BB:=Below.step BB hbg;clear hbg hbx sg;replace hne:=HW.some wg1;refine wpM_more [11] 2 1 rfl (by kernel_rfl) (by kernel_rfl) (by kernel_rfl) (by kernel_rfl) ?_;simp only[zL,List.getElem?_toArray,List.getElem?_cons_zero,List.getElem?_cons_succ]
        go_simp
        repeat (go_big_quiet_step (fail))
        refine wpQuiet_nil ?_;refine wpM_only (i:=12) (by kernel_rfl) ?_;refine mOp_make rfl (by go_simp) ?_;rintro _ ⟨sg,rfl⟩;refine⟨.pointer (some ⟨sg.w.heap.size,0,none⟩),sg.w.alloc (.cells #[.int .i64 0,.int .i64 0,.int .i64 0] 62),by go_simp,⟨⟨_,zA _ _⟩,rfl⟩,?_⟩;have hbg:=Below.step sg.h (zA sg.w (.cells #[.int .i64 0,.int .i64 0,.int .i64 0] 62));have AA:=Arr.new sg.w [.int .i64 0,.int .i64 0,.int .i64 0] 62;have GG:=(Below.step BB sg.h).size;replace BB:=Below.step BB hbg;clear hbg;replace hne:=HW.some (sg.w.alloc (.cells #[.int .i64 0,.int .i64 0,.int .i64 0] 62));generalize hW:(sg.w.alloc (.cells #[.int .i64 0,.int .i64 0,.int .i64 0] 62))=wg2 at *;clear hW;generalize sg.w.heap.size=gg at *;clear sg;refine wpM_end (by kernel_rfl) rfl (by kernel_rfl) (by decide) ?_;rintro _ ⟨sz,rfl⟩;simp only[List.drop_succ_cons,List.drop_zero]
        go_simp
        replace AA:=AA.stay sz.h;replace BB:=Below.step BB sz.h;clear hne;generalize sz.w=W at *;clear sz;revert GG;revert AA;revert BB;revert gg;revert W;exact JN.out
      · skip
        refine mOp_make rfl (by go_simp) ?_;rintro _ ⟨sg,rfl⟩;refine⟨.pointer (some ⟨sg.w.heap.size,0,none⟩),sg.w.alloc (.cells #[.int .i64 0,.int .i64 0,.int .i64 0] 62),by go_simp,⟨⟨_,zA _ _⟩,rfl⟩,?_⟩;have hbg:=Below.step sg.h (zA sg.w (.cells #[.int .i64 0,.int .i64 0,.int .i64 0] 62));have AA:=Arr.new sg.w [.int .i64 0,.int .i64 0,.int .i64 0] 62;have GG:=(Below.step BB sg.h).size;replace BB:=Below.step BB hbg;clear hbg;replace hne:=HW.some (sg.w.alloc (.cells #[.int .i64 0,.int .i64 0,.int .i64 0] 62));generalize hW:(sg.w.alloc (.cells #[.int .i64 0,.int .i64 0,.int .i64 0] 62))=wg3 at *;clear hW;generalize sg.w.heap.size=gg at *;clear sg;refine wpM_only (i:=10) (by kernel_rfl) ?_;refine mOp_call rfl (by go_simp) 107 _ #[.slice (some ⟨b0,o0+2,none⟩) 2 (q-2)] (fun w=>by go_simp) rfl ?_;rintro _ ⟨sg,rfl⟩;refine(KG.out _ (Below.step BB sg.h)).mono ?_;rintro e wg4 ⟨rfl,hbx⟩;have hbg:=Below.step sg.h hbx;refine⟨_,rfl,⟨⟨wg4,hbx⟩,rfl⟩,?_⟩;replace AA:=AA.stay hbg;replace BB:=Below.step BB hbg;clear hbg hbx sg;replace hne:=HW.some wg4;refine wpM_more [11] 1 0 rfl (by kernel_rfl) (by kernel_rfl) (by kernel_rfl) (by kernel_rfl) ?_;simp only[zL,List.getElem?_toArray,List.getElem?_cons_zero,List.getElem?_cons_succ]
        go_simp
        repeat (go_big_quiet_step (fail))
        refine wpQuiet_nil ?_;refine wpM_end (by kernel_rfl) rfl (by kernel_rfl) (by decide) ?_;rintro _ ⟨sz,rfl⟩;simp only[List.drop_succ_cons,List.drop_zero]
        go_simp
        replace AA:=AA.stay sz.h;replace BB:=Below.step BB sz.h;clear hne;generalize sz.w=W at *;clear sz;revert GG;revert AA;revert BB;revert gg;revert W;exact JN.out
    case hj=>
    intro W gg BB AA GG;rw[zDW,zDW];have a0:=AA.cell 0;have a1:=AA.cell 1;have a2:=AA.cell 2;have fa:=AA.frozen;simp at a0 a1 a2;have RW:=R.stay BB
    have hne:Hid (w.heap.size≠gg):=by show _≠_;have:=R.lt;omega
    have A3:=((AA.set 0 (.int .i64 (x0.toNat:Int))).set 1 (.int .i64 (x1.toNat:Int))).set 2 (.int .i64 ((x2.toNat:Int)*256+x3.toNat));have R3:=((RW.setOther (a:=⟨gg,0,none⟩) hne.out (.int .i64 (x0.toNat:Int))).setOther (a:=⟨gg,1,none⟩) hne.out (.int .i64 (x1.toNat:Int))).setOther (a:=⟨gg,2,none⟩) hne.out (.int .i64 ((x2.toNat:Int)*256+x3.toNat));have B3:=(((Below.step BW BB).setCell (p:=⟨gg,0,none⟩) (by have:=BW.size;show w.heap.size≤gg;omega) (.int .i64 (x0.toNat:Int))).setCell (p:=⟨gg,1,none⟩) (by have:=BW.size;show w.heap.size≤gg;omega) (.int .i64 (x1.toNat:Int))).setCell (p:=⟨gg,2,none⟩) (by have:=BW.size;show w.heap.size≤gg;omega) (.int .i64 ((x2.toNat:Int)*256+x3.toNat));clear AA R RW BB d0 d1 KG;go_wp2_with fail;generalize hV2:((W.setCell ⟨gg,0,none⟩ (.int .i64 (x0.toNat:Int))).setCell ⟨gg,1,none⟩ (.int .i64 (x1.toNat:Int))).setCell ⟨gg,2,none⟩ (.int .i64 ((x2.toNat:Int)*256+x3.toNat))=V2 at *;clear hV2 a0 a1 a2 fa hV;have l0:=zQ (A3.cell 0) rfl;have l1:=zQ (A3.cell 1) rfl;have l2:=zQ (A3.cell 2) rfl
    have KO:Hid (∀ W2:World,Below V2.heap.size V2 W2→Calls Tryz.prog 60 #[.pointer (some ⟨gg,0,none⟩)] W2 fun e w'=>e=.returned (.bool (okC (rdC x0 x1 x2 x3)))∧Below W2.heap.size W2 w'):=fun W2 h2=>by
      have A4:=A3.stay h2;refine Calls.mono (zHT gg 0 (rdC x0 x1 x2 x3) W2 ((A4.cell 0).trans rfl) ((A4.cell 1).trans rfl) ((A4.cell 2).trans rfl)) ?_;rintro e w' ⟨rfl,rfl⟩;exact⟨rfl,Below.refl _ _⟩
    clear A3;apply zBR
    case h=>
      intro JN;have BB:=Below.refl V2.heap.size V2;have hne:=HW.some V2;have g0:=HW.at (l0);have g1:=HW.at (l1);have g2:=HW.at (l2);refine wp_region_pick [0] 2 1 2 rfl rfl rfl (by kernel_rfl) (by kernel_rfl) (by kernel_rfl) (by kernel_rfl) ?_;simp only[zL,List.getElem?_toArray,List.getElem?_cons_zero]
      repeat (go_big_quiet_step (fail))
      refine wpQuiet_nil ?_;clear g0 g1 g2;refine wpM_only (i:=1) (by kernel_rfl) ?_;refine mOp_call rfl (by go_simp) 60 _ #[.pointer (some ⟨gg,0,none⟩)] (fun w=>by go_simp) rfl ?_;rintro _ ⟨sg,rfl⟩;refine(KO.out _ (Below.step BB sg.h)).mono ?_;rintro e wg1 ⟨rfl,hbx⟩;have hbg:=Below.step sg.h hbx;refine⟨_,rfl,⟨⟨wg1,hbx⟩,rfl⟩,?_⟩;replace BB:=Below.step BB hbg;clear hbg hbx sg;replace hne:=HW.some wg1;refine wpM_end (by kernel_rfl) rfl (by kernel_rfl) (by decide) ?_;rintro _ ⟨sz,rfl⟩;simp only[List.drop_succ_cons,List.drop_zero]
      go_simp
      replace BB:=Below.step BB sz.h;clear hne;generalize sz.w=W2 at *;clear sz;revert BB;revert W2;exact JN.out
    case hj=>
    intro W2 BB;have R5:=R3.stay BB;have B5:=Below.step B3 BB;have r0:=R5.cell 0;have r1:=R5.cell 1;have r2:=R5.cell 2;have fr:=R5.frozen;simp at r0 r1 r2;clear l0 l1 l2 KO R3 B3 BB;go_wp2_with fail;refine bodyPost_ret (v:=.tuple #[.agg #[.int .i64 (x0.toNat:Int),.int .i64 (x1.toNat:Int),.int .i64 ((x2.toNat:Int)*256+x3.toNat)],.bool (okC (rdC x0 x1 x2 x3))]) (by simp[results,Tryz.results128,go_sem,r0,r1,r2]) rfl ⟨rdC x0 x1 x2 x3,okC (rdC x0 x1 x2 x3),rfl,((B5.setCell (Nat.le_refl _) _).setCell (Nat.le_refl _) _).setCell (Nat.le_refl _) _,?_⟩;rfl
  · have d:((bs.length:Int) != 4)=true:=by rw[bne_iff_ne];omega
    have HU:Hid (ucD bs=(5,zC)):=zFO h4;go_enter Tryz.func128,Tryz.ntmps128;go_wp2;exact bodyPost_ret (v:=.tuple #[.agg #[.int .i64 0,.int .i64 0,.int .i64 0],.bool false]) (by simp[results,Tryz.results128,go_sem]) rfl ⟨zC,false,rfl,BW,HU.out⟩
theorem zAh (v:Int) (w:World):Calls Tryz.prog 79 #[.int .i64 v] w fun e w'=>e=.returned (.bool (inB v 1 99))∧w'=w:=by
  by_cases h1:1≤v
  · by_cases h2:v≤99
    · rw[zBP h1 h2];go_enter Tryz.func79,Tryz.ntmps79;go_wp2;go_ret;exact⟨rfl,rfl⟩
    · rw[zAI (by omega)];go_enter Tryz.func79,Tryz.ntmps79;go_wp2;go_ret;exact⟨rfl,rfl⟩
  · rw[zAI (by omega)];go_enter Tryz.func79,Tryz.ntmps79;go_wp2;go_ret;exact⟨rfl,rfl⟩
theorem zEI (v:Int) (w:World):Calls Tryz.prog 134 #[.int .i64 v] w fun e w'=>e=.returned (.bool (inB v 1 9))∧w'=w:=by
  by_cases h1:1≤v
  · by_cases h2:v≤9
    · rw[zBP h1 h2];go_enter Tryz.func134,Tryz.ntmps134;go_wp2;go_ret;exact⟨rfl,rfl⟩
    · rw[zAI (by omega)];go_enter Tryz.func134,Tryz.ntmps134;go_wp2;go_ret;exact⟨rfl,rfl⟩
  · rw[zAI (by omega)];go_enter Tryz.func134,Tryz.ntmps134;go_wp2;go_ret;exact⟨rfl,rfl⟩
theorem zBV (v:Int) (w:World):Calls Tryz.prog 80 #[.int .i64 v] w fun e w'=>e=.returned (.bool (inB v 0 9999))∧w'=w:=by
  by_cases h1:0≤v
  · by_cases h2:v≤9999
    · rw[zBP h1 h2];go_enter Tryz.func80,Tryz.ntmps80;go_wp2;go_ret;exact⟨rfl,rfl⟩
    · rw[zAI (by omega)];go_enter Tryz.func80,Tryz.ntmps80;go_wp2;go_ret;exact⟨rfl,rfl⟩
  · rw[zAI (by omega)];go_enter Tryz.func80,Tryz.ntmps80;go_wp2;go_ret;exact⟨rfl,rfl⟩
theorem zD5 (c:zH) (w:World):
    Calls Tryz.prog 112 #[.agg #[.int .i64 c.1,.int .i64 c.2.1,.int .i64 c.2.2]] w fun e w'=>e=.returned (.bool (okC c))∧Below w.heap.size w w':=by
  cases h1:inB c.1 1 99
  · rw[show okC c=false by simp[okC,h1]];go_enter Tryz.func112,Tryz.ntmps112;go_wp2_with fail;refine(zAh _ _).mono ?_;rintro e w' ⟨rfl,hw⟩;subst hw;rw[h1];go_wp2;go_ret;exact⟨rfl,zA _ _⟩
  · cases h2:inB c.2.1 1 9
    · rw[show okC c=false by simp[okC,h2]];go_enter Tryz.func112,Tryz.ntmps112;go_wp2_with fail;refine(zAh _ _).mono ?_;rintro e w' ⟨rfl,hw⟩;subst hw;rw[h1];go_wp2_with fail;refine(zEI _ _).mono ?_;rintro e w' ⟨rfl,hw⟩;subst hw;rw[h2];go_wp2;go_ret;exact⟨rfl,zA _ _⟩
    · rw[show okC c=inB c.2.2 0 9999 by simp[okC,h1,h2]];go_enter Tryz.func112,Tryz.ntmps112;go_wp2_with fail;refine(zAh _ _).mono ?_;rintro e w' ⟨rfl,hw⟩;subst hw;rw[h1];go_wp2_with fail;refine(zEI _ _).mono ?_;rintro e w' ⟨rfl,hw⟩;subst hw;rw[h2];go_wp2_with fail;refine(zBV _ _).mono ?_;rintro e w' ⟨rfl,hw⟩;subst hw;go_wp2;go_ret;exact⟨rfl,zA _ _⟩
theorem zKj (l:List zH) (p:Option Addr) (q:Nat) (id:Int) (w:World) (hr:RdL certC w p q l):
    Calls Tryz.prog 113 #[.slice p l.length q,.int .i64 id] w fun e w'=>e=.returned (.agg #[.int .i64 (foC l id).1,.int .i64 (foC l id).2.1,.int .i64 (foC l id).2.2])∧Below w.heap.size w w':=by
  have HR:Hid (RdL certC w p q l):=hr;have hq1:l.length≤q:=hr.1;have hq2:q≤2 ^ 63-1:=hr.2.1;have BW:=zA w (.cells #[.int .i64 0,.int .i64 0,.int .i64 0] 62);have R:=Arr.new w [.int .i64 0,.int .i64 0,.int .i64 0] 62;clear hr;go_enter Tryz.func113,Tryz.ntmps113;go_wp2
  go_loopw [9] (fun i wr=>∃ k:Nat,k≤l.length∧i=.int .i64 k∧hasC (l.take k) id=false∧Arr wr w.heap.size 62 [.int .i64 0,.int .i64 0,.int .i64 0]∧Below w.heap.size w wr)
    (fun i _=>l.length-(intOf i).toNat)
  case atStart=>exact⟨0,Nat.zero_le _,rfl,zGC _ _,R,BW⟩
  case round=>
    clear R BW;obtain⟨k,hk,rfl,hn,R,BW⟩:=hrel
    by_cases hlt:k<l.length
    · have hI:(k:Int)<(l.length:Int):=by omega
      obtain⟨b,o,e1,hc⟩:=(HR.out.keep BW).2.2.2 (by omega);subst e1;obtain⟨a,ha⟩:∃ a,l[k]?=some a:=⟨l[k],by simp[hlt]⟩;obtain⟨us,hrep,hcell⟩:=hc k a ha;obtain rfl:=zBk hrep;have c0:=hcell 0 _ rfl;have c1:=hcell 1 _ rfl;have c2:=hcell 2 _ rfl;rw[show certC.n=3 from rfl] at c0 c1 c2;rw[Nat.add_zero] at c0;have R2:=R.old _ (.cells #[.int .i64 a.1,.int .i64 a.2.1,.int .i64 a.2.2] 62);have B2:=Below.mk BW (.cells #[.int .i64 a.1,.int .i64 a.2.1,.int .i64 a.2.2] 62);have r0:=R2.cell 0;have r1:=R2.cell 1;have r2:=R2.cell 2;have fr:=R2.frozen;simp at r0 r1 r2;clear hc hcell hrep R
      by_cases he:a.1=id
      · have d:(a.1==id)=true:=by rw[beq_iff_eq];exact he
        have HE:Hid (foC l id=a):=zLI ha hn he;clear he hn;go_wp2_with fail;refine bodyPost_ret (v:=.agg #[.int .i64 a.1,.int .i64 a.2.1,.int .i64 a.2.2]) (by simp[results,Tryz.results113,go_sem,r0,r1,r2]) rfl ⟨by rw[HE.out],?_⟩;exact((B2.setCell (Nat.le_refl _) _).setCell (Nat.le_refl _) _).setCell (Nat.le_refl _) _
      · have d:(a.1==id)=false:=by rw[beq_eq_false_iff_ne];exact he
        have hn2:Hid (hasC (l.take (k+1)) id=false):=by show _=_;rw[zGB ha,hn,d];rfl
        clear he hn;go_wp2_with fail;go_roundw
        case rel=>exact⟨k+1,by omega,by go_num,hn2.out,R2,B2⟩
        case measure=>simp[intOf];omega
    · have e:k=l.length:=by omega
      subst e;rw[List.take_length] at hn;have HE:Hid (foC l id=zC):=zHL hn;have r0:=R.cell 0;have r1:=R.cell 1;have r2:=R.cell 2;have fr:=R.frozen;simp at r0 r1 r2;go_wp2_with fail;refine bodyPost_ret (v:=.agg #[.int .i64 0,.int .i64 0,.int .i64 0]) (by simp[results,Tryz.results113,go_sem,r0,r1,r2]) rfl ⟨by rw[HE.out];rfl,?_⟩;exact((BW.setCell (Nat.le_refl _) _).setCell (Nat.le_refl _) _).setCell (Nat.le_refl _) _
theorem OwnL.drawC {α:Type} {e:TypeId} {c:Cod α} {w w':World} {B b:Nat} {v:Value} {l:List α} {xs:List Value} {fp:List Nat} (h:OwnL e c w B v l xs fp) (hg:w.grownBy w' (some b)) (hb:b<B):OwnL e c w' B v l xs fp:=
  h.other (Only.grown hg) (fun k hk e=>by have:=(h.ins k hk).1;simp at e;omega)
theorem zA0 {w v v':World} {r row:Option Nat} (h:w.grownBy v r) (k:v.grownBy v' row) (hr:∀ j,row=some j→w.heap.size≤j):w.grownBy v' r:=
  ⟨k.os.trans h.os,k.tape.trans h.tape,k.output.trans h.output,Nat.le_trans h.size k.size,fun i hi hn=>(k.block i (Nat.lt_of_lt_of_le hi h.size) (fun e=>by have:=hr i e.symm;omega)).trans (h.block i hi hn)⟩
theorem zJc (w:World) (B:Nat) (h:B≤w.heap.size):OwnL 62 certC (w.alloc (.cells #[] 62)) B (.slice (some ⟨w.heap.size,0,none⟩) 0 0) [] [] []:=
  ⟨World.ownsRow_lit (base:=B) (e:=62) (size:=3) w #[] 0 h (by unfold maxLen;decide) (by simp),⟨rfl,rfl⟩,by simp[Value.ownBlock]⟩
theorem zCy {α:Type} {c:Cod α} {w:World} {B:Nat} {a:α} {us:List Value} (h:c.own w B a us []):∀ n,OwnAll c w B (List.replicate n a) (List.replicate n us).flatten []
  | 0=>⟨rfl,rfl⟩
  | n+1=>by
    have h1:=OwnAll.snoc (zCy h n) h;rw[← List.replicate_succ',List.append_nil] at h1;rw[show(List.replicate (n+1) us).flatten=(List.replicate n us).flatten++us by rw[List.replicate_succ',List.flatten_append];simp];exact h1
def zNL (l:List zH):Prop:=1≤l.length∧∀ c∈l,okC c=true
def anyC (l:List zH):Prop:=1≤l.length
def zLL (w w':World) (b:Nat) (p:Option Addr) (q:Nat) (cs:List UInt8) (t:Int) (d m:Nat) (v:Value) (P:List zH→Prop):Prop:=
  ∃ (l:List zH) (xs:List Value) (fp:List Nat) (t':Int),OwnL 62 certC w' w.heap.size v l xs fp∧l.length≤m∧P l∧t≤t'∧t'≤t+d∧Src w' b p q cs t'∧w.grownBy w' (some b)
def zMl (w wr:World) (b:Nat) (p:Option Addr) (q:Nat) (cs:List UInt8) (t n0:Int) (v k:Value):Prop:=
  ∃ (l:List zH) (xs:List Value) (fp:List Nat) (t':Int),(l.length:Int)≤1+n0∧k=.int .i64 (1+n0-l.length)∧OwnL 62 certC wr w.heap.size v l xs fp∧(∀ c∈l,okC c=true)∧t≤t'∧t'≤t+1+2*l.length∧Src wr b p q cs t'∧w.grownBy wr (some b)
theorem zIH (b:Nat) (p:Option Addr) (q:Nat) (cs:List UInt8) (t:Int) (w:World) (hs:Src w b p q cs t) (ht:0≤t) (ht2:t≤700000000):
    Calls Tryz.prog 58 #[.pointer (some ⟨b,0,none⟩)] w fun e w'=>∃ v,e=.returned v∧zLL w w' b p q cs t 20 4 v zNL:=by
  have hb0:Hid (b<w.heap.size):=hs.lt;have O1:=zJc w w.heap.size (Nat.le_refl _);go_enter Tryz.func58,Tryz.ntmps58;go_wp2_with fail;refine(zV b p q cs t 4 _ (hs.keep (zA _ _)) (by omega) (by omega) (by omega) (by omega)).mono ?_;rintro e v0 ⟨n0,rfl,x0,y0,hs0,hg0⟩;replace O1:=O1.drawC hg0 hb0.out;have hg:w.grownBy v0 (some b):=zB (World.grownBy_alloc _ _ _) hg0;have hhs:=hs0;clear hg0 hs hs0;go_wp2_with fail
  go_loopw [3,4] (fun v k wr=>zMl w wr b p q cs t n0 v k)
    (fun _ k _=>(intOf k).toNat)
  case atStart=>exact⟨[],[],[],t+1,by simp;omega,by simp,O1,(fun _ h=>by cases h),by omega,by simp,hhs,hg⟩
  case round=>
    clear O1 hg hhs;obtain⟨out,xs,fp,t1,hol,rfl,ho,hok,ht3,ht4,hs1,hg1⟩:=hrel
    by_cases hlt:(out.length:Int)<1+n0
    · have hI:0<1+n0-(out.length:Int):=by omega
      obtain⟨po,qo,rfl,hord⟩:=ho.rd;have hqo1:out.length≤qo:=hord.1;have hqo2:qo≤2 ^ 63-1:=hord.2.1;have HOK:Hid (∀ c∈out,okC c=true):=hok;clear hord hok;go_wp2_with fail;refine(zV b p q cs t1 3 _ hs1 (by omega) (by omega) (by omega) (by omega)).mono ?_;rintro e v1 ⟨r1,rfl,x1,y1,hs2,hg2⟩;replace ho:=ho.drawC hg2 hb0.out;replace hg1:=zB hg1 hg2;clear hs1 hg2;go_wp2_with fail;refine(zV b p q cs (t1+1) 40 _ hs2 (by omega) (by omega) (by omega) (by omega)).mono ?_;rintro e v2 ⟨r2,rfl,x2,y2,hs3,hg3⟩;replace ho:=ho.drawC hg3 hb0.out;replace hg1:=zB hg1 hg3;clear hs2 hg3;have hal5:=zA v2 (.cells #[.int .i64 ((out.length:Int)+1),.int .i64 (1+r1),.int .i64 (5+r2)] 62)
      have hnew:∀ j u,[Value.int .i64 ((out.length:Int)+1),.int .i64 (1+r1),.int .i64 (5+r2)][j]?=some u→(v2.alloc (.cells #[.int .i64 ((out.length:Int)+1),.int .i64 (1+r1),.int .i64 (5+r2)] 62)).cell? ((⟨v2.heap.size,0,none⟩:Addr).add j)=some u:=fun j u hj=>(Arr.new v2 [.int .i64 ((out.length:Int)+1),.int .i64 (1+r1),.int .i64 (5+r2)] 62).cells j u hj
      have ho5:=ho.stay hal5;have hs5:=hs3.keep hal5;have hg5:w.grownBy (v2.alloc (.cells #[.int .i64 ((out.length:Int)+1),.int .i64 (1+r1),.int .i64 (5+r2)] 62)) (some b):=zB hg1 (World.grownBy_alloc _ _ _);have hrow5:Hid ((v2.alloc (.cells #[.int .i64 ((out.length:Int)+1),.int .i64 (1+r1),.int .i64 (5+r2)] 62)).ownsRow w.heap.size 62 3 (.slice po out.length qo) out.length xs):=ho5.row;obtain⟨i0,hi,hz0,hz1,hz2⟩:=info_parts zFG;have HB5:Hid (w.heap.size≤(v2.alloc (.cells #[.int .i64 ((out.length:Int)+1),.int .i64 (1+r1),.int .i64 (5+r2)] 62)).heap.size):=hg5.size;have hoI:=ho5.ins;clear hs3 hg1 hal5 ho;go_wp2_with (at_builtin;refine wpList_append_lies _ rfl (.tmp 13) (.tmp 24) 33 rfl w.heap.size 62 i0 (.agg #[.int .i64 0,.int .i64 0,.int .i64 0]) 3 24 Tryz.underlying33 hi hz0 hz1 hz2 rfl (by decide) (.slice po out.length qo) out.length xs rfl hrow5.out ⟨v2.heap.size,0,none⟩ 1 1 [.int .i64 ((out.length:Int)+1),.int .i64 (1+r1),.int .i64 (5+r2)] rfl rfl hnew (by intro u hu;simp at hu;rcases hu with rfl | rfl | rfl <;> rfl) (by decide) (by unfold maxLen;omega) (by omega) HB5.out _ rfl ?_;intro g6 c6 w6 hown6 hgrow6 hat6 hlt6);have OP:=ho5.push (zDw (a:=((out.length:Int)+1,1+r1,5+r2))) (fun j hj=>by cases hj) (k:=out.length+1) (v':=.slice (some ⟨g6,0,none⟩) (out.length+1) c6) (g:=g6) hown6 (by simp) hgrow6 rfl hat6;have hs6:=hs5.other hgrow6 (fun k hk=>by have h1:=(hoI k (List.mem_append_left _ (mem_opt.2 hk))).1;have:=hb0.out;omega);have hg6:w.grownBy w6 (some b):=zA0 hg5 hgrow6 (fun k hk=>(hoI k (List.mem_append_left _ (mem_opt.2 hk))).1)
      have HOK2:Hid (∀ c∈out++[((out.length:Int)+1,1+r1,5+r2)],okC c=true):=fun c hc=>by
        rcases List.mem_append.1 hc with hc | hc
        · exact HOK.out c hc
        · rcases List.mem_singleton.1 hc with rfl;exact zMi (by show 1≤(out.length:Int)+1;omega) (by show(out.length:Int)+1≤99;omega) (by show 1≤1+r1;omega) (by show 1+r1≤9;omega) (by show 0≤5+r2;omega) (by show 5+r2≤9999;omega)
      clear ho5 hs5 hg5 hown6 hgrow6 hat6 hnew hrow5 hoI;go_wp2_with fail;go_roundw
      case rel=>exact⟨_,_,_,t1+1+1,by simp;omega,by simp;omega,OP,HOK2.out,by omega,by simp;omega,hs6,hg6⟩
      case measure=>simp[intOf];omega
    · have hI:¬ (0<1+n0-(out.length:Int)):=by omega
      obtain⟨po,qo,rfl,-⟩:=ho.rd;go_wp2_with fail;go_ret;exact⟨_,rfl,out,xs,fp,t1,ho,by omega,⟨by omega,hok⟩,by omega,by omega,hs1,hg1⟩
theorem zJd (b:Nat) (p:Option Addr) (q:Nat) (cs:List UInt8) (t:Int) (w:World) (hs:Src w b p q cs t) (ht:0≤t) (ht2:t≤700000000):
    Calls Tryz.prog 27 #[.pointer (some ⟨b,0,none⟩)] w fun e w'=>∃ v,e=.returned v∧zLL w w' b p q cs t 60 9 v anyC:=by
  have hb0:Hid (b<w.heap.size):=hs.lt;go_enter Tryz.func27,Tryz.ntmps27;go_wp2_with fail;refine(zIH b p q cs t w hs ht (by omega)).mono ?_;rintro e w1 ⟨v,rfl,out,xs,fp,t1,ho,hl,hok0,ht3,ht4,hs1,hg⟩;have hone1:Hid (1≤out.length):=hok0.1;clear hok0;obtain⟨po,qo,rfl,hord⟩:=ho.rd;have hqo1:out.length≤qo:=hord.1;have hqo2:qo≤2 ^ 63-1:=hord.2.1;clear hord hs;go_wp2_with fail;refine(zV b p q cs t1 12 _ hs1 (by omega) (by omega) (by omega) (by omega)).mono ?_;rintro e w2 ⟨r,rfl,x0,y0,hs2,hg2⟩;replace ho:=ho.drawC hg2 hb0.out;replace hg:=zB hg hg2;clear hs1 hg2
  by_cases h0:r=0
  · subst h0;go_wp2_with fail;refine(zAc b p q cs (t1+1) w2.heap.size [0,1,100,7] 4 _ (hs2.keep (zA _ _)) (by omega) (by omega) rfl (by decide) (by decide) (by have:=hs2.lt;omega) (zBQ _ _ _ [0,1,100,7] rfl)).mono ?_;rintro e w3 ⟨a1,-,rfl,hs3,hgp⟩;replace ho:=(ho.stay (zA _ _)).drawC hgp hb0.out;replace hg:=zB hg (zB (World.grownBy_alloc _ _ _) hgp);clear hgp hs2;go_wp2_with fail;refine(zAc b p q cs (t1+1+1) w3.heap.size [1,0,10] 3 _ (hs3.keep (zA _ _)) (by omega) (by omega) rfl (by decide) (by decide) (by have:=hs3.lt;omega) (zBQ _ _ _ [1,0,10] rfl)).mono ?_;rintro e w4 ⟨a2,-,rfl,hs4,hgp⟩;replace ho:=(ho.stay (zA _ _)).drawC hgp hb0.out;replace hg:=zB hg (zB (World.grownBy_alloc _ _ _) hgp);clear hgp hs3;go_wp2_with fail;refine(zAc b p q cs (t1+1+1+1) w4.heap.size [5,-1,10000] 3 _ (hs4.keep (zA _ _)) (by omega) (by omega) rfl (by decide) (by decide) (by have:=hs4.lt;omega) (zBQ _ _ _ [5,-1,10000] rfl)).mono ?_;rintro e w5 ⟨a3,-,rfl,hs5,hgp⟩;replace ho:=(ho.stay (zA _ _)).drawC hgp hb0.out;replace hg:=zB hg (zB (World.grownBy_alloc _ _ _) hgp);clear hgp hs4;have hal5:=zA w5 (.cells #[.int .i64 a1,.int .i64 a2,.int .i64 a3] 62)
    have hnew:∀ j u,[Value.int .i64 a1,.int .i64 a2,.int .i64 a3][j]?=some u→(w5.alloc (.cells #[.int .i64 a1,.int .i64 a2,.int .i64 a3] 62)).cell? ((⟨w5.heap.size,0,none⟩:Addr).add j)=some u:=fun j u hj=>(Arr.new w5 [.int .i64 a1,.int .i64 a2,.int .i64 a3] 62).cells j u hj
    have ho5:=ho.stay hal5;have hs6:=hs5.keep hal5;have hg5:w.grownBy (w5.alloc (.cells #[.int .i64 a1,.int .i64 a2,.int .i64 a3] 62)) (some b):=zB hg (World.grownBy_alloc _ _ _);have hrow5:Hid ((w5.alloc (.cells #[.int .i64 a1,.int .i64 a2,.int .i64 a3] 62)).ownsRow w.heap.size 62 3 (.slice po out.length qo) out.length xs):=ho5.row;obtain⟨i0,hi,hz0,hz1,hz2⟩:=info_parts zFG;have HB5:Hid (w.heap.size≤(w5.alloc (.cells #[.int .i64 a1,.int .i64 a2,.int .i64 a3] 62)).heap.size):=hg5.size;have hoI:=ho5.ins;clear hs5 hg hal5 ho;go_wp2_with (at_builtin;refine wpList_append_lies _ rfl (.tmp 10) (.tmp 21) 33 rfl w.heap.size 62 i0 (.agg #[.int .i64 0,.int .i64 0,.int .i64 0]) 3 24 Tryz.underlying33 hi hz0 hz1 hz2 rfl (by decide) (.slice po out.length qo) out.length xs rfl hrow5.out ⟨w5.heap.size,0,none⟩ 1 1 [.int .i64 a1,.int .i64 a2,.int .i64 a3] rfl rfl hnew (by intro u hu;simp at hu;rcases hu with rfl | rfl | rfl <;> rfl) (by decide) (by unfold maxLen;omega) (by omega) HB5.out _ rfl ?_;intro g6 c6 w6 hown6 hgrow6 hat6 hlt6);have OP:=ho5.push (zDw (a:=(a1,a2,a3))) (fun j hj=>by cases hj) (k:=out.length+1) (v':=.slice (some ⟨g6,0,none⟩) (out.length+1) c6) (g:=g6) hown6 (by simp) hgrow6 rfl hat6;have hs7:=hs6.other hgrow6 (fun k hk=>by have h1:=(hoI k (List.mem_append_left _ (mem_opt.2 hk))).1;have:=hb0.out;omega);have hg6:w.grownBy w6 (some b):=zA0 hg5 hgrow6 (fun k hk=>(hoI k (List.mem_append_left _ (mem_opt.2 hk))).1);clear ho5 hs6 hg5 hown6 hgrow6 hat6 hnew hrow5 hoI;go_wp2_with fail;go_ret;exact⟨_,rfl,_,_,_,_,OP,by simp;omega,(by show 1≤_;simp),by omega,by omega,hs7,hg6⟩
  · by_cases h1:r=1
    · subst h1;obtain⟨i0,hi,hz0,hz1,hz2⟩:=info_parts zFG;go_wp2_with (at_make;refine wpList_make_full _ rfl _ _ 33 rfl w.heap.size 62 i0 (.agg #[.int .i64 0,.int .i64 0,.int .i64 0]) 3 Tryz.underlying33 hi hz0 hz1 .i64 .i64 _ _ 9 rfl rfl rfl rfl (by rw[hz2];decide) (by unfold maxLen;decide) hg.size ?_;intro w3 hown hgrow);have hs3:=hs2.other hgrow (fun k hk=>by cases hk);have hg3:w.grownBy w3 (some b):=zA0 hg hgrow (fun k hk=>by cases hk);rw[show(madeCells (Value.agg #[.int .i64 0,.int .i64 0,.int .i64 0]).cells (9*3)).toList=(List.replicate 9 [.int .i64 0,.int .i64 0,.int .i64 0]).flatten by kernel_rfl] at hown;have OP:OwnL 62 certC w3 w.heap.size (.slice (some ⟨w2.heap.size,0,none⟩) 9 9) (List.replicate 9 zC) (List.replicate 9 [.int .i64 0,.int .i64 0,.int .i64 0]).flatten []:=⟨hown,zCy (zDw (a:=zC)) 9,by simp[Value.ownBlock]⟩;clear hown hgrow;go_wp2_with fail;go_ret;exact⟨_,rfl,_,_,_,_,OP,by simp,(by show 1≤_;simp),by omega,by omega,hs3,hg3⟩
    · have d0:(r==0)=false:=by rw[beq_eq_false_iff_ne];exact h0
      have d1:(r==1)=false:=by rw[beq_eq_false_iff_ne];exact h1
      go_wp2_with fail;go_ret;exact⟨_,rfl,out,xs,fp,_,ho,by omega,hone1.out,by omega,by omega,hs2,hg⟩
end Go.Proofs.YtbaldmmbphbinaaGreatDoor
