import Derived.Test.YtiabacnmmojfjaaGreatDoorJoint25
import Derived.Test.YtiabacnmmojfjaaGreatDoorJoint22
import Derived.Test.YtiabacnmmojfjaaGreatDoorJoint7
import Derived.Test.YtiabacnmmojfjaaGreatDoorJoint19
import Derived.Test.YtiabacnmmojfjaaGreatDoorJoint18
set_option maxHeartbeats 2000000
set_option maxRecDepth 4000
open Go.Proofs.Tryz
namespace Go.Proofs.YtiabacnmmojfjaaGreatDoor
open Go.ChangeShapes Go.WideShapes Go.ChangeAt Go.RowKit
theorem zIS (h:zAB) (p:Option Addr) (q:Nat) (w:World) (hr:Rd w p q h.1) (hl:h.1.length≤1000000):
    Calls prog 183 #[.agg #[.slice p h.1.length q,.int .i64 h.2.1,.int .i64 h.2.2]] w fun e w'=>∃ u,e=.returned (.agg #[u,.int .i64 h.2.1,.int .i64 h.2.2])∧Own w' w.heap.size u h.1∧Below w.heap.size w w':=by
  have HR:Hid (Rd w p q h.1):=hr;have HL:Hid (h.1.length≤1000000):=hl;clear hr hl;have BW:=yt (zA w (.cells #[.slice p h.1.length q,.int .i64 h.2.1,.int .i64 h.2.2] 189)) (.cells #[.slice none 0 0,.int .i64 0,.int .i64 0] 84);have A:=(yr w [.slice p h.1.length q,.int .i64 h.2.1,.int .i64 h.2.2] 189).old _ (.cells #[.slice none 0 0,.int .i64 0,.int .i64 0] 84);have R:=yr (w.alloc (.cells #[.slice p h.1.length q,.int .i64 h.2.1,.int .i64 h.2.2] 189)) [.slice none 0 0,.int .i64 0,.int .i64 0] 84;rw[zB] at R;obtain⟨V,HV⟩:∃ V,Hid (V=(w.alloc (.cells #[.slice p h.1.length q,.int .i64 h.2.1,.int .i64 h.2.2] 189)).alloc (.cells #[.slice none 0 0,.int .i64 0,.int .i64 0] 84)):=⟨_,rfl⟩
  have hz0:Hid (w.heap.size+2≤V.heap.size):=by show _≤_;rw[HV.out,zB,zB];omega
  rw[← HV.out] at BW A R;obtain⟨c0,c1,c2⟩:=zc3 A;go_enter func183,ntmps183;go_wp2_with fail;rw[← HV.out];apply share
  case h=>
    intro JN;have BB:=Below.refl V.heap.size V;have hne:=yq V;have g0:=yo (c0);have g1:=yo (c1);have g2:=yo (c2);refine zWr [0,1,3,4,5,6] 8 2 1 ?_;simp only[zD,ya,yb,yc]
    repeat (go_big_quiet_step (fail))
    refine wpQuiet_nil ?_;clear g0 g1 g2;refine zWc 2 rfl 209 #[.slice p h.1.length q] ?_;rintro _ ⟨sg,rfl⟩;refine(zDQ p q h.1 _ (HR.out.keep (yn BW (yn BB sg.h))) HL.out).mono ?_;rintro e wg1 ⟨ua,rfl,ka,hbx⟩;obtain⟨pa,qa,rfl,-⟩:=ka.rd;have hbg:=yn sg.h hbx;refine⟨_,rfl,⟨⟨wg1,hbx⟩,rfl⟩,?_⟩;have Ka:=ka.lower ((yn BB sg.h)).size;replace BB:=yn BB hbg;clear hbg hbx sg ka;replace hne:=yq wg1;refine zWk 7 rfl ?_;rintro _ ⟨sg,rfl⟩;refine⟨.agg #[.slice pa h.1.length qa,.int .i64 h.2.1,.int .i64 h.2.2],sg.w,by go_simp,⟨⟨_,Below.refl _ _⟩,rfl⟩,?_⟩;have hbg:Below _ _ sg.w:=sg.h;replace Ka:=Ka.stay hbg;replace BB:=yn BB hbg;clear hbg;replace hne:=yq sg.w;generalize sg.w=wg2 at *;clear sg;refine zWe ?_;rintro _ ⟨sz,rfl⟩;simp only[yd,ye]
    go_simp
    replace Ka:=Ka.stay sz.h;replace BB:=yn BB sz.h;clear hne;generalize sz.w=W at *;clear sz;revert Ka;revert BB;revert qa;revert pa;revert W;exact JN.out
  intro W pa qa BB Ka;replace R:=R.stay BB;obtain⟨t0,t1,t2⟩:=zc3 R;have ft:=R.frozen;replace BW:=yn BW BB;replace Ka:=Ka.lower hz0.out;clear c0 c1 c2 A R BB;go_wp2_with fail;exact bodyPost_ret (v:=.agg #[.slice pa h.1.length qa,.int .i64 h.2.1,.int .i64 h.2.2]) (by simp[results,results183,go_sem,t0,t1,t2]) rfl ⟨_,rfl,(((Ka.set (yg _) _).set (yg _) _).set (yg _) _).lower (by omega),zs3 BW zzA⟩
theorem zNB (a b c:List UInt8):h3 [a,b,c]=if b.length=2∧c.length=1∧hfC (a,((getB b:Nat):Int),(((c.getD 0 0).toNat:Nat):Int))=0 then some (a,((getB b:Nat):Int),(((c.getD 0 0).toNat:Nat):Int)) else none:=rfl
theorem zLt {a:List UInt8} {s k:Int} (h:inB s 1 65520=false):¬ hfC (a,s,k)=0:=fun hc=>by
  have hp:=zBR hc;simp only[inB,decide_eq_false_iff_not] at h;have h1:1≤s:=hp.2.1;have h2:s≤65520:=hp.2.2.1;omega
theorem zFy (p:Option Addr) (q:Nat) (body:List UInt8) (w:World) (hr:Rd w p q body):
    Calls prog 182 #[.slice p body.length q] w fun e w'=>∃ pu nu qu s k,e=.returned (.tuple #[.agg #[.slice pu nu qu,.int .i64 s,.int .i64 k],.bool (decide (body.length≤160)&&(huR body).isSome)])∧(∀ h,body.length≤160→huR body=some h→Rd w' pu qu h.1∧nu=h.1.length∧s=h.2.1∧k=h.2.2)∧Below w.heap.size w w':=by
  have BW:=zA w (.cells #[.slice none 0 0,.int .i64 0,.int .i64 0] 189);have R:=yr w [.slice none 0 0,.int .i64 0,.int .i64 0] 189;have hz0:Hid ((w.alloc (.cells #[.slice none 0 0,.int .i64 0,.int .i64 0] 189)).heap.size=w.heap.size+1):=zB _ _;have KS:=zLd body p q _ (hr.keep BW);clear hr
  suffices H:∀ Q:Ending→World→Prop,Hid (∀ e w',(∃ pu nu qu s k,e=.returned (.tuple #[.agg #[.slice pu nu qu,.int .i64 s,.int .i64 k],.bool (decide (body.length≤160)&&(huR body).isSome)])∧(∀ h,body.length≤160→huR body=some h→Rd w' pu qu h.1∧nu=h.1.length∧s=h.2.1∧k=h.2.2)∧Below w.heap.size w w')→Q e w')→Calls prog 182 #[.slice p body.length q] w Q from H _ (show Hid _ from fun _ _ h=>h)
  intro Q HQ
  by_cases hcb:ubC body=0
  · have hb160:body.length≤160:=by
      unfold ubC at hcb
      by_cases h:body.length≤160
      · exact h
      · rw[if_neg h] at hcb;exact absurd hcb (by decide)
    obtain⟨bl,hbl⟩:∃ bl,zAe body 0 []=some bl:=by
      rw[ubC,if_pos hb160] at hcb;cases h:zAe body 0 [] with
      | none=>rw[h] at hcb;exact absurd hcb (by decide)
      | some bl=>exact⟨bl,rfl⟩
    have HU:Hid (huR body=h3 bl):=by show _=_;rw[huR,hbl];rfl
    have HS:Hid (decide (body.length≤160)=true):=by show _=_;simp[hb160]
    rw[(zGr hb160 hbl).1,(zGr hb160 hbl).2] at KS;rw[HS.out,Bool.true_and] at HQ;clear hcb hbl hb160
    by_cases hl3:bl.length=3
    · match bl,hl3 with
      | [a,b,c],_=>
        go_enter func182,ntmps182;go_wp2_with fail;refine KS.mono ?_;rintro e w1 ⟨v,rfl,⟨xs,fp,ho⟩,hb1⟩;rw[hz0.out] at ho;obtain⟨g,cap,pa,qa,pb,qb,pc,qc,rfl,hcap,hcap2,hBg,l0,l1,l2,oa,rb,rc⟩:=own3 ho;have hl:=zA w1 (.cells #[.int .i64 0,.slice (some ⟨g,0,none⟩) 3 cap] 216);have BL:=yr w1 [.int .i64 0,.slice (some ⟨g,0,none⟩) 3 cap] 216;replace R:=(R.stay hb1).stay hl;replace BW:=yn (yn BW hb1) hl;replace l0:=zN l0 hl;replace l1:=zN l1 hl;replace l2:=zN l2 hl;have HRA:Hid (Own w1 (w.heap.size+1) (.slice pa a.length qa) a):=oa;have HRB:Hid (Rd w1 pb qb b):=rb;have HRC:Hid (Rd w1 pc qc c):=rc;have hqb1:b.length≤qb:=rb.1;have hqb2:qb≤2 ^ 63-1:=rb.2.1;have hqc1:c.length≤qc:=rc.1;have hqc2:qc≤2 ^ 63-1:=rc.2.1;have HB1:Hid (Below w1.heap.size w1 (w1.alloc (.cells #[.int .i64 0,.slice (some ⟨g,0,none⟩) 3 cap] 216))):=hl;clear hb1 KS oa rb rc ho hl;obtain⟨cb,HCB⟩:∃ x,Hid (x=bsC b):=⟨_,rfl⟩;obtain⟨vb,HVB⟩:∃ x,Hid (x=bsV b):=⟨_,rfl⟩;have KB:=zLF pb qb b _ (HRB.out.keep HB1.out);rw[← HCB.out,← HVB.out] at KB;go_wp2_with fail;refine KB.mono ?_;rintro e w2 ⟨rfl,hb2⟩;clear KB;have S:=yr w2 [.int .i64 cb,.int .i64 vb] 126;have hs:=zA w2 (.cells #[.int .i64 cb,.int .i64 vb] 126);replace BL:=(BL.stay hb2).old _ (.cells #[.int .i64 cb,.int .i64 vb] 126);replace R:=(R.stay hb2).stay hs;replace BW:=yn (yn BW hb2) hs;replace l0:=zN (zN l0 hb2) hs;replace l2:=zN (zN l2 hb2) hs;have HB2:Hid (Below w1.heap.size w1 (w2.alloc (.cells #[.int .i64 cb,.int .i64 vb] 126))):=yn (yn HB1.out hb2) hs;obtain⟨t0,t1,t2⟩:=zc3 R;have ft:=R.frozen;have b1:=zQ (BL.cell 1) rfl;clear hb2 hs l1 HB1 hqb1 hqb2;obtain⟨s0,s1⟩:=zc2 S
        by_cases hcb0:cb=0
        · subst hcb0;have hbs:bsC b=0:=HCB.out.symm
          have hb2:b.length=2:=by
            unfold bsC at hbs
            by_cases h:b.length=2
            · exact h
            · rw[if_neg h] at hbs;exact absurd hbs (by decide)
          obtain rfl:vb=((getB b:Nat):Int):=by rw[HVB.out,bsV,if_pos hbs]
          by_cases hc1:c.length=1
          · have HU2:Hid (huR body=if hfC (a,((getB b:Nat):Int),at8 c 0)=0 then some (a,((getB b:Nat):Int),at8 c 0) else none):=by
              show _=_
              rw[HU.out,zNB];simp only[hb2,hc1,true_and];rfl
            obtain⟨bc,oc,rfl,hcc⟩:=HRC.out.2.2.2 (by omega);have lc:=zN (hcc 0 (by omega)) HB2.out;rw[Nat.add_zero] at lc;have la:=zDj c 0;have ua:=zDk c 0
            have dc:((c.length:Int) != 1)=false:=by rw[bne_eq_false_iff_eq];omega
            rw[hc1] at l2 hqc1;have hzV:Hid (w.heap.size+1≤(w2.alloc (.cells #[.int .i64 0,.int .i64 ((getB b:Nat):Int)] 126)).heap.size):=R.lt;clear hcc hb2 hc1 dc HU HVB HCB hbs HRB HRC;go_wp2_with fail;generalize w2.alloc (.cells #[.int .i64 0,.int .i64 ((getB b:Nat):Int)] 126)=V at *;apply share
            case h=>
              intro JN;have BB:=Below.refl V.heap.size V;have hne:=yq V;have g0:=yo (l0);have g1:=yo (l2);have g2:=yo (lc);have g3:=yo (s1);have g4:=yo (b1);refine zWr [0,1,2,3,4,5,6,7,8,9] 12 2 1 ?_;simp only[zD,ya,yb,yc]
              repeat (go_big_quiet_step (fail))
              refine wpQuiet_nil ?_;clear g0 g1 g2 g3 g4;refine zAs (i:=10) (j:=11) (by kernel_rfl) ?_ ?_
              · skip
                refine mOp_make rfl (by go_simp) ?_;rintro _ ⟨sg,rfl⟩;refine⟨.agg #[.slice pa a.length qa,.int .i64 ((getB b:Nat):Int),.int .i64 (at8 c 0)],sg.w,by go_simp,⟨⟨_,Below.refl _ _⟩,rfl⟩,?_⟩;have hbg:Below _ _ sg.w:=sg.h;replace BB:=yn BB hbg;clear hbg;replace hne:=yq sg.w;generalize sg.w=wg1 at *;clear sg;refine zWk 11 rfl ?_;rintro _ ⟨sg,rfl⟩;refine⟨.pointer (some ⟨sg.w.heap.size,0,none⟩),sg.w.alloc (.cells #[.slice none 0 0,.int .i64 0,.int .i64 0] 189),by go_simp,⟨⟨_,zA _ _⟩,rfl⟩,?_⟩;have hbg:=yn sg.h (zA sg.w (.cells #[.slice none 0 0,.int .i64 0,.int .i64 0] 189));have AN:=yr sg.w [.slice none 0 0,.int .i64 0,.int .i64 0] 189;have GN:=((yn BB sg.h)).size;replace BB:=yn BB hbg;clear hbg;replace hne:=yq (sg.w.alloc (.cells #[.slice none 0 0,.int .i64 0,.int .i64 0] 189));generalize hW:(sg.w.alloc (.cells #[.slice none 0 0,.int .i64 0,.int .i64 0] 189))=wg2 at *;clear hW;generalize sg.w.heap.size=gn at *;clear sg;refine zWe ?_;rintro _ ⟨sz,rfl⟩;simp only[yd,ye]
                go_simp
                replace AN:=AN.stay sz.h
                replace GN:=show V.heap.size≤gn from GN
                replace BB:=yn BB sz.h;clear hne;generalize sz.w=W at *;clear sz;revert GN;revert AN;revert BB;revert gn;revert W;exact JN.out
              · skip
                refine mOp_make rfl (by go_simp) ?_;rintro _ ⟨sg,rfl⟩;refine⟨.pointer (some ⟨sg.w.heap.size,0,none⟩),sg.w.alloc (.cells #[.slice none 0 0,.int .i64 0,.int .i64 0] 189),by go_simp,⟨⟨_,zA _ _⟩,rfl⟩,?_⟩;have hbg:=yn sg.h (zA sg.w (.cells #[.slice none 0 0,.int .i64 0,.int .i64 0] 189));have AN:=yr sg.w [.slice none 0 0,.int .i64 0,.int .i64 0] 189;have GN:=((yn BB sg.h)).size;replace BB:=yn BB hbg;clear hbg;replace hne:=yq (sg.w.alloc (.cells #[.slice none 0 0,.int .i64 0,.int .i64 0] 189));generalize hW:(sg.w.alloc (.cells #[.slice none 0 0,.int .i64 0,.int .i64 0] 189))=wg3 at *;clear hW;generalize sg.w.heap.size=gn at *;clear sg;refine zWk 10 rfl ?_;rintro _ ⟨sg,rfl⟩;refine⟨.agg #[.slice pa a.length qa,.int .i64 ((getB b:Nat):Int),.int .i64 (at8 c 0)],sg.w,by go_simp,⟨⟨_,Below.refl _ _⟩,rfl⟩,?_⟩;have hbg:Below _ _ sg.w:=sg.h;replace AN:=AN.stay hbg
                replace GN:=show V.heap.size≤gn from GN
                replace BB:=yn BB hbg;clear hbg;replace hne:=yq sg.w;generalize sg.w=wg4 at *;clear sg;refine zWe ?_;rintro _ ⟨sz,rfl⟩;simp only[yd,ye]
                go_simp
                replace AN:=AN.stay sz.h
                replace GN:=show V.heap.size≤gn from GN
                replace BB:=yn BB sz.h;clear hne;generalize sz.w=W at *;clear sz;revert GN;revert AN;revert BB;revert gn;revert W;exact JN.out
            intro W gn BB AN GN;replace R:=R.stay BB;replace BW:=yn BW BB;obtain⟨a0,a1,a2⟩:=zc3 AN;have fa:=AN.frozen;have hgg:Hid (w.heap.size+1≤gn):=yi hzV.out GN;have L2:=((AN.set 0 (.slice pa a.length qa)).set 1 (.int .i64 ((getB b:Nat):Int))).set 2 (.int .i64 (at8 c 0));have R2:=((R.setOther (a:=⟨gn,0,none⟩) (by have:=hgg.out;show w.heap.size≠gn;omega) (.slice pa a.length qa)).setOther (a:=⟨gn,1,none⟩) (by have:=hgg.out;show w.heap.size≠gn;omega) (.int .i64 ((getB b:Nat):Int))).setOther (a:=⟨gn,2,none⟩) (by have:=hgg.out;show w.heap.size≠gn;omega) (.int .i64 (at8 c 0));have BV:Below V.heap.size V (((W.setCell ⟨gn,0,none⟩ (.slice pa a.length qa)).setCell ⟨gn,1,none⟩ (.int .i64 ((getB b:Nat):Int))).setCell ⟨gn,2,none⟩ (.int .i64 (at8 c 0))):=((BB.setCell GN _).setCell GN _).setCell GN _;have K2:=(HRA.out.stay HB2.out).stay BV;have B2:=((BW.setCell (p:=⟨gn,0,none⟩) (by have:=hgg.out;show w.heap.size≤gn;omega) (.slice pa a.length qa)).setCell (p:=⟨gn,1,none⟩) (by have:=hgg.out;show w.heap.size≤gn;omega) (.int .i64 ((getB b:Nat):Int))).setCell (p:=⟨gn,2,none⟩) (by have:=hgg.out;show w.heap.size≤gn;omega) (.int .i64 (at8 c 0));clear R BW AN BB BV t0 t1 t2 ft l0 l2 lc b1 s0 s1;generalize e2:((W.setCell ⟨gn,0,none⟩ (.slice pa a.length qa)).setCell ⟨gn,1,none⟩ (.int .i64 ((getB b:Nat):Int))).setCell ⟨gn,2,none⟩ (.int .i64 (at8 c 0))=W2 at *
            have KF:Hid (∀ V,Below W2.heap.size W2 V→Calls prog 205 #[.agg #[.slice pa a.length qa,.int .i64 ((getB b:Nat):Int),.int .i64 (at8 c 0)]] V fun e w'=>e=.returned (.int .i64 (hfC (a,((getB b:Nat):Int),at8 c 0)))∧Below W2.heap.size W2 w'):=fun V hV=>(zFD (a,((getB b:Nat):Int),at8 c 0) pa qa V).mono fun _ _ ⟨h1,h2⟩=>⟨h1,yn hV h2⟩
            have HL2:Hid (Arr W2 gn 189 [.slice pa a.length qa,.int .i64 ((getB b:Nat):Int),.int .i64 (at8 c 0)]):=L2;have HK2:Hid (Own W2 (w.heap.size+1) (.slice pa a.length qa) a):=K2;have HBW2:Hid (Below w.heap.size w W2):=B2;have HR2:Hid (Arr W2 w.heap.size 189 [.slice none 0 0,.int .i64 0,.int .i64 0]):=R2;clear L2 K2 B2 R2
            have HF3:Hid (∀ V,Below W2.heap.size W2 V→V.cell? ⟨w.heap.size,0,none⟩=some (.slice none 0 0)∧V.cell? ⟨w.heap.size,1,none⟩=some (.int .i64 0)∧V.cell? ⟨w.heap.size,2,none⟩=some (.int .i64 0)∧(∀ i,V.frozen? ⟨w.heap.size,i,none⟩=false)∧V.cell? ⟨gn,0,none⟩=some (.slice pa a.length qa)∧V.cell? ⟨gn,1,none⟩=some (.int .i64 ((getB b:Nat):Int))∧V.cell? ⟨gn,2,none⟩=some (.int .i64 (at8 c 0))):=fun V hV=>⟨(HR2.out.stay hV).cell 0,(HR2.out.stay hV).cell 1,(HR2.out.stay hV).cell 2,(HR2.out.stay hV).frozen,(HL2.out.stay hV).cell 0,(HL2.out.stay hV).cell 1,(HL2.out.stay hV).cell 2⟩
            go_wp2_with fail;clear e2 a0 a1 a2 fa;have m0:=zQ (HL2.out.cell 0) rfl;have m1:=zQ (HL2.out.cell 1) rfl;have m2:=zQ (HL2.out.cell 2) rfl
            by_cases hf:hfC (a,((getB b:Nat):Int),at8 c 0)=0
            · have HS2:Hid (huR body=some (a,((getB b:Nat):Int),at8 c 0)):=by show _=_;rw[HU2.out,if_pos hf]
              have df:(hfC (a,((getB b:Nat):Int),at8 c 0)==0)=true:=by rw[beq_iff_eq];exact hf
              clear hf
              go_region_with (go_at_call 205;refine(KF.out _ (by first | exact(Below.refl _ _).drew | exact Below.refl _ _)).mono ?_;rintro e w3 ⟨rfl,hb3⟩;obtain⟨c0,c1,c2,fz,n0,n1,n2⟩:=HF3.out _ hb3)
              all_goals go_wp2_with fail
              all_goals exact bodyPost_ret (v:=.tuple #[.agg #[.slice pa a.length qa,.int .i64 ((getB b:Nat):Int),.int .i64 (at8 c 0)],.bool true]) (by simp[results,results182,go_sem,c0,c1,c2]) rfl (HQ.out _ _ ⟨_,_,_,_,_,by rw[HS2.out];rfl,(fun h _ e=>by rw[HS2.out] at e;cases e;exact⟨Rd.own (((((HK2.out.stay hb3).set (yg _) _).set (yg _) _).set (yg _) _)),rfl,rfl,rfl⟩),((((yn HBW2.out hb3).setCell (yf _) _).setCell (yf _) _).setCell (yf _) _)⟩)
            · have HN:Hid (huR body=none):=by show _=_;rw[HU2.out,if_neg hf]
              have df:(hfC (a,((getB b:Nat):Int),at8 c 0)==0)=false:=by rw[beq_eq_false_iff_ne];exact hf
              clear hf
              go_region_with (go_at_call 205;refine(KF.out _ (by first | exact(Below.refl _ _).drew | exact Below.refl _ _)).mono ?_;rintro e w3 ⟨rfl,hb3⟩;obtain⟨c0,c1,c2,fz,n0,n1,n2⟩:=HF3.out _ hb3)
              all_goals go_wp2_with fail
              all_goals exact bodyPost_ret (v:=.tuple #[.agg #[.slice pa a.length qa,.int .i64 ((getB b:Nat):Int),.int .i64 (at8 c 0)],.bool false]) (by simp[results,results182,go_sem,c0,c1,c2]) rfl (HQ.out _ _ ⟨_,_,_,_,_,by rw[HN.out];rfl,(fun h _ e=>by rw[HN.out] at e;cases e),((((yn HBW2.out hb3).setCell (yf _) _).setCell (yf _) _).setCell (yf _) _)⟩)
          · have dc:((c.length:Int) != 1)=true:=by rw[bne_iff_ne];omega
            have HN:Hid (huR body=none):=by show _=_;rw[HU.out,zNB];exact if_neg (fun h=>hc1 h.2.1)
            clear hb2 hc1 R hbs;go_wp2_with fail;exact bodyPost_ret (v:=.tuple #[.agg #[.slice none 0 0,.int .i64 0,.int .i64 0],.bool false]) (by simp[results,results182,go_sem,t0,t1,t2]) rfl (HQ.out _ _ ⟨_,_,_,_,_,by rw[HN.out];rfl,(fun h _ e=>by rw[HN.out] at e;cases e),(((BW.setCell (yf _) _).setCell (yf _) _).setCell (yf _) _)⟩)
        · have db:(cb != 0)=true:=by rw[bne_iff_ne];exact hcb0
          have HN:Hid (huR body=none):=by
            show _=_
            rw[HU.out,zNB];refine if_neg (fun h=>?_);rw[HCB.out,bsC,if_pos h.1] at hcb0;cases hin:inB ((getB b:Nat):Int) 1 65520
            · exact zLt hin h.2.2
            · rw[hin] at hcb0;exact hcb0 rfl
          clear hcb0 R HCB HVB;go_wp2_with fail;exact bodyPost_ret (v:=.tuple #[.agg #[.slice none 0 0,.int .i64 0,.int .i64 0],.bool false]) (by simp[results,results182,go_sem,t0,t1,t2]) rfl (HQ.out _ _ ⟨_,_,_,_,_,by rw[HN.out];rfl,(fun h _ e=>by rw[HN.out] at e;cases e),(((BW.setCell (yf _) _).setCell (yf _) _).setCell (yf _) _)⟩)
    · have HN:Hid (huR body=none):=by
        show _=_
        rw[HU.out]
        match bl,hl3 with
        | [],_=>rfl
        | [_],_=>rfl
        | [_,_],_=>rfl
        | [_,_,_],h=>exact absurd rfl h
        | _ :: _ :: _ :: _ :: _,_=>rfl
      have d3:((bl.length:Int) != 3)=true:=by rw[bne_iff_ne];omega
      clear hl3 HU;go_enter func182,ntmps182;go_wp2_with fail;refine KS.mono ?_;rintro e w1 ⟨v,rfl,⟨xs,fp,ho⟩,hb1⟩;obtain⟨pv,qv,rfl,-⟩:=ho.rd;have hl:=zA w1 (.cells #[.int .i64 0,.slice pv bl.length qv] 216);replace R:=(R.stay hb1).stay hl;replace BW:=yn (yn BW hb1) hl;obtain⟨t0,t1,t2⟩:=zc3 R;have ft:=R.frozen;clear R hb1 ho hl;go_wp2_with fail;exact bodyPost_ret (v:=.tuple #[.agg #[.slice none 0 0,.int .i64 0,.int .i64 0],.bool false]) (by simp[results,results182,go_sem,t0,t1,t2]) rfl (HQ.out _ _ ⟨_,_,_,_,_,by rw[HN.out];rfl,(fun h _ e=>by rw[HN.out] at e;cases e),(((BW.setCell (yf _) _).setCell (yf _) _).setCell (yf _) _)⟩)
  · have HN:Hid ((decide (body.length≤160)&&(huR body).isSome)=false):=by
      show _=_
      by_cases h:body.length≤160
      · rw[ubC,if_pos h] at hcb;cases hs:zAe body 0 [] with
        | none=>rw[huR,hs];simp
        | some bl=>rw[hs] at hcb;exact absurd rfl hcb
      · simp[h]
    have HN2:Hid (∀ h,body.length≤160→huR body=some h→False):=fun h h1 h2=>by
      have e:=HN.out;rw[h2] at e;simp[h1] at e
    have dc:(ubC body != 0)=true:=by rw[bne_iff_ne];exact hcb
    rw[HN.out] at HQ;clear hcb;generalize ubC body=cu at *;go_enter func182,ntmps182;go_wp2_with fail;refine KS.mono ?_;rintro e w1 ⟨v,rfl,⟨xs,fp,ho⟩,hb1⟩;obtain⟨pv,qv,rfl,-⟩:=ho.rd;have hl:=zA w1 (.cells #[.int .i64 cu,.slice pv (ubL body).length qv] 216);replace R:=(R.stay hb1).stay hl;replace BW:=yn (yn BW hb1) hl;obtain⟨t0,t1,t2⟩:=zc3 R;have ft:=R.frozen;clear R hb1 ho hl;go_wp2_with fail;exact bodyPost_ret (v:=.tuple #[.agg #[.slice none 0 0,.int .i64 0,.int .i64 0],.bool false]) (by simp[results,results182,go_sem,t0,t1,t2]) rfl (HQ.out _ _ ⟨_,_,_,_,_,rfl,(fun h h1 e=>(HN2.out h h1 e).elim),(((BW.setCell (yf _) _).setCell (yf _) _).setCell (yf _) _)⟩)
theorem zLu (k:Int) (m:MsgD) (us:List Value) (w:World) (r:msgC.rep w m us):
    Calls prog 145 #[.int .i64 k,.agg us.toArray] w fun e w'=>∃ us fp,e=.returned (.agg us.toArray)∧helloResultC.own w' w.heap.size (uhD k m) us fp∧Below w.heap.size w w':=by
  obtain⟨p,q,rfl,rr⟩:=zAc r;have HR:Hid (Rd w p q m.2):=rr;clear rr r;have BW:=yt (zA w (.cells #[.int .i64 m.1,.slice p m.2.length q] 46)) (.cells #[.int .i64 0,.slice none 0 0,.int .i64 0,.int .i64 0] 92);have A:=(yr w [.int .i64 m.1,.slice p m.2.length q] 46).old _ (.cells #[.int .i64 0,.slice none 0 0,.int .i64 0,.int .i64 0] 92);have R:=yr (w.alloc (.cells #[.int .i64 m.1,.slice p m.2.length q] 46)) [.int .i64 0,.slice none 0 0,.int .i64 0,.int .i64 0] 92;rw[zB] at R
  have HBad:Hid (∀ c,uhC k m=c→c≠0→uhD k m=(c,zB9)):=fun c h1 h2=>by rw[uhD,h1,if_neg h2]
  cases hk:hkB k
  · rw[HBad.out 3 (by rw[uhC,hk];rfl) (by decide)];go_enter func145,ntmps145;go_wp2_with fail;refine(zAr _ _).mono ?_;rintro e w1 ⟨rfl,hw⟩;subst w1;rw[hk];go_wp2;exact bodyPost_ret (v:=.agg #[.int .i64 3,.slice none 0 0,.int .i64 0,.int .i64 0]) (by simp[results,results145,go_sem]) rfl ⟨[_,_,_,_],_,rfl,zA5 (zO _ _),yt (zA _ _) _⟩
  · have KF:=zFL m.1 m.2.length q p
    by_cases hf:zF m.1 m.2.length=0
    · have h160:m.2.length≤160:=(zAx hf).2
      have HUF:Hid (uhC k m=if m.1=k then (if (huR m.2).isSome then 0 else 5) else 1):=by show _=_;rw[uhC,hk,if_pos rfl,if_pos hf]
      have KF2:Hid (∀ w,Calls prog 44 #[.agg #[.int .i64 m.1,.slice p m.2.length q]] w fun e w'=>e=.returned (.int .i64 0)∧Below w.heap.size w w'):=fun w=>by have h:=KF w;rw[hf] at h;exact h
      have H160:Hid (m.2.length≤160):=h160;clear hf KF h160
      by_cases hmk:m.1=k
      · have HUF2:Hid (uhC k m=if (huR m.2).isSome then 0 else 5):=by show _=_;rw[HUF.out,if_pos hmk]
        clear HUF;subst hmk;cases hu:huR m.2 with
        | none=>
          rw[HBad.out 5 (by rw[HUF2.out,hu];rfl) (by decide)];go_enter func145,ntmps145;go_wp2_with fail;refine(zAr _ _).mono ?_;rintro e w1 ⟨rfl,hw⟩;subst w1;rw[hk];go_wp2_with fail;refine(KF2.out _).mono ?_;rintro e w1 ⟨rfl,hb1⟩;replace BW:=yn BW hb1;replace A:=A.stay hb1;replace R:=R.stay hb1;clear hb1;obtain⟨c0,c1⟩:=zc2 A;go_wp2_with fail;refine(zFy p q m.2 _ (HR.out.keep BW)).mono ?_;rintro e w2 ⟨pu,nu,qu,s,kk,rfl,-,hb2⟩;rw[hu,show(decide (m.2.length≤160)&&(none:Option zAB).isSome)=false by simp];have hb3:=zA w2 (.cells #[.slice pu nu qu,.int .i64 s,.int .i64 kk] 189);replace BW:=yn (yn BW hb2) hb3;replace R:=(R.stay hb2).stay hb3;clear hb2 hb3 c0 c1 A;obtain⟨t0,t1,t2,t3⟩:=zc4 R;have ft:=R.frozen;clear R;go_wp2_with fail;exact bodyPost_ret (v:=.agg #[.int .i64 5,.slice none 0 0,.int .i64 0,.int .i64 0]) (by simp[results,results145,go_sem,t0,t1,t2,t3]) rfl ⟨[_,_,_,_],_,rfl,zA5 (zO _ _),zs4 BW zzA⟩
        | some h=>
          have HUD:Hid (uhD m.1 m=(0,h)):=by
            have e:uhC m.1 m=0:=by rw[HUF2.out,hu];rfl
            show _=_
            rw[uhD,e,if_pos rfl,hu];rfl
          have HL8:Hid (h.1.length=8):=(zBR (zI4 hu).1).1;have HU:Hid (huR m.2=some h):=hu;rw[HUD.out];go_enter func145,ntmps145;go_wp2_with fail;refine(zAr _ _).mono ?_;rintro e w1 ⟨rfl,hw⟩;subst w1;rw[hk];go_wp2_with fail;refine(KF2.out _).mono ?_;rintro e w1 ⟨rfl,hb1⟩;replace BW:=yn BW hb1;replace A:=A.stay hb1;replace R:=R.stay hb1;clear hb1;obtain⟨c0,c1⟩:=zc2 A;go_wp2_with fail;refine(zFy p q m.2 _ (HR.out.keep BW)).mono ?_;rintro e w2 ⟨pu,nu,qu,s,kk,rfl,hval,hb2⟩;obtain⟨ru,rfl,rfl,rfl⟩:=hval h H160.out HU.out;rw[hu,show(decide (m.2.length≤160)&&(some h:Option zAB).isSome)=true by simp[H160.out]];have N:=yr w2 [.slice pu h.1.length qu,.int .i64 h.2.1,.int .i64 h.2.2] 189;have hb3:=zA w2 (.cells #[.slice pu h.1.length qu,.int .i64 h.2.1,.int .i64 h.2.2] 189);replace BW:=yn (yn BW hb2) hb3;replace R:=(R.stay hb2).stay hb3;have RU:=ru.keep hb3;clear hb2 hb3 c0 c1 A hval ru hu;have hz:Hid (w.heap.size+2≤(w2.alloc (.cells #[.slice pu h.1.length qu,.int .i64 h.2.1,.int .i64 h.2.2] 189)).heap.size):=R.lt;go_wp2_with fail;refine(zIS h pu qu _ RU (by have:=HL8.out;omega)).mono ?_;rintro e w3 ⟨u3,rfl,k3,hb3⟩;replace BW:=yn BW hb3;replace R:=R.stay hb3;obtain⟨a3,cc3,rfl,-⟩:=k3.rd;replace k3:=k3.lower hz.out;clear hb3 N RU;obtain⟨t0,t1,t2,t3⟩:=zc4 R;have ft:=R.frozen;clear R;go_wp2_with fail;exact bodyPost_ret (v:=.agg #[.int .i64 0,.slice a3 h.1.length cc3,.int .i64 h.2.1,.int .i64 h.2.2]) (by simp[results,results145,go_sem,t0,t1,t2,t3]) rfl ⟨[_,_,_,_],_,rfl,zA5 (((((k3.set (yg _) _).set (yg _) _).set (yg _) _).set (yg _) _).lower (by omega)),zs4 BW zzA⟩
      · have dk:(m.1 != k)=true:=by rw[bne_iff_ne];exact hmk
        rw[HBad.out 1 (by rw[HUF.out,if_neg hmk]) (by decide)];clear hmk HUF;go_enter func145,ntmps145;go_wp2_with fail;refine(zAr _ _).mono ?_;rintro e w1 ⟨rfl,hw⟩;subst w1;rw[hk];go_wp2_with fail;refine(KF2.out _).mono ?_;rintro e w1 ⟨rfl,hb1⟩;replace BW:=yn BW hb1;replace A:=A.stay hb1;replace R:=R.stay hb1;clear hb1;obtain⟨c0,c1⟩:=zc2 A;obtain⟨t0,t1,t2,t3⟩:=zc4 R;have ft:=R.frozen;clear R A;go_wp2_with fail;exact bodyPost_ret (v:=.agg #[.int .i64 1,.slice none 0 0,.int .i64 0,.int .i64 0]) (by simp[results,results145,go_sem,t0,t1,t2,t3]) rfl ⟨[_,_,_,_],_,rfl,zA5 (zO _ _),zs4 BW zzA⟩
    · have hd:(zF m.1 m.2.length != 0)=true:=by rw[bne_iff_ne];exact hf
      rw[HBad.out (zF m.1 m.2.length) (by rw[uhC,hk,if_pos rfl,if_neg hf]) hf];clear hf;have KF2:Hid (∀ w,Calls prog 44 #[.agg #[.int .i64 m.1,.slice p m.2.length q]] w fun e w'=>e=.returned (.int .i64 (zF m.1 m.2.length))∧Below w.heap.size w w'):=KF;clear KF HBad;generalize zF m.1 m.2.length=cc at *;go_enter func145,ntmps145;go_wp2_with fail;refine(zAr _ _).mono ?_;rintro e w1 ⟨rfl,hw⟩;subst w1;rw[hk];go_wp2_with fail;refine(KF2.out _).mono ?_;rintro e w1 ⟨rfl,hb1⟩;replace BW:=yn BW hb1;replace R:=R.stay hb1;clear hb1;obtain⟨t0,t1,t2,t3⟩:=zc4 R;have ft:=R.frozen;clear R A;go_wp2_with fail;exact bodyPost_ret (v:=.agg #[.int .i64 cc,.slice none 0 0,.int .i64 0,.int .i64 0]) (by simp[results,results145,go_sem,t0,t1,t2,t3]) rfl ⟨[_,_,_,_],_,rfl,zA5 (zO _ _),zs4 BW zzA⟩
end Go.Proofs.YtiabacnmmojfjaaGreatDoor
