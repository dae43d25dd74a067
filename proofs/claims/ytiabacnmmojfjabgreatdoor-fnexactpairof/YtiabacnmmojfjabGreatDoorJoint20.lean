import Derived.Test.YtiabacnmmojfjabGreatDoorJoint18
import Derived.Test.YtiabacnmmojfjabGreatDoorJoint6
open Go.Proofs.Tryz
namespace Go.Proofs.YtiabacnmmojfjabGreatDoor
open Go.ChangeShapes Go.WideShapes Go.ChangeAt Go.RowKit
theorem zLI {w:World} {B:Nat} {h:zX} {u:Value} (k:Own w B u h.1):helloC.own w B h [u,.int .i64 h.2.1,.int .i64 h.2.2] (u.ownBlock.toList++([]++[])):=
  zBb (c:=bytC) (d:=zB2 (intC .i64) (intC .i64)) (a:=h) (us:=[u]) w.heap.size ⟨u,rfl,k,rfl⟩ (zBb 0 zBB zBB zE7 (fun _ _=>Nat.zero_le _)) (fun j hj=>k.lt j (mem_opt.1 hj)) (zKZ zI1 zI1)
theorem own3 {w:World} {B:Nat} {e:TypeId} {v:Value} {a b c:List UInt8} {xs:List Value} {fp:List Nat} (h:OwnL e bytC w B v [a,b,c] xs fp):
    ∃ g cap pa qa pb qb pc qc,v=.slice (some ⟨g,0,none⟩) 3 cap∧3≤cap∧cap≤2 ^ 63-1∧B≤g∧w.cell? ⟨g,0,none⟩=some (.slice pa a.length qa)∧w.cell? ⟨g,1,none⟩=some (.slice pb b.length qb)∧w.cell? ⟨g,2,none⟩=some (.slice pc c.length qc)∧Own w B (.slice pa a.length qa) a∧Rd w pb qb b∧Rd w pc qc c:=by
  obtain⟨us,ys,f,g,hx,hf,⟨va,e1,oa,-⟩,us2,ys2,f2,g2,hx2,hf2,⟨vb,e2,ob,-⟩,us3,ys3,f3,g3,hx3,hf3,⟨vc,e3,oc,-⟩,hz⟩:=h.all;obtain⟨pa,qa,rfl,-⟩:=oa.rd;obtain⟨pb,qb,rfl,rb⟩:=ob.rd;obtain⟨pc,qc,rfl,rc⟩:=oc.rd
  have hxs:xs=[.slice pa a.length qa,.slice pb b.length qb,.slice pc c.length qc]:=by rw[hx,e1,hx2,e2,hx3,e3,hz.1];rfl
  have h0:=h.row;rcases h.row.2 with ⟨rfl,hn⟩ | ⟨gg,cap,cur,rfl,hb,hg,hle,hm,hs,ht⟩
  · simp at hn
  · have c0:=World.ownsRow.cellAt h0 0 (by show 0<3*1;decide);have c1:=World.ownsRow.cellAt h0 1 (by show 1<3*1;decide);have c2:=World.ownsRow.cellAt h0 2 (by show 2<3*1;decide);rw[hxs] at c0 c1 c2;exact⟨gg,cap,pa,qa,pb,qb,pc,qc,rfl,hle,hm,hb,c0,c1,c2,oa,rb,rc⟩
theorem zLJ (W:World) (b o:Nat) (v:Value):W.grownBy (W.setCell ⟨b,o,none⟩ v) (some b):=
  ⟨rfl,rfl,rfl,by rw[World.size_setCell];exact yf _,fun k _ hk=>Below.heap_setCell _ _ _ k (fun e=>hk (by rw[e]))⟩
set_option maxRecDepth 4000 in
set_option maxHeartbeats 2000000 in
theorem zIe (p:Option Addr) (q:Nat) (body:List UInt8) (w:World) (hr:Rd w p q body) (hl:body.length≤1000):
    Calls prog 80 #[.slice p body.length q] w fun e w'=>∃ u s k,e=.returned (.tuple #[.agg #[u,.int .i64 s,.int .i64 k],.bool (huR body).isSome])∧((huR body).isSome=true→Own w' w.heap.size u ((huR body).getD zB9).1∧s=((huR body).getD zB9).2.1∧k=((huR body).getD zB9).2.2)∧(∃ pu nu qu,u=.slice pu nu qu)∧Below w.heap.size w w':=by
  have BW:=zA w (.cells #[.slice none 0 0,.int .i64 0,.int .i64 0] 74);have R:=yp w [.slice none 0 0,.int .i64 0,.int .i64 0] 74;have hz0:Hid ((w.alloc (.cells #[.slice none 0 0,.int .i64 0,.int .i64 0] 74)).heap.size=w.heap.size+1):=zB _ _;have KS:=zKn body p q _ (hr.keep BW) hl;clear hr
  suffices H:∀ Q:Ending→World→Prop,Hid (∀ e w',(∃ u s k,e=.returned (.tuple #[.agg #[u,.int .i64 s,.int .i64 k],.bool (huR body).isSome])∧((huR body).isSome=true→Own w' w.heap.size u ((huR body).getD zB9).1∧s=((huR body).getD zB9).2.1∧k=((huR body).getD zB9).2.2)∧(∃ pu nu qu,u=.slice pu nu qu)∧Below w.heap.size w w')→Q e w')→Calls prog 80 #[.slice p body.length q] w Q from H _ (show Hid _ from fun _ _ h=>h)
  intro Q HQ;have HU:Hid (huR body=(zAg body 0 []).bind h3):=rfl;cases hs:zAg body 0 [] with
  | none=>
    rw[hs] at KS HU;have HN:Hid (huR body=none):=HU.out;clear hs HU;go_enter func80,ntmps80;go_wp2_with fail;refine KS.mono ?_;rintro e w1 ⟨v,rfl,-,hb1⟩;replace R:=R.stay hb1;replace BW:=yn BW hb1;obtain⟨c0,c1,c2⟩:=zc3 R;have fz:=R.frozen;clear R hb1;go_wp2_with fail;exact bodyPost_ret (v:=.tuple #[.agg #[.slice none 0 0,.int .i64 0,.int .i64 0],.bool false]) (by simp[results,results80,go_sem,c0,c1,c2]) rfl (HQ.out _ _ ⟨_,_,_,by rw[HN.out];rfl,(fun h=>by rw[HN.out] at h;cases h),⟨_,_,_,rfl⟩,(((BW.setCell (yf _) _).setCell (yf _) _).setCell (yf _) _)⟩)
  | some bl=>
    rw[hs] at KS HU;replace HU:Hid (huR body=h3 bl):=HU.out;clear hs
    by_cases hl3:bl.length=3
    · match bl,hl3 with
      | [a,b,c],_=>
        go_enter func80,ntmps80;go_wp2_with fail;refine KS.mono ?_;rintro e w1 ⟨v,rfl,⟨xs,fp,ho⟩,hb1⟩;rw[hz0.out] at ho;obtain⟨g,cap,pa,qa,pb,qb,pc,qc,rfl,hcap,hcap2,hBg,l0,l1,l2,oa,rb,rc⟩:=own3 ho;replace R:=R.stay hb1;replace BW:=yn BW hb1
        have hz1:Hid (w.heap.size+1≤w1.heap.size):=by have h:=hb1.size;rw[hz0.out] at h;exact h
        have hqb1:b.length≤qb:=rb.1;have hqb2:qb≤2 ^ 63-1:=rb.2.1;have hqc1:c.length≤qc:=rc.1;have hqc2:qc≤2 ^ 63-1:=rc.2.1;obtain⟨c0,c1,c2⟩:=zc3 R;have fz:=R.frozen;clear hb1 KS;have HOA:Hid (Own w1 (w.heap.size+1) (.slice pa a.length qa) a):=oa;have HRB:Hid (Rd w1 pb qb b):=rb;have HRC:Hid (Rd w1 pc qc c):=rc;clear oa rb rc ho
        by_cases hb2:b.length=2
        · have db:((b.length:Int) != 2)=false:=by rw[bne_eq_false_iff_eq];omega
          by_cases hc1:c.length=1
          · have dc:((c.length:Int) != 1)=false:=by rw[bne_eq_false_iff_eq];omega
            have HB2:Hid (b.length=2):=hb2;have HC1:Hid (c.length=1):=hc1;obtain⟨bc,oc,rfl,hcc⟩:=HRC.out.2.2.2 (by omega);have lc:=hcc 0 (by omega);rw[Nat.add_zero] at lc;have la:=zE1 c 0;have ua:=zE2 c 0;rw[hb2] at l1 hqb1;rw[hc1] at l2 hqc1;clear hcc hb2 hc1 db dc;go_wp2_with fail;apply share
            case h=>
              intro JN;have hne:=yo w1;have g0:=yq l0;have g1:=yq l1;have g2:=yq l2;have g3:=yq lc;refine zWr [0,1,2,3,4,5,7,8,9,10,11,12] 15 3 1 ?_;simp only[zH,ya,yb,yc]
              repeat (go_big_quiet_step (fail))
              refine wpQuiet_nil ?_;clear g0 g1 g2 g3;refine zAJ (i:=6) (j:=14) (by kernel_rfl) ?_ ?_
              · refine mOp_call rfl (by go_simp) 126 _ #[.slice pb 2 qb] (fun w=>by go_simp) rfl ?_;rintro _ ⟨s0,rfl⟩;refine(zIL pb qb 2 b _ (HRB.out.keep s0.h) HB2.out (by decide)).mono ?_;rintro e w3 ⟨rfl,hw3⟩;subst w3;refine⟨_,rfl,⟨⟨_,Below.refl _ _⟩,rfl⟩,?_⟩;have hB0:=s0.h;have hne0:=yo (s0.w);refine zAJ (i:=13) (j:=14) (by kernel_rfl) ?_ ?_
                · refine mOp_make rfl (by go_simp) ?_;rintro _ ⟨s1,rfl⟩;refine⟨.agg #[.slice pa a.length qa,.int .i64 ((getB b:Nat):Int),.int .i64 (at8 c 0)],s1.w,by go_simp,⟨⟨_,Below.refl _ _⟩,rfl⟩,?_⟩;have hB1:=(yn hB0 s1.h);have hne1:=yo (s1.w);refine zWk 14 rfl ?_;rintro _ ⟨s2,rfl⟩;refine⟨.pointer (some ⟨s2.w.heap.size,0,none⟩),s2.w.alloc (.cells #[.slice none 0 0,.int .i64 0,.int .i64 0] 74),by go_simp,⟨⟨_,zA _ _⟩,rfl⟩,?_⟩;have AA:=yp s2.w [.slice none 0 0,.int .i64 0,.int .i64 0] 74;have hB2:=yn (yn hB1 s2.h) (zA s2.w (.cells #[.slice none 0 0,.int .i64 0,.int .i64 0] 74));have GG:w1.heap.size≤s2.w.heap.size:=yi hB1.size s2.h.size;generalize s2.w.heap.size=gg at *;generalize s2.w.alloc (.cells #[.slice none 0 0,.int .i64 0,.int .i64 0] 74)=wa at *;have hne2:=yo (wa);refine zWe ?_;rintro _ ⟨sz,rfl⟩;simp only[yd,ye]
                  go_simp
                  replace AA:=AA.stay sz.h;have BB:=yn hB2 sz.h;generalize sz.w=W at *;revert GG;revert AA;revert BB;revert gg;revert W;exact JN.out
                · refine mOp_make rfl (by go_simp) ?_;rintro _ ⟨s1,rfl⟩;refine⟨.pointer (some ⟨s1.w.heap.size,0,none⟩),s1.w.alloc (.cells #[.slice none 0 0,.int .i64 0,.int .i64 0] 74),by go_simp,⟨⟨_,zA _ _⟩,rfl⟩,?_⟩;have AA:=yp s1.w [.slice none 0 0,.int .i64 0,.int .i64 0] 74;have hB1:=yn (yn hB0 s1.h) (zA s1.w (.cells #[.slice none 0 0,.int .i64 0,.int .i64 0] 74));have GG:w1.heap.size≤s1.w.heap.size:=yi hB0.size s1.h.size;generalize s1.w.heap.size=gg at *;generalize s1.w.alloc (.cells #[.slice none 0 0,.int .i64 0,.int .i64 0] 74)=wa at *;have hne1:=yo (wa);refine zWk 13 rfl ?_;rintro _ ⟨s2,rfl⟩;refine⟨.agg #[.slice pa a.length qa,.int .i64 ((getB b:Nat):Int),.int .i64 (at8 c 0)],s2.w,by go_simp,⟨⟨_,Below.refl _ _⟩,rfl⟩,?_⟩;have hB2:=(yn hB1 s2.h);replace AA:=AA.stay s2.h;have hne2:=yo (s2.w);refine zWe ?_;rintro _ ⟨sz,rfl⟩;simp only[yd,ye]
                  go_simp
                  replace AA:=AA.stay sz.h;have BB:=yn hB2 sz.h;generalize sz.w=W at *;revert GG;revert AA;revert BB;revert gg;revert W;exact JN.out
              · refine mOp_make rfl (by go_simp) ?_;rintro _ ⟨s0,rfl⟩;refine⟨.pointer (some ⟨s0.w.heap.size,0,none⟩),s0.w.alloc (.cells #[.slice none 0 0,.int .i64 0,.int .i64 0] 74),by go_simp,⟨⟨_,zA _ _⟩,rfl⟩,?_⟩;have AA:=yp s0.w [.slice none 0 0,.int .i64 0,.int .i64 0] 74;have hB0:=yn s0.h (zA s0.w (.cells #[.slice none 0 0,.int .i64 0,.int .i64 0] 74));have GG:w1.heap.size≤s0.w.heap.size:=s0.h.size;generalize s0.w.heap.size=gg at *;generalize s0.w.alloc (.cells #[.slice none 0 0,.int .i64 0,.int .i64 0] 74)=wa at *;have hne0:=yo (wa);refine zWc 6 rfl 126 #[.slice pb 2 qb] ?_;rintro _ ⟨s1,rfl⟩;refine(zIL pb qb 2 b _ (HRB.out.keep (yn hB0 s1.h)) HB2.out (by decide)).mono ?_;rintro e w3 ⟨rfl,hw3⟩;subst w3;refine⟨_,rfl,⟨⟨_,Below.refl _ _⟩,rfl⟩,?_⟩;have hB1:=(yn hB0 s1.h);replace AA:=AA.stay s1.h;have hne1:=yo (s1.w);refine zWk 13 rfl ?_;rintro _ ⟨s2,rfl⟩;refine⟨.agg #[.slice pa a.length qa,.int .i64 ((getB b:Nat):Int),.int .i64 (at8 c 0)],s2.w,by go_simp,⟨⟨_,Below.refl _ _⟩,rfl⟩,?_⟩;have hB2:=(yn hB1 s2.h);replace AA:=AA.stay s2.h;have hne2:=yo (s2.w);refine zWe ?_;rintro _ ⟨sz,rfl⟩;simp only[yd,ye]
                go_simp
                replace AA:=AA.stay sz.h;have BB:=yn hB2 sz.h;generalize sz.w=W at *;revert GG;revert AA;revert BB;revert gg;revert W;exact JN.out
            intro W gg BB AA GG;replace R:=R.stay BB;replace BW:=yn BW BB;have HOA2:=HOA.out.stay BB;obtain⟨a0,a1,a2⟩:=zc3 AA;have fa:=AA.frozen;have hgg:Hid (w.heap.size+1≤gg):=yi hz1.out GG;have L2:=((AA.set 0 (.slice pa a.length qa)).set 1 (.int .i64 ((getB b:Nat):Int))).set 2 (.int .i64 (at8 c 0));have R2:=((R.setOther (a:=⟨gg,0,none⟩) (by have:=hgg.out;show w.heap.size≠gg;omega) (.slice pa a.length qa)).setOther (a:=⟨gg,1,none⟩) (by have:=hgg.out;show w.heap.size≠gg;omega) (.int .i64 ((getB b:Nat):Int))).setOther (a:=⟨gg,2,none⟩) (by have:=hgg.out;show w.heap.size≠gg;omega) (.int .i64 (at8 c 0))
            have hng:∀ k,(Value.slice pa a.length qa).ownBlock=some k→some gg≠some k:=fun k hk e=>by cases e;have:=HOA.out.lt gg hk;omega
            have K2:Own (((W.setCell ⟨gg,0,none⟩ (.slice pa a.length qa)).setCell ⟨gg,1,none⟩ (.int .i64 ((getB b:Nat):Int))).setCell ⟨gg,2,none⟩ (.int .i64 (at8 c 0))) (w.heap.size+1) (.slice pa a.length qa) a:=((HOA2.other (zLJ W gg 0 _) hng).other (zLJ _ gg 1 _) hng).other (zLJ _ gg 2 _) hng;have B2:=((BW.setCell (p:=⟨gg,0,none⟩) (by have:=hgg.out;show w.heap.size≤gg;omega) (.slice pa a.length qa)).setCell (p:=⟨gg,1,none⟩) (by have:=hgg.out;show w.heap.size≤gg;omega) (.int .i64 ((getB b:Nat):Int))).setCell (p:=⟨gg,2,none⟩) (by have:=hgg.out;show w.heap.size≤gg;omega) (.int .i64 (at8 c 0));clear R BW HOA2 AA BB c0 c1 c2 fz l0 l1 l2 lc;generalize e2:((W.setCell ⟨gg,0,none⟩ (.slice pa a.length qa)).setCell ⟨gg,1,none⟩ (.int .i64 ((getB b:Nat):Int))).setCell ⟨gg,2,none⟩ (.int .i64 (at8 c 0))=W2 at *
            have HH3:Hid (h3 [a,b,c]=if hfC (a,((getB b:Nat):Int),at8 c 0)=0 then some (a,((getB b:Nat):Int),at8 c 0) else none):=by
              show(if b.length=2∧c.length=1∧hfC (a,((getB b:Nat):Int),at8 c 0)=0 then some (a,((getB b:Nat):Int),at8 c 0) else none)=_
              by_cases hf:hfC (a,((getB b:Nat):Int),at8 c 0)=0
              · rw[if_pos ⟨HB2.out,HC1.out,hf⟩,if_pos hf]
              · rw[if_neg (fun h=>hf h.2.2),if_neg hf]
            have KF:Hid (∀ V,Below W2.heap.size W2 V→Calls prog 127 #[.pointer (some ⟨gg,0,none⟩)] V fun e w'=>e=.returned (.int .i64 (hfC (a,((getB b:Nat):Int),at8 c 0)))∧w'=V):=fun V hV=>zJ0 gg (a,((getB b:Nat):Int),at8 c 0) pa qa V (fun i u hu=>((L2.stay hV).cell i).trans hu)
            have HL2:Hid (Arr W2 gg 74 [.slice pa a.length qa,.int .i64 ((getB b:Nat):Int),.int .i64 (at8 c 0)]):=L2;have HK2:Hid (Own W2 (w.heap.size+1) (.slice pa a.length qa) a):=K2;have HBW2:Hid (Below w.heap.size w W2):=B2;have HR2:Hid (Arr W2 w.heap.size 74 [.slice none 0 0,.int .i64 0,.int .i64 0]):=R2;clear L2 K2 B2 R2;go_wp2_with fail;clear e2 a0 a1 a2 fa;have m0:=zQ (HL2.out.cell 0) rfl;have m1:=zQ (HL2.out.cell 1) rfl;have m2:=zQ (HL2.out.cell 2) rfl;have c0:=zQ (HR2.out.cell 0) rfl;have c1:=zQ (HR2.out.cell 1) rfl;have c2:=zQ (HR2.out.cell 2) rfl;have fz:=HR2.out.frozen
            by_cases hf:hfC (a,((getB b:Nat):Int),at8 c 0)=0
            · have HS:Hid (huR body=some (a,((getB b:Nat):Int),at8 c 0)):=by show _=_;rw[HU.out,HH3.out,if_pos hf]
              have df:(hfC (a,((getB b:Nat):Int),at8 c 0)==0)=true:=by rw[beq_iff_eq];exact hf
              clear hf
              go_region_with (go_at_call 127;refine(KF.out _ (by first | exact(Below.refl _ _).drew | exact Below.refl _ _)).mono ?_;rintro e w3 ⟨rfl,hw3⟩;subst w3)
              all_goals go_wp2_with fail
              all_goals exact bodyPost_ret (v:=.tuple #[.agg #[.slice pa a.length qa,.int .i64 ((getB b:Nat):Int),.int .i64 (at8 c 0)],.bool true]) (by simp[results,results80,go_sem,c0,c1,c2]) rfl (HQ.out _ _ ⟨_,_,_,by rw[HS.out];rfl,(fun _=>by rw[HS.out];exact⟨((((HK2.out.stay (Below.refl _ _).drew).set (yg _) _).set (yg _) _).set (yg _) _).lower (yh _),rfl,rfl⟩),⟨_,_,_,rfl⟩,((((yn HBW2.out (Below.refl _ _).drew).setCell (yf _) _).setCell (yf _) _).setCell (yf _) _)⟩)
            · have HN:Hid (huR body=none):=by show _=_;rw[HU.out,HH3.out,if_neg hf]
              have df:(hfC (a,((getB b:Nat):Int),at8 c 0)==0)=false:=by rw[beq_eq_false_iff_ne];exact hf
              clear hf
              go_region_with (go_at_call 127;refine(KF.out _ (by first | exact(Below.refl _ _).drew | exact Below.refl _ _)).mono ?_;rintro e w3 ⟨rfl,hw3⟩;subst w3)
              all_goals go_wp2_with fail
              all_goals exact bodyPost_ret (v:=.tuple #[.agg #[.slice pa a.length qa,.int .i64 ((getB b:Nat):Int),.int .i64 (at8 c 0)],.bool false]) (by simp[results,results80,go_sem,c0,c1,c2]) rfl (HQ.out _ _ ⟨_,_,_,by rw[HN.out];rfl,(fun h=>by rw[HN.out] at h;cases h),⟨_,_,_,rfl⟩,((((yn HBW2.out (Below.refl _ _).drew).setCell (yf _) _).setCell (yf _) _).setCell (yf _) _)⟩)
          · have dc:((c.length:Int) != 1)=true:=by rw[bne_iff_ne];omega
            have HN:Hid (huR body=none):=by show _=_;rw[HU.out,h3];exact if_neg (fun h=>hc1 h.2.1)
            clear hb2 hc1 R;go_wp2_with fail;exact bodyPost_ret (v:=.tuple #[.agg #[.slice none 0 0,.int .i64 0,.int .i64 0],.bool false]) (by simp[results,results80,go_sem,c0,c1,c2]) rfl (HQ.out _ _ ⟨_,_,_,by rw[HN.out];rfl,(fun h=>by rw[HN.out] at h;cases h),⟨_,_,_,rfl⟩,(((BW.setCell (yf _) _).setCell (yf _) _).setCell (yf _) _)⟩)
        · have db:((b.length:Int) != 2)=true:=by rw[bne_iff_ne];omega
          have HN:Hid (huR body=none):=by show _=_;rw[HU.out,h3];exact if_neg (fun h=>hb2 h.1)
          clear hb2 R;go_wp2_with fail;exact bodyPost_ret (v:=.tuple #[.agg #[.slice none 0 0,.int .i64 0,.int .i64 0],.bool false]) (by simp[results,results80,go_sem,c0,c1,c2]) rfl (HQ.out _ _ ⟨_,_,_,by rw[HN.out];rfl,(fun h=>by rw[HN.out] at h;cases h),⟨_,_,_,rfl⟩,(((BW.setCell (yf _) _).setCell (yf _) _).setCell (yf _) _)⟩)
    · have HN:Hid (huR body=none):=by
        show _=_
        rw[HU.out]
        match bl,hl3 with
        | [],_=>rfl
        | [_],_=>rfl
        | [_,_],_=>rfl
        | [_,_,_],h=>exact absurd rfl h
        | _ :: _ :: _ :: _ :: _,_=>rfl
      have d3:((bl.length:Int) != 3)=true:=by rw[bne_iff_ne];omega
      clear hl3 HU;go_enter func80,ntmps80;go_wp2_with fail;refine KS.mono ?_;rintro e w1 ⟨v,rfl,⟨xs,fp,ho⟩,hb1⟩;obtain⟨pv,qv,rfl,-⟩:=ho.rd;replace R:=R.stay hb1;replace BW:=yn BW hb1;obtain⟨c0,c1,c2⟩:=zc3 R;have fz:=R.frozen;clear R hb1 ho;go_wp2_with fail;exact bodyPost_ret (v:=.tuple #[.agg #[.slice none 0 0,.int .i64 0,.int .i64 0],.bool false]) (by simp[results,results80,go_sem,c0,c1,c2]) rfl (HQ.out _ _ ⟨_,_,_,by rw[HN.out];rfl,(fun h=>by rw[HN.out] at h;cases h),⟨_,_,_,rfl⟩,(((BW.setCell (yf _) _).setCell (yf _) _).setCell (yf _) _)⟩)
end Go.Proofs.YtiabacnmmojfjabGreatDoor
