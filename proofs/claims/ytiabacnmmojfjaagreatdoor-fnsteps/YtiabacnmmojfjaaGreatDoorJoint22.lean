import Derived.Test.YtiabacnmmojfjaaGreatDoorJoint21
import Derived.Test.YtiabacnmmojfjaaGreatDoorJoint7
import Derived.Test.YtiabacnmmojfjaaGreatDoorJoint6
import Derived.Test.YtiabacnmmojfjaaGreatDoorJoint16
import Derived.Test.YtiabacnmmojfjaaGreatDoorCod
import Derived.Test.YtiabacnmmojfjaaGreatDoorJoint5
set_option maxHeartbeats 2000000
set_option maxRecDepth 4000
open Go.Proofs.Tryz
namespace Go.Proofs.YtiabacnmmojfjaaGreatDoor
open Go.ChangeShapes Go.WideShapes Go.ChangeAt Go.RowKit
theorem zKm {w:World} {B:Nat} {h:zAB} {u:Value} (k:Own w B u h.1):helloC.own w B h [u,.int .i64 h.2.1,.int .i64 h.2.2] (u.ownBlock.toList++([]++[])):=
  zCV (c:=bytC) (d:=zCI (intC .i64) (intC .i64)) (a:=h) (us:=[u]) w.heap.size ⟨u,rfl,k,rfl⟩ (zCV 0 zBd zBd zGN (fun _ _=>Nat.zero_le _)) (fun j hj=>k.lt j (mem_opt.1 hj)) (zMI zJ6 zJ6)
theorem own3 {w:World} {B:Nat} {e:TypeId} {v:Value} {a b c:List UInt8} {xs:List Value} {fp:List Nat} (h:OwnL e bytC w B v [a,b,c] xs fp):
    ∃ g cap pa qa pb qb pc qc,v=.slice (some ⟨g,0,none⟩) 3 cap∧3≤cap∧cap≤2 ^ 63-1∧B≤g∧w.cell? ⟨g,0,none⟩=some (.slice pa a.length qa)∧w.cell? ⟨g,1,none⟩=some (.slice pb b.length qb)∧w.cell? ⟨g,2,none⟩=some (.slice pc c.length qc)∧Own w B (.slice pa a.length qa) a∧Rd w pb qb b∧Rd w pc qc c:=by
  obtain⟨us,ys,f,g,hx,hf,⟨va,e1,oa,-⟩,us2,ys2,f2,g2,hx2,hf2,⟨vb,e2,ob,-⟩,us3,ys3,f3,g3,hx3,hf3,⟨vc,e3,oc,-⟩,hz⟩:=h.all;obtain⟨pa,qa,rfl,-⟩:=oa.rd;obtain⟨pb,qb,rfl,rb⟩:=ob.rd;obtain⟨pc,qc,rfl,rc⟩:=oc.rd
  have hxs:xs=[.slice pa a.length qa,.slice pb b.length qb,.slice pc c.length qc]:=by rw[hx,e1,hx2,e2,hx3,e3,hz.1];rfl
  have h0:=h.row;rcases h.row.2 with ⟨rfl,hn⟩ | ⟨gg,cap,cur,rfl,hb,hg,hle,hm,hs,ht⟩
  · simp at hn
  · have c0:=World.ownsRow.cellAt h0 0 (by show 0<3*1;decide);have c1:=World.ownsRow.cellAt h0 1 (by show 1<3*1;decide);have c2:=World.ownsRow.cellAt h0 2 (by show 2<3*1;decide);rw[hxs] at c0 c1 c2;exact⟨gg,cap,pa,qa,pb,qb,pc,qc,rfl,hle,hm,hb,c0,c1,c2,oa,rb,rc⟩
theorem zKn (W:World) (b o:Nat) (v:Value):W.grownBy (W.setCell ⟨b,o,none⟩ v) (some b):=
  ⟨rfl,rfl,rfl,by rw[World.size_setCell];exact yf _,fun k _ hk=>Below.heap_setCell _ _ _ k (fun e=>hk (by rw[e]))⟩
theorem zIP (p:Option Addr) (q:Nat) (body:List UInt8) (w:World) (hr:Rd w p q body) (hl:body.length≤1000):
    Calls prog 119 #[.slice p body.length q] w fun e w'=>∃ u s k,e=.returned (.tuple #[.agg #[u,.int .i64 s,.int .i64 k],.bool (huR body).isSome])∧((huR body).isSome=true→Own w' w.heap.size u ((huR body).getD zB9).1∧s=((huR body).getD zB9).2.1∧k=((huR body).getD zB9).2.2)∧(∃ pu nu qu,u=.slice pu nu qu)∧Below w.heap.size w w':=by
  have BW:=zA w (.cells #[.slice none 0 0,.int .i64 0,.int .i64 0] 84);have R:=yr w [.slice none 0 0,.int .i64 0,.int .i64 0] 84;have hz0:Hid ((w.alloc (.cells #[.slice none 0 0,.int .i64 0,.int .i64 0] 84)).heap.size=w.heap.size+1):=zB _ _;have KS:=zKJ body p q _ (hr.keep BW) hl;clear hr
  suffices H:∀ Q:Ending→World→Prop,Hid (∀ e w',(∃ u s k,e=.returned (.tuple #[.agg #[u,.int .i64 s,.int .i64 k],.bool (huR body).isSome])∧((huR body).isSome=true→Own w' w.heap.size u ((huR body).getD zB9).1∧s=((huR body).getD zB9).2.1∧k=((huR body).getD zB9).2.2)∧(∃ pu nu qu,u=.slice pu nu qu)∧Below w.heap.size w w')→Q e w')→Calls prog 119 #[.slice p body.length q] w Q from H _ (show Hid _ from fun _ _ h=>h)
  intro Q HQ;have HU:Hid (huR body=(zAe body 0 []).bind h3):=rfl;cases hs:zAe body 0 [] with
  | none=>
    rw[hs] at KS HU;have HN:Hid (huR body=none):=HU.out;clear hs HU;go_enter func119,ntmps119;go_wp2_with fail;refine KS.mono ?_;rintro e w1 ⟨v,rfl,-,hb1⟩;replace R:=R.stay hb1;replace BW:=yn BW hb1;obtain⟨c0,c1,c2⟩:=zc3 R;have fz:=R.frozen;clear R hb1;go_wp2_with fail;exact bodyPost_ret (v:=.tuple #[.agg #[.slice none 0 0,.int .i64 0,.int .i64 0],.bool false]) (by simp[results,results119,go_sem,c0,c1,c2]) rfl (HQ.out _ _ ⟨_,_,_,by rw[HN.out];rfl,(fun h=>by rw[HN.out] at h;cases h),⟨_,_,_,rfl⟩,(((BW.setCell (yf _) _).setCell (yf _) _).setCell (yf _) _)⟩)
  | some bl=>
    rw[hs] at KS HU;replace HU:Hid (huR body=h3 bl):=HU.out;clear hs
    by_cases hl3:bl.length=3
    · match bl,hl3 with
      | [a,b,c],_=>
        go_enter func119,ntmps119;go_wp2_with fail;refine KS.mono ?_;rintro e w1 ⟨v,rfl,⟨xs,fp,ho⟩,hb1⟩;rw[hz0.out] at ho;obtain⟨g,cap,pa,qa,pb,qb,pc,qc,rfl,hcap,hcap2,hBg,l0,l1,l2,oa,rb,rc⟩:=own3 ho;replace R:=R.stay hb1;replace BW:=yn BW hb1
        have hz1:Hid (w.heap.size+1≤w1.heap.size):=by have h:=hb1.size;rw[hz0.out] at h;exact h
        have hqb1:b.length≤qb:=rb.1;have hqb2:qb≤2 ^ 63-1:=rb.2.1;have hqc1:c.length≤qc:=rc.1;have hqc2:qc≤2 ^ 63-1:=rc.2.1;obtain⟨c0,c1,c2⟩:=zc3 R;have fz:=R.frozen;clear hb1 KS;have HOA:Hid (Own w1 (w.heap.size+1) (.slice pa a.length qa) a):=oa;have HRB:Hid (Rd w1 pb qb b):=rb;have HRC:Hid (Rd w1 pc qc c):=rc;clear oa rb rc ho
        by_cases hb2:b.length=2
        · have db:((b.length:Int) != 2)=false:=by rw[bne_eq_false_iff_eq];omega
          by_cases hc1:c.length=1
          · have dc:((c.length:Int) != 1)=false:=by rw[bne_eq_false_iff_eq];omega
            have HB2:Hid (b.length=2):=hb2;have HC1:Hid (c.length=1):=hc1;obtain⟨bc,oc,rfl,hcc⟩:=HRC.out.2.2.2 (by omega);have lc:=hcc 0 (by omega);rw[Nat.add_zero] at lc;have la:=zDj c 0;have ua:=zDk c 0;rw[hb2] at l1 hqb1;rw[hc1] at l2 hqc1;clear hcc hb2 hc1 db dc;go_wp2_with fail;apply share
            case h=>
              intro JN;have hne:=yq w1;have g0:=yo l0;have g1:=yo l1;have g2:=yo l2;have g3:=yo lc;refine zWr [0,1,2,3,4,5,7,8,9,10,11,12] 15 3 1 ?_;simp only[zD,ya,yb,yc]
              repeat (go_big_quiet_step (fail))
              refine wpQuiet_nil ?_;clear g0 g1 g2 g3;refine zAs (i:=6) (j:=14) (by kernel_rfl) ?_ ?_
              · refine mOp_call rfl (by go_simp) 161 _ #[.slice pb 2 qb] (fun w=>by go_simp) rfl ?_;rintro _ ⟨s0,rfl⟩;refine(zH4 pb qb 2 b _ (HRB.out.keep s0.h) HB2.out (by decide)).mono ?_;rintro e w3 ⟨rfl,hw3⟩;subst w3;refine⟨_,rfl,⟨⟨_,Below.refl _ _⟩,rfl⟩,?_⟩;have hB0:=s0.h;have hne0:=yq (s0.w);refine zAs (i:=13) (j:=14) (by kernel_rfl) ?_ ?_
                · refine mOp_make rfl (by go_simp) ?_;rintro _ ⟨s1,rfl⟩;refine⟨.agg #[.slice pa a.length qa,.int .i64 ((getB b:Nat):Int),.int .i64 (at8 c 0)],s1.w,by go_simp,⟨⟨_,Below.refl _ _⟩,rfl⟩,?_⟩;have hB1:=(yn hB0 s1.h);have hne1:=yq (s1.w);refine zWk 14 rfl ?_;rintro _ ⟨s2,rfl⟩;refine⟨.pointer (some ⟨s2.w.heap.size,0,none⟩),s2.w.alloc (.cells #[.slice none 0 0,.int .i64 0,.int .i64 0] 84),by go_simp,⟨⟨_,zA _ _⟩,rfl⟩,?_⟩;have AA:=yr s2.w [.slice none 0 0,.int .i64 0,.int .i64 0] 84;have hB2:=yn (yn hB1 s2.h) (zA s2.w (.cells #[.slice none 0 0,.int .i64 0,.int .i64 0] 84));have GG:w1.heap.size≤s2.w.heap.size:=yi hB1.size s2.h.size;generalize s2.w.heap.size=gg at *;generalize s2.w.alloc (.cells #[.slice none 0 0,.int .i64 0,.int .i64 0] 84)=wa at *;have hne2:=yq (wa);refine zWe ?_;rintro _ ⟨sz,rfl⟩;simp only[yd,ye]
                  go_simp
                  replace AA:=AA.stay sz.h;have BB:=yn hB2 sz.h;generalize sz.w=W at *;revert GG;revert AA;revert BB;revert gg;revert W;exact JN.out
                · refine mOp_make rfl (by go_simp) ?_;rintro _ ⟨s1,rfl⟩;refine⟨.pointer (some ⟨s1.w.heap.size,0,none⟩),s1.w.alloc (.cells #[.slice none 0 0,.int .i64 0,.int .i64 0] 84),by go_simp,⟨⟨_,zA _ _⟩,rfl⟩,?_⟩;have AA:=yr s1.w [.slice none 0 0,.int .i64 0,.int .i64 0] 84;have hB1:=yn (yn hB0 s1.h) (zA s1.w (.cells #[.slice none 0 0,.int .i64 0,.int .i64 0] 84));have GG:w1.heap.size≤s1.w.heap.size:=yi hB0.size s1.h.size;generalize s1.w.heap.size=gg at *;generalize s1.w.alloc (.cells #[.slice none 0 0,.int .i64 0,.int .i64 0] 84)=wa at *;have hne1:=yq (wa);refine zWk 13 rfl ?_;rintro _ ⟨s2,rfl⟩;refine⟨.agg #[.slice pa a.length qa,.int .i64 ((getB b:Nat):Int),.int .i64 (at8 c 0)],s2.w,by go_simp,⟨⟨_,Below.refl _ _⟩,rfl⟩,?_⟩;have hB2:=(yn hB1 s2.h);replace AA:=AA.stay s2.h;have hne2:=yq (s2.w);refine zWe ?_;rintro _ ⟨sz,rfl⟩;simp only[yd,ye]
                  go_simp
                  replace AA:=AA.stay sz.h;have BB:=yn hB2 sz.h;generalize sz.w=W at *;revert GG;revert AA;revert BB;revert gg;revert W;exact JN.out
              · refine mOp_make rfl (by go_simp) ?_;rintro _ ⟨s0,rfl⟩;refine⟨.pointer (some ⟨s0.w.heap.size,0,none⟩),s0.w.alloc (.cells #[.slice none 0 0,.int .i64 0,.int .i64 0] 84),by go_simp,⟨⟨_,zA _ _⟩,rfl⟩,?_⟩;have AA:=yr s0.w [.slice none 0 0,.int .i64 0,.int .i64 0] 84;have hB0:=yn s0.h (zA s0.w (.cells #[.slice none 0 0,.int .i64 0,.int .i64 0] 84));have GG:w1.heap.size≤s0.w.heap.size:=s0.h.size;generalize s0.w.heap.size=gg at *;generalize s0.w.alloc (.cells #[.slice none 0 0,.int .i64 0,.int .i64 0] 84)=wa at *;have hne0:=yq (wa);refine zWc 6 rfl 161 #[.slice pb 2 qb] ?_;rintro _ ⟨s1,rfl⟩;refine(zH4 pb qb 2 b _ (HRB.out.keep (yn hB0 s1.h)) HB2.out (by decide)).mono ?_;rintro e w3 ⟨rfl,hw3⟩;subst w3;refine⟨_,rfl,⟨⟨_,Below.refl _ _⟩,rfl⟩,?_⟩;have hB1:=(yn hB0 s1.h);replace AA:=AA.stay s1.h;have hne1:=yq (s1.w);refine zWk 13 rfl ?_;rintro _ ⟨s2,rfl⟩;refine⟨.agg #[.slice pa a.length qa,.int .i64 ((getB b:Nat):Int),.int .i64 (at8 c 0)],s2.w,by go_simp,⟨⟨_,Below.refl _ _⟩,rfl⟩,?_⟩;have hB2:=(yn hB1 s2.h);replace AA:=AA.stay s2.h;have hne2:=yq (s2.w);refine zWe ?_;rintro _ ⟨sz,rfl⟩;simp only[yd,ye]
                go_simp
                replace AA:=AA.stay sz.h;have BB:=yn hB2 sz.h;generalize sz.w=W at *;revert GG;revert AA;revert BB;revert gg;revert W;exact JN.out
            intro W gg BB AA GG;replace R:=R.stay BB;replace BW:=yn BW BB;have HOA2:=HOA.out.stay BB;obtain⟨a0,a1,a2⟩:=zc3 AA;have fa:=AA.frozen;have hgg:Hid (w.heap.size+1≤gg):=yi hz1.out GG;have L2:=((AA.set 0 (.slice pa a.length qa)).set 1 (.int .i64 ((getB b:Nat):Int))).set 2 (.int .i64 (at8 c 0));have R2:=((R.setOther (a:=⟨gg,0,none⟩) (by have:=hgg.out;show w.heap.size≠gg;omega) (.slice pa a.length qa)).setOther (a:=⟨gg,1,none⟩) (by have:=hgg.out;show w.heap.size≠gg;omega) (.int .i64 ((getB b:Nat):Int))).setOther (a:=⟨gg,2,none⟩) (by have:=hgg.out;show w.heap.size≠gg;omega) (.int .i64 (at8 c 0))
            have hng:∀ k,(Value.slice pa a.length qa).ownBlock=some k→some gg≠some k:=fun k hk e=>by cases e;have:=HOA.out.lt gg hk;omega
            have K2:Own (((W.setCell ⟨gg,0,none⟩ (.slice pa a.length qa)).setCell ⟨gg,1,none⟩ (.int .i64 ((getB b:Nat):Int))).setCell ⟨gg,2,none⟩ (.int .i64 (at8 c 0))) (w.heap.size+1) (.slice pa a.length qa) a:=((HOA2.other (zKn W gg 0 _) hng).other (zKn _ gg 1 _) hng).other (zKn _ gg 2 _) hng;have B2:=((BW.setCell (p:=⟨gg,0,none⟩) (by have:=hgg.out;show w.heap.size≤gg;omega) (.slice pa a.length qa)).setCell (p:=⟨gg,1,none⟩) (by have:=hgg.out;show w.heap.size≤gg;omega) (.int .i64 ((getB b:Nat):Int))).setCell (p:=⟨gg,2,none⟩) (by have:=hgg.out;show w.heap.size≤gg;omega) (.int .i64 (at8 c 0));clear R BW HOA2 AA BB c0 c1 c2 fz l0 l1 l2 lc;generalize e2:((W.setCell ⟨gg,0,none⟩ (.slice pa a.length qa)).setCell ⟨gg,1,none⟩ (.int .i64 ((getB b:Nat):Int))).setCell ⟨gg,2,none⟩ (.int .i64 (at8 c 0))=W2 at *
            have HH3:Hid (h3 [a,b,c]=if hfC (a,((getB b:Nat):Int),at8 c 0)=0 then some (a,((getB b:Nat):Int),at8 c 0) else none):=by
              show(if b.length=2∧c.length=1∧hfC (a,((getB b:Nat):Int),at8 c 0)=0 then some (a,((getB b:Nat):Int),at8 c 0) else none)=_
              by_cases hf:hfC (a,((getB b:Nat):Int),at8 c 0)=0
              · rw[if_pos ⟨HB2.out,HC1.out,hf⟩,if_pos hf]
              · rw[if_neg (fun h=>hf h.2.2),if_neg hf]
            have KF:Hid (∀ V,Below W2.heap.size W2 V→Calls prog 162 #[.pointer (some ⟨gg,0,none⟩)] V fun e w'=>e=.returned (.int .i64 (hfC (a,((getB b:Nat):Int),at8 c 0)))∧w'=V):=fun V hV=>zJb gg (a,((getB b:Nat):Int),at8 c 0) pa qa V (fun i u hu=>((L2.stay hV).cell i).trans hu)
            have HL2:Hid (Arr W2 gg 84 [.slice pa a.length qa,.int .i64 ((getB b:Nat):Int),.int .i64 (at8 c 0)]):=L2;have HK2:Hid (Own W2 (w.heap.size+1) (.slice pa a.length qa) a):=K2;have HBW2:Hid (Below w.heap.size w W2):=B2;have HR2:Hid (Arr W2 w.heap.size 84 [.slice none 0 0,.int .i64 0,.int .i64 0]):=R2;clear L2 K2 B2 R2;go_wp2_with fail;clear e2 a0 a1 a2 fa;have m0:=zQ (HL2.out.cell 0) rfl;have m1:=zQ (HL2.out.cell 1) rfl;have m2:=zQ (HL2.out.cell 2) rfl;have c0:=zQ (HR2.out.cell 0) rfl;have c1:=zQ (HR2.out.cell 1) rfl;have c2:=zQ (HR2.out.cell 2) rfl;have fz:=HR2.out.frozen
            by_cases hf:hfC (a,((getB b:Nat):Int),at8 c 0)=0
            · have HS:Hid (huR body=some (a,((getB b:Nat):Int),at8 c 0)):=by show _=_;rw[HU.out,HH3.out,if_pos hf]
              have df:(hfC (a,((getB b:Nat):Int),at8 c 0)==0)=true:=by rw[beq_iff_eq];exact hf
              clear hf
              go_region_with (go_at_call 162;refine(KF.out _ (by first | exact(Below.refl _ _).drew | exact Below.refl _ _)).mono ?_;rintro e w3 ⟨rfl,hw3⟩;subst w3)
              all_goals go_wp2_with fail
              all_goals exact bodyPost_ret (v:=.tuple #[.agg #[.slice pa a.length qa,.int .i64 ((getB b:Nat):Int),.int .i64 (at8 c 0)],.bool true]) (by simp[results,results119,go_sem,c0,c1,c2]) rfl (HQ.out _ _ ⟨_,_,_,by rw[HS.out];rfl,(fun _=>by rw[HS.out];exact⟨((((HK2.out.stay (Below.refl _ _).drew).set (yg _) _).set (yg _) _).set (yg _) _).lower (yh _),rfl,rfl⟩),⟨_,_,_,rfl⟩,((((yn HBW2.out (Below.refl _ _).drew).setCell (yf _) _).setCell (yf _) _).setCell (yf _) _)⟩)
            · have HN:Hid (huR body=none):=by show _=_;rw[HU.out,HH3.out,if_neg hf]
              have df:(hfC (a,((getB b:Nat):Int),at8 c 0)==0)=false:=by rw[beq_eq_false_iff_ne];exact hf
              clear hf
              go_region_with (go_at_call 162;refine(KF.out _ (by first | exact(Below.refl _ _).drew | exact Below.refl _ _)).mono ?_;rintro e w3 ⟨rfl,hw3⟩;subst w3)
              all_goals go_wp2_with fail
              all_goals exact bodyPost_ret (v:=.tuple #[.agg #[.slice pa a.length qa,.int .i64 ((getB b:Nat):Int),.int .i64 (at8 c 0)],.bool false]) (by simp[results,results119,go_sem,c0,c1,c2]) rfl (HQ.out _ _ ⟨_,_,_,by rw[HN.out];rfl,(fun h=>by rw[HN.out] at h;cases h),⟨_,_,_,rfl⟩,((((yn HBW2.out (Below.refl _ _).drew).setCell (yf _) _).setCell (yf _) _).setCell (yf _) _)⟩)
          · have dc:((c.length:Int) != 1)=true:=by rw[bne_iff_ne];omega
            have HN:Hid (huR body=none):=by show _=_;rw[HU.out,h3];exact if_neg (fun h=>hc1 h.2.1)
            clear hb2 hc1 R;go_wp2_with fail;exact bodyPost_ret (v:=.tuple #[.agg #[.slice none 0 0,.int .i64 0,.int .i64 0],.bool false]) (by simp[results,results119,go_sem,c0,c1,c2]) rfl (HQ.out _ _ ⟨_,_,_,by rw[HN.out];rfl,(fun h=>by rw[HN.out] at h;cases h),⟨_,_,_,rfl⟩,(((BW.setCell (yf _) _).setCell (yf _) _).setCell (yf _) _)⟩)
        · have db:((b.length:Int) != 2)=true:=by rw[bne_iff_ne];omega
          have HN:Hid (huR body=none):=by show _=_;rw[HU.out,h3];exact if_neg (fun h=>hb2 h.1)
          clear hb2 R;go_wp2_with fail;exact bodyPost_ret (v:=.tuple #[.agg #[.slice none 0 0,.int .i64 0,.int .i64 0],.bool false]) (by simp[results,results119,go_sem,c0,c1,c2]) rfl (HQ.out _ _ ⟨_,_,_,by rw[HN.out];rfl,(fun h=>by rw[HN.out] at h;cases h),⟨_,_,_,rfl⟩,(((BW.setCell (yf _) _).setCell (yf _) _).setCell (yf _) _)⟩)
    · have HN:Hid (huR body=none):=by
        show _=_
        rw[HU.out]
        match bl,hl3 with
        | [],_=>rfl
        | [_],_=>rfl
        | [_,_],_=>rfl
        | [_,_,_],h=>exact absurd rfl h
        | _ :: _ :: _ :: _ :: _,_=>rfl
      have d3:((bl.length:Int) != 3)=true:=by rw[bne_iff_ne];omega
      clear hl3 HU;go_enter func119,ntmps119;go_wp2_with fail;refine KS.mono ?_;rintro e w1 ⟨v,rfl,⟨xs,fp,ho⟩,hb1⟩;obtain⟨pv,qv,rfl,-⟩:=ho.rd;replace R:=R.stay hb1;replace BW:=yn BW hb1;obtain⟨c0,c1,c2⟩:=zc3 R;have fz:=R.frozen;clear R hb1 ho;go_wp2_with fail;exact bodyPost_ret (v:=.tuple #[.agg #[.slice none 0 0,.int .i64 0,.int .i64 0],.bool false]) (by simp[results,results119,go_sem,c0,c1,c2]) rfl (HQ.out _ _ ⟨_,_,_,by rw[HN.out];rfl,(fun h=>by rw[HN.out] at h;cases h),⟨_,_,_,rfl⟩,(((BW.setCell (yf _) _).setCell (yf _) _).setCell (yf _) _)⟩)
theorem zA5 {w:World} {B:Nat} {c:Int} {h:zAB} {u:Value} (k:Own w B u h.1):helloResultC.own w B (c,h) [.int .i64 c,u,.int .i64 h.2.1,.int .i64 h.2.2] ([]++(u.ownBlock.toList++([]++[]))):=
  zCV 0 zBd (zKm k) zGN (fun _ _=>Nat.zero_le _)
theorem zFQ (k:Int) (m:MsgD) (us:List Value) (w:World) (r:msgC.rep w m us):
    Calls prog 63 #[.int .i64 k,.agg us.toArray] w fun e w'=>∃ us fp,e=.returned (.agg us.toArray)∧helloResultC.own w' w.heap.size (uhD k m) us fp∧Below w.heap.size w w':=by
  obtain⟨p,q,rfl,rr⟩:=zAc r;have HR:Hid (Rd w p q m.2):=rr;have hq1:m.2.length≤q:=rr.1;have hq2:q≤2 ^ 63-1:=rr.2.1;have BW:=yt (zA w (.cells #[.int .i64 m.1,.slice p m.2.length q] 46)) (.cells #[.int .i64 0,.slice none 0 0,.int .i64 0,.int .i64 0] 92);have A:=(yr w [.int .i64 m.1,.slice p m.2.length q] 46).old _ (.cells #[.int .i64 0,.slice none 0 0,.int .i64 0,.int .i64 0] 92);have R:=yr (w.alloc (.cells #[.int .i64 m.1,.slice p m.2.length q] 46)) [.int .i64 0,.slice none 0 0,.int .i64 0,.int .i64 0] 92;rw[zB] at R;clear r rr;have KF:=zED w.heap.size 0 m.2.length q p m.1 _ (zQ (A.cell 0) rfl) (zQ (A.cell 1) rfl);cases hk:hkB k
  · have HE:Hid (uhD k m=(3,zB9)):=by show _=_;unfold uhD uhC;simp[hk]
    go_enter func63,ntmps63;go_wp2_with fail;refine(zEM k _).mono ?_;rintro e w1 ⟨rfl,hw⟩;subst w1;rw[hk];clear R A;go_wp2_with fail;exact bodyPost_ret (v:=.agg #[.int .i64 3,.slice none 0 0,.int .i64 0,.int .i64 0]) (by simp[results,results63,go_sem]) rfl ⟨[.int .i64 3,.slice none 0 0,.int .i64 0,.int .i64 0],_,rfl,by rw[HE.out];exact zA5 (h:=zB9) (zO _ _),yt (zA _ _) _⟩
  · by_cases hc:zF m.1 m.2.length=0
    · rw[hc] at KF;have hm160:=(zAx hc).2
      by_cases hmk:m.1=k
      · have dk:(m.1 != k)=false:=by rw[bne_eq_false_iff_eq];exact hmk
        have KU:=zIP p q m.2 _ (HR.out.keep BW) (by omega)
        have hz:Hid (((w.alloc (.cells #[.int .i64 m.1,.slice p m.2.length q] 46)).alloc (.cells #[.int .i64 0,.slice none 0 0,.int .i64 0,.int .i64 0] 92)).heap.size=w.heap.size+2):=by show _=_;rw[zB,zB]
        rw[hz.out] at KU;obtain⟨a0,a1⟩:=zc2 A
        have HEN:Hid ((huR m.2).isSome=false→uhD k m=(5,zB9)):=fun h=>by have e:uhC k m=5:=(by unfold uhC;rw[hk,if_pos rfl,if_pos hc,if_pos hmk,h];rfl);unfold uhD;rw[e];rfl
        have HES:Hid ((huR m.2).isSome=true→uhD k m=(0,(huR m.2).getD zB9)):=fun h=>by have e:uhC k m=0:=(by unfold uhC;rw[hk,if_pos rfl,if_pos hc,if_pos hmk,h];rfl);unfold uhD;rw[e];rfl
        clear hc hmk;go_enter func63,ntmps63;go_wp2_with fail;refine(zEM k _).mono ?_;rintro e w1 ⟨rfl,hw⟩;subst w1;rw[hk];go_wp2_with fail;refine KF.mono ?_;rintro e w1 ⟨rfl,hw⟩;subst w1;go_wp2_with fail;refine KU.mono ?_;rintro e w2 ⟨u2,s2,k2,rfl,hO,⟨pu,nu,qu,rfl⟩,hb2⟩;rw[← hz.out] at hb2;replace R:=R.stay hb2;replace BW:=yn BW hb2
        have hz2:Hid (w.heap.size+2≤w2.heap.size):=by have h:=hb2.size;rw[hz.out] at h;exact h
        have L:=zA w2 (.cells #[.slice pu nu qu,.int .i64 s2,.int .i64 k2] 84);replace R:=R.stay L;replace BW:=yn BW L;cases hs:(huR m.2).isSome
        · have HE:Hid (uhD k m=(5,zB9)):=HEN.out hs;rw[hs] at *;clear hO hb2 HEN HES KU KF a0 a1;obtain⟨c0,c1,c2,c3⟩:=zc4 R;have fc:=R.frozen;clear R A;go_wp2_with fail;exact bodyPost_ret (v:=.agg #[.int .i64 5,.slice none 0 0,.int .i64 0,.int .i64 0]) (by simp[results,results63,go_sem,c0,c1,c2,c3]) rfl ⟨[.int .i64 5,.slice none 0 0,.int .i64 0,.int .i64 0],_,rfl,by rw[HE.out];exact zA5 (h:=zB9) (zO _ _),((((BW.setCell (yh _) _).setCell (yh _) _).setCell (yh _) _).setCell (yh _) _)⟩
        · have HE:Hid (uhD k m=(0,(huR m.2).getD zB9)):=HES.out hs;obtain⟨hO1,rfl,rfl⟩:=hO hs;rw[hs] at *;have HO:Hid (Own _ (w.heap.size+2) (.slice pu nu qu) ((huR m.2).getD zB9).1):=hO1.stay L;clear hb2 HEN HES KU KF a0 a1 hO1 hO L;obtain⟨c0,c1,c2,c3⟩:=zc4 R;have fc:=R.frozen;clear R A;go_wp2_with fail;exact bodyPost_ret (v:=.agg #[.int .i64 0,.slice pu nu qu,.int .i64 ((huR m.2).getD zB9).2.1,.int .i64 ((huR m.2).getD zB9).2.2]) (by simp[results,results63,go_sem,c0,c1,c2,c3]) rfl ⟨[.int .i64 0,.slice pu nu qu,.int .i64 ((huR m.2).getD zB9).2.1,.int .i64 ((huR m.2).getD zB9).2.2],_,rfl,by rw[HE.out];exact zA5 (((((HO.out.set (yg _) _).set (yg _) _).set (yg _) _).set (yg _) _).lower (Nat.le_add_right _ 2)),((((BW.setCell (yh _) _).setCell (yh _) _).setCell (yh _) _).setCell (yh _) _)⟩
      · have dk:(m.1 != k)=true:=by rw[bne_iff_ne];exact hmk
        have HE:Hid (uhD k m=(1,zB9)):=by show _=_;unfold uhD uhC;simp[hk,hc,hmk]
        have a0:=zQ (A.cell 0) rfl;clear hc hmk;go_enter func63,ntmps63;go_wp2_with fail;refine(zEM k _).mono ?_;rintro e w1 ⟨rfl,hw⟩;subst w1;rw[hk];go_wp2_with fail;refine KF.mono ?_;rintro e w1 ⟨rfl,hw⟩;subst w1;clear R A;go_wp2_with fail;exact bodyPost_ret (v:=.agg #[.int .i64 1,.slice none 0 0,.int .i64 0,.int .i64 0]) (by simp[results,results63,go_sem]) rfl ⟨[.int .i64 1,.slice none 0 0,.int .i64 0,.int .i64 0],_,rfl,by rw[HE.out];exact zA5 (h:=zB9) (zO _ _),yt (zA _ _) _⟩
    · have HE:Hid (uhD k m=(zF m.1 m.2.length,zB9)):=by show _=_;unfold uhD uhC;simp[hk,hc]
      have hne:(zF m.1 m.2.length != 0)=true:=by rw[bne_iff_ne];exact hc
      clear hc;generalize zF m.1 m.2.length=ac at *;go_enter func63,ntmps63;go_wp2_with fail;refine(zEM k _).mono ?_;rintro e w1 ⟨rfl,hw⟩;subst w1;rw[hk];go_wp2_with fail;refine KF.mono ?_;rintro e w1 ⟨rfl,hw⟩;subst w1;clear R A;go_wp2_with fail;exact bodyPost_ret (v:=.agg #[.int .i64 ac,.slice none 0 0,.int .i64 0,.int .i64 0]) (by simp[results,results63,go_sem]) rfl ⟨[.int .i64 ac,.slice none 0 0,.int .i64 0,.int .i64 0],_,rfl,by rw[HE.out];exact zA5 (h:=zB9) (zO _ _),yt (zA _ _) _⟩
theorem rd_nil (w:World):Rd w none 0 []:=⟨yf _,by unfold maxLen;decide,fun _=>rfl,fun hp=>by simp at hp⟩
theorem zEs (p:Option Addr) (q:Nat) (s:List UInt8) (w:World):Calls prog 163 #[.slice p s.length q] w fun e w'=>e=.returned (.bool (is32 s))∧w'=w:=by
  by_cases h:s.length=32
  · have d1:((s.length:Int)==32)=true:=by rw[beq_iff_eq];omega
    rw[show is32 s=true by simp[is32,h]];clear h;go_enter func163,ntmps163;go_wp2;go_ret;exact⟨rfl,rfl⟩
  · have d1:((s.length:Int)==32)=false:=by rw[beq_eq_false_iff_ne];omega
    rw[show is32 s=false by simp[is32,h]];clear h;go_enter func163,ntmps163;go_wp2;go_ret;exact⟨rfl,rfl⟩
theorem zHq (p:Option Addr) (q:Nat) (psk:List UInt8) (w:World) (hr:Rd w p q psk) (hl:psk.length≤500):
    Calls prog 121 #[.slice p psk.length q] w fun e w'=>∃ u,e=.returned u∧Own w' w.heap.size u (zAp psk)∧Below w.heap.size w w':=by
  obtain⟨i0,hi,hz0,hz1,hz2⟩:=info_parts zCr
  by_cases h0:psk.length=0
  · have HE:Hid (zAp psk=zAH [] (zs 32)):=by show _=_;simp[zAp,pskN,h0]
    rw[h0];go_enter func121,ntmps121;go_wp2_with (at_make;refine wpList_make_full _ rfl (.const (.int .i64 32)) (.const (.int .i64 32)) 22 rfl w.heap.size 5 i0 (.int .u8 0) 1 underlying22 hi hz0 hz1 .i64 .i64 _ _ 32 rfl rfl rfl rfl (by rw[hz2];decide) (by unfold maxLen;decide) (yf _) ?_;intro w1 hown hgrow);have hb1:Below w.heap.size w w1:=(Below.refl _ _).grown hgrow (yf _) (fun k hk=>by simp at hk);have k1:=zAT hown;have K:=zCu none (some ⟨w.heap.size,0,none⟩) 0 32 [] (zs 32) w1 (rd_nil _) (Rd.own k1) (by decide) (by rw[zAX];decide);rw[zAX] at K;have hz:=hb1.size;refine K.mono ?_;rintro e w2 ⟨u2,rfl,k2,hb2⟩;replace hb1:=yn hb1 hb2;go_wp2;go_ret;exact⟨_,rfl,by rw[HE.out];exact k2.lower hz,hb1⟩
  · have HE:Hid (zAp psk=zAH [] psk):=by show _=_;simp[zAp,pskN,h0]
    have hne:((psk.length:Int)==0)=false:=by rw[beq_eq_false_iff_ne];omega
    have K:=zCu none p 0 q [] psk w (rd_nil _) hr (by decide) (by omega);clear h0;go_enter func121,ntmps121;go_wp2_with fail;refine K.mono ?_;rintro e w2 ⟨u2,rfl,k2,hb2⟩;go_wp2;go_ret;exact⟨_,rfl,by rw[HE.out];exact k2,hb2⟩
theorem zEO (p p2:Option Addr) (q q2:Nat) (early shared:List UInt8) (w:World) (hr:Rd w p q early) (hr2:Rd w p2 q2 shared) (hl:early.length≤64) (hl2:shared.length≤500):
    Calls prog 120 #[.slice p early.length q,.slice p2 shared.length q2] w fun e w'=>∃ u,e=.returned u∧Own w' w.heap.size u (zEm early shared)∧Below w.heap.size w w':=by
  have HE:Hid (zEm early shared=zAH (zAG early zAb []) shared):=rfl
  have K:Hid (∀ w,Rd w p q early→Calls prog 132 #[.slice p early.length q,.string ⟨#[100,101,114,105,118,101,100]⟩,.slice none 0 0] w fun e w'=>∃ u,e=.returned u∧Own w' w.heap.size u (zAG early zAb [])∧Below w.heap.size w w'):=fun w h=>by
    rw[zCv];exact zGX p none q 0 early zAb [] w h (rd_nil _) hl (by decide) (by decide)
  have HL:Hid ((zAG early zAb []).length=32):=zCw _ _ _;clear hl;go_enter func120,ntmps120;go_wp2_with fail;refine(K.out _ hr).mono ?_;rintro e w1 ⟨u1,rfl,k1,hb1⟩;obtain⟨a1,c1,rfl,rd1⟩:=k1.rd;generalize zAG early zAb []=ek at *;have hz:=hb1.size;clear k1;go_wp2_with fail;refine(zCu a1 p2 c1 q2 ek shared _ rd1 (hr2.keep hb1) (by rw[HL.out];decide) (by omega)).mono ?_;rintro e w2 ⟨u2,rfl,k2,hb2⟩;go_wp2;go_ret;exact⟨_,rfl,by rw[HE.out];exact k2.lower hz,yn hb1 hb2⟩
theorem zBq (p:Option Addr) (q:Nat) (hand:List UInt8) (w:World) (hr:Rd w p q hand) (hl:hand.length≤64):
    Calls prog 71 #[.slice p hand.length q] w fun e w'=>∃ u,e=.returned u∧Own w' w.heap.size u (zH hand)∧Below w.heap.size w w':=by
  have HE:Hid (zH hand=zAH (zAG hand zAb []) (zs 32)):=rfl
  have K:Hid (∀ w,Rd w p q hand→Calls prog 132 #[.slice p hand.length q,.string ⟨#[100,101,114,105,118,101,100]⟩,.slice none 0 0] w fun e w'=>∃ u,e=.returned u∧Own w' w.heap.size u (zAG hand zAb [])∧Below w.heap.size w w'):=fun w h=>by
    rw[zCv];exact zGX p none q 0 hand zAb [] w h (rd_nil _) hl (by decide) (by decide)
  have KX:Hid (∀ (W:World) (a1:Option Addr) (gm c1:Nat),Rd W a1 c1 (zAG hand zAb [])→Rd W (some ⟨gm,0,none⟩) 32 (zs 32)→Calls prog 131 #[.slice a1 (zAG hand zAb []).length c1,.slice (some ⟨gm,0,none⟩) 32 32] W fun e w'=>∃ u,e=.returned u∧Own w' W.heap.size u (zH hand)∧Below W.heap.size W w'):=fun W a1 gm c1 h h'=>by
    have g:=zCu a1 _ c1 32 _ (zs 32) W h h' (by rw[zCw];decide) (by rw[zAX];decide);rw[zAX] at g;exact g
  clear hl HE;obtain⟨i0,hi,hz0,hz1,hz2⟩:=info_parts zCr;generalize zAG hand zAb []=ek at *;go_enter func71,ntmps71;go_wp2_with fail;have hne:=yq w;refine zWr [0] 3 2 2 ?_;simp only[zD,ya,yb]
  repeat (go_big_quiet_step (fail))
  refine wpQuiet_nil ?_;refine zAs (i:=1) (j:=2) (by kernel_rfl) ?_ ?_
  case' refine_1=>
    refine mOp_call rfl (by go_simp) 132 _ #[.slice p hand.length q,.string ⟨#[100,101,114,105,118,101,100]⟩,.slice none 0 0] (fun w=>by go_simp) rfl ?_;rintro _ ⟨s1,rfl⟩;refine(K.out _ (hr.keep s1.h)).mono ?_;rintro e w1 ⟨u1,rfl,k1,hb1⟩;obtain⟨a1,c1,rfl,rd1⟩:=k1.rd;refine⟨_,rfl,⟨⟨w1,hb1⟩,rfl⟩,?_⟩;refine zWo 2 ?_;refine zMH rfl (by go_simp) (by kernel_rfl) ?_;rintro _ ⟨sm,rfl⟩;refine wpList_make_full _ rfl (.const (.int .i64 32)) (.const (.int .i64 32)) 22 rfl sm.w.heap.size 5 i0 (.int .u8 0) 1 underlying22 hi hz0 hz1 .i64 .i64 _ _ 32 rfl rfl rfl rfl (by rw[hz2];decide) (by unfold maxLen;decide) (yf _) ?_;intro wm hown hgrow;have hbm:Below sm.w.heap.size sm.w wm:=(Below.refl _ _).grown hgrow (yf _) (fun k hk=>by simp at hk);have rmk:=Rd.own (zAT hown);refine zD8 ⟨rfl,hbm,?_⟩;refine zWe ?_;rintro _ ⟨sz,rfl⟩;have R1:=((rd1.keep sm.h).keep hbm).keep sz.h;have R2:=rmk.keep sz.h;have BW:=yn (yn (yn (yn s1.h hb1) sm.h) hbm) sz.h;generalize sz.w=W at *;generalize sm.w.heap.size=gm at *;clear hne hown hgrow hbm rmk sz sm rd1 k1 hb1 s1
  case' refine_2=>
    refine zMH rfl (by go_simp) (by kernel_rfl) ?_;rintro _ ⟨sm,rfl⟩;refine wpList_make_full _ rfl (.const (.int .i64 32)) (.const (.int .i64 32)) 22 rfl sm.w.heap.size 5 i0 (.int .u8 0) 1 underlying22 hi hz0 hz1 .i64 .i64 _ _ 32 rfl rfl rfl rfl (by rw[hz2];decide) (by unfold maxLen;decide) (yf _) ?_;intro wm hown hgrow;have hbm:Below sm.w.heap.size sm.w wm:=(Below.refl _ _).grown hgrow (yf _) (fun k hk=>by simp at hk);have rmk:=Rd.own (zAT hown);refine zD8 ⟨rfl,hbm,?_⟩;refine zWc 1 rfl 132 #[.slice p hand.length q,.string ⟨#[100,101,114,105,118,101,100]⟩,.slice none 0 0] ?_;rintro _ ⟨s1,rfl⟩;refine(K.out _ (hr.keep (yn (yn sm.h hbm) s1.h))).mono ?_;rintro e w1 ⟨u1,rfl,k1,hb1⟩;obtain⟨a1,c1,rfl,rd1⟩:=k1.rd;refine⟨_,rfl,⟨⟨w1,hb1⟩,rfl⟩,?_⟩;refine zWe ?_;rintro _ ⟨sz,rfl⟩;have R1:=rd1.keep sz.h;have R2:=((rmk.keep s1.h).keep hb1).keep sz.h;have BW:=yn (yn (yn (yn sm.h hbm) s1.h) hb1) sz.h;generalize sz.w=W at *;generalize sm.w.heap.size=gm at *;clear hne sz rd1 k1 hb1 s1 rmk hown hgrow hbm sm
  all_goals
    simp only[yd,ye]
    go_simp
    go_wp2_with fail;refine(KX.out _ a1 gm c1 R1 R2).mono ?_;rintro e w9 ⟨u9,rfl,k9,hb9⟩;have k9':=k9.lower (B':=w.heap.size) (by have:=BW.size;omega);have BW9:=yn BW hb9;go_wp2_with fail;go_ret;exact⟨_,rfl,k9',BW9⟩
theorem zBE (p p2:Option Addr) (q q2:Nat) (secret l digest:List UInt8) (w:World) (hr:Rd w p q secret) (hr2:Rd w p2 q2 digest) (hk:secret.length≤64) (hl:l.length≤40) (hl2:digest.length≤100):
    Calls prog 67 #[.slice p secret.length q,.string (strB l),.slice p2 digest.length q2] w fun e w'=>∃ u,e=.returned u∧Own w' w.heap.size u (zAI secret l digest)∧Below w.heap.size w w':=by
  go_enter func67,ntmps67;go_wp2_with fail;refine(zCN p p2 q q2 secret l digest 32 _ hr hr2 hk hl hl2 (by decide)).mono ?_;rintro e w1 ⟨u,rfl,k,hb⟩;go_wp2;go_ret;exact⟨_,rfl,k,hb⟩
theorem zIQ (p p2:Option Addr) (q q2:Nat) (master digest:List UInt8) (w:World) (hr:Rd w p q master) (hr2:Rd w p2 q2 digest) (hk:master.length≤64) (hl2:digest.length≤100):
    Calls prog 130 #[.slice p master.length q,.slice p2 digest.length q2] w fun e w'=>∃ u1 u2 u3 u4,e=.returned (.agg #[u1,u2,u3,u4])∧Own w' w.heap.size u1 (zAI master cApB digest)∧Own w' w.heap.size u2 (zAI master sApB digest)∧Own w' w.heap.size u3 (zAI master zC6 digest)∧Own w' w.heap.size u4 (zAI master zC7 digest)∧(u1.ownBlock.toList++(u2.ownBlock.toList++(u3.ownBlock.toList++u4.ownBlock.toList))).Nodup∧Below w.heap.size w w':=by
  have K1:Hid (∀ w,Rd w p q master→Rd w p2 q2 digest→Calls prog 67 #[.slice p master.length q,.string ⟨#[99,32,97,112,32,116,114,97,102,102,105,99]⟩,.slice p2 digest.length q2] w fun e w'=>∃ u,e=.returned u∧Own w' w.heap.size u (zAI master cApB digest)∧Below w.heap.size w w'):=fun w h h'=>by
    rw[zKU];exact zBE p p2 q q2 master cApB digest w h h' hk (by decide) hl2
  obtain⟨t1,T1⟩:∃ t,Hid (t=zAI master cApB digest):=⟨_,rfl⟩;rw[← T1.out] at K1 ⊢
  have K2:Hid (∀ w,Rd w p q master→Rd w p2 q2 digest→Calls prog 67 #[.slice p master.length q,.string ⟨#[115,32,97,112,32,116,114,97,102,102,105,99]⟩,.slice p2 digest.length q2] w fun e w'=>∃ u,e=.returned u∧Own w' w.heap.size u (zAI master sApB digest)∧Below w.heap.size w w'):=fun w h h'=>by
    rw[zKV];exact zBE p p2 q q2 master sApB digest w h h' hk (by decide) hl2
  obtain⟨t2,T2⟩:∃ t,Hid (t=zAI master sApB digest):=⟨_,rfl⟩;rw[← T2.out] at K2 ⊢
  have K3:Hid (∀ w,Rd w p q master→Rd w p2 q2 digest→Calls prog 67 #[.slice p master.length q,.string ⟨#[101,120,112,32,109,97,115,116,101,114]⟩,.slice p2 digest.length q2] w fun e w'=>∃ u,e=.returned u∧Own w' w.heap.size u (zAI master zC6 digest)∧Below w.heap.size w w'):=fun w h h'=>by
    rw[zIu];exact zBE p p2 q q2 master zC6 digest w h h' hk (by decide) hl2
  obtain⟨t3,T3⟩:∃ t,Hid (t=zAI master zC6 digest):=⟨_,rfl⟩;rw[← T3.out] at K3 ⊢
  have K4:Hid (∀ w,Rd w p q master→Rd w p2 q2 digest→Calls prog 67 #[.slice p master.length q,.string ⟨#[114,101,115,32,109,97,115,116,101,114]⟩,.slice p2 digest.length q2] w fun e w'=>∃ u,e=.returned u∧Own w' w.heap.size u (zAI master zC7 digest)∧Below w.heap.size w w'):=fun w h h'=>by
    rw[zIv];exact zBE p p2 q q2 master zC7 digest w h h' hk (by decide) hl2
  obtain⟨t4,T4⟩:∃ t,Hid (t=zAI master zC7 digest):=⟨_,rfl⟩;rw[← T4.out] at K4 ⊢;have HR:Hid (Rd w p q master):=hr;have HR2:Hid (Rd w p2 q2 digest):=hr2;clear hk hl2 hr hr2 T1 T2 T3 T4;go_enter func130,ntmps130;go_wp2_with fail;refine(K1.out _ (HR.out.keep (zA _ _)) (HR2.out.keep (zA _ _))).mono ?_;rintro e w1 ⟨u1,rfl,k1,hb⟩;have C:=(yr w [.slice none 0 0,.slice none 0 0,.slice none 0 0,.slice none 0 0] 30).stay hb;have BW:=yu hb;have hz:Hid (w.heap.size<w1.heap.size):=zC8 hb;rw[zB] at k1
  have b1:Hid (∀ k,u1.ownBlock=some k→k<w1.heap.size):=fun k e=>k1.lt k e
  obtain⟨a1,c1,rfl,-⟩:=k1.rd;clear hb;go_wp2_with fail;refine(K2.out _ (HR.out.keep BW) (HR2.out.keep BW)).mono ?_;rintro e w2 ⟨u2,rfl,k2,hb⟩;replace C:=C.stay hb;replace BW:=yn BW hb;replace k1:=k1.stay hb
  have g2:Hid (∀ k,u2.ownBlock=some k→w1.heap.size≤k):=fun k e=>k2.ge k e
  have l2:Hid (w1.heap.size≤w2.heap.size):=hb.size
  have b2:Hid (∀ k,u2.ownBlock=some k→k<w2.heap.size):=fun k e=>k2.lt k e
  obtain⟨a2,c2,rfl,-⟩:=k2.rd;clear hb;go_wp2_with fail;refine(K3.out _ (HR.out.keep BW) (HR2.out.keep BW)).mono ?_;rintro e w3 ⟨u3,rfl,k3,hb⟩;replace C:=C.stay hb;replace BW:=yn BW hb;replace k1:=k1.stay hb;replace k2:=k2.stay hb
  have g3:Hid (∀ k,u3.ownBlock=some k→w2.heap.size≤k):=fun k e=>k3.ge k e
  have l3:Hid (w2.heap.size≤w3.heap.size):=hb.size
  have b3:Hid (∀ k,u3.ownBlock=some k→k<w3.heap.size):=fun k e=>k3.lt k e
  obtain⟨a3,c3,rfl,-⟩:=k3.rd;clear hb;go_wp2_with fail;refine(K4.out _ (HR.out.keep BW) (HR2.out.keep BW)).mono ?_;rintro e w4 ⟨u4,rfl,k4,hb⟩;replace C:=C.stay hb;replace BW:=yn BW hb;replace k1:=k1.stay hb;replace k2:=k2.stay hb;replace k3:=k3.stay hb
  have g4:Hid (∀ k,u4.ownBlock=some k→w3.heap.size≤k):=fun k e=>k4.ge k e
  have l4:Hid (w3.heap.size≤w4.heap.size):=hb.size;obtain⟨a4,c4,rfl,-⟩:=k4.rd;clear hb;have c0:=C.cell 0;have c1':=C.cell 1;have c2':=C.cell 2;have c3':=C.cell 3;simp at c0 c1' c2' c3';have fz:=C.frozen
  have HN:Hid (((Value.slice a1 t1.length c1).ownBlock.toList++((Value.slice a2 t2.length c2).ownBlock.toList++((Value.slice a3 t3.length c3).ownBlock.toList++(Value.slice a4 t4.length c4).ownBlock.toList))).Nodup):=by
    have z2:=l2.out;have z3:=l3.out;have z4:=l4.out;refine List.nodup_append.2 ⟨zAo _,List.nodup_append.2 ⟨zAo _,List.nodup_append.2 ⟨zAo _,zAo _,fun x hx y hy e=>?_⟩,fun x hx y hy e=>?_⟩,fun x hx y hy e=>?_⟩
    · have h1:=b3.out x (mem_opt.1 hx);have h2:=g4.out y (mem_opt.1 hy);omega
    · have h1:=b2.out x (mem_opt.1 hx);rcases List.mem_append.1 hy with h | h
      · have h2:=g3.out y (mem_opt.1 h);omega
      · have h2:=g4.out y (mem_opt.1 h);omega
    · have h1:=b1.out x (mem_opt.1 hx);rcases List.mem_append.1 hy with h | h
      · have h2:=g2.out y (mem_opt.1 h);omega
      · rcases List.mem_append.1 h with h | h
        · have h2:=g3.out y (mem_opt.1 h);omega
        · have h2:=g4.out y (mem_opt.1 h);omega
  have hz2:w.heap.size+1≤w1.heap.size:=hz.out;have hz3:w.heap.size+1≤w2.heap.size:=yi hz2 l2.out;have hz4:w.heap.size+1≤w3.heap.size:=yi hz3 l3.out;replace k2:=k2.lower hz2;replace k3:=k3.lower hz3;replace k4:=k4.lower hz4;clear g2 g3 g4 b1 b2 b3 hz2 hz3 hz4 K1 K2 K3 K4;go_wp2;have hlt:w.heap.size<w.heap.size+1:=yg _
  have S:∀ {v:Value} {bs:List UInt8},Own w4 (w.heap.size+1) v bs→∀ x1 x2 x3 x4,Own ((((w4.setCell ⟨w.heap.size,0,none⟩ x1).setCell ⟨w.heap.size,1,none⟩ x2).setCell ⟨w.heap.size,2,none⟩ x3).setCell ⟨w.heap.size,3,none⟩ x4) w.heap.size v bs:=fun k x1 x2 x3 x4=>
    ((((k.set (a:=⟨w.heap.size,0,none⟩) hlt x1).set (a:=⟨w.heap.size,1,none⟩) hlt x2).set (a:=⟨w.heap.size,2,none⟩) hlt x3).set (a:=⟨w.heap.size,3,none⟩) hlt x4).lower (yh _)
  refine bodyPost_ret (v:=.agg #[.slice a1 t1.length c1,.slice a2 t2.length c2,.slice a3 t3.length c3,.slice a4 t4.length c4]) (by simp[results,results130,go_sem,c0,c1',c2',c3']) rfl ⟨_,_,_,_,rfl,S k1 _ _ _ _,S k2 _ _ _ _,S k3 _ _ _ _,S k4 _ _ _ _,HN.out,?_⟩;exact(((BW.setCell (p:=⟨w.heap.size,0,none⟩) (yf _) _).setCell (p:=⟨w.heap.size,1,none⟩) (yf _) _).setCell (p:=⟨w.heap.size,2,none⟩) (yf _) _).setCell (p:=⟨w.heap.size,3,none⟩) (yf _) _
end Go.Proofs.YtiabacnmmojfjaaGreatDoor
