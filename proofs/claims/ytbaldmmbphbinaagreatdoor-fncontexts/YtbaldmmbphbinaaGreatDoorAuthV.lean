import Derived.Test.YtbaldmmbphbinaaGreatDoorJoint20
import Derived.Test.YtbaldmmbphbinaaGreatDoorJoint9
import Derived.Test.YtbaldmmbphbinaaGreatDoorJoint7
import Derived.Test.YtbaldmmbphbinaaGreatDoorJoint19
namespace Go.Proofs.YtbaldmmbphbinaaGreatDoor
open Go.ChangeShapes Go.WideShapes Go.ChangeAt Go.RowKit
theorem own4 {w:World} {B:Nat} {e:TypeId} {v:Value} {a b c d:List UInt8} {xs:List Value} {fp:List Nat} (h:OwnL e bytC w B v [a,b,c,d] xs fp):
    ∃ g cap pa qa pb qb pc qc pd qd,v=.slice (some ⟨g,0,none⟩) 4 cap∧4≤cap∧cap≤2 ^ 63-1∧B≤g∧w.cell? ⟨g,0,none⟩=some (.slice pa a.length qa)∧w.cell? ⟨g,1,none⟩=some (.slice pb b.length qb)∧w.cell? ⟨g,2,none⟩=some (.slice pc c.length qc)∧w.cell? ⟨g,3,none⟩=some (.slice pd d.length qd)∧Own w B (.slice pa a.length qa) a∧Rd w pb qb b∧Own w B (.slice pc c.length qc) c∧Own w B (.slice pd d.length qd) d∧((Value.slice pa a.length qa).ownBlock.toList++(Value.slice pd d.length qd).ownBlock.toList).Nodup:=by
  obtain⟨us,ys,f,g,hx,hf,⟨va,e1,oa,h1⟩,us2,ys2,f2,g2,hx2,hf2,⟨vb,e2,ob,h2⟩,us3,ys3,f3,g3,hx3,hf3,⟨vc,e3,oc,h3⟩,us4,ys4,f4,g4,hx4,hf4,⟨vd,e4,od,h4⟩,hz⟩:=h.all;obtain⟨pa,qa,rfl,-⟩:=oa.rd;obtain⟨pb,qb,rfl,rb⟩:=ob.rd;obtain⟨pc,qc,rfl,-⟩:=oc.rd;obtain⟨pd,qd,rfl,-⟩:=od.rd
  have hxs:xs=[.slice pa a.length qa,.slice pb b.length qb,.slice pc c.length qc,.slice pd d.length qd]:=by rw[hx,e1,hx2,e2,hx3,e3,hx4,e4,hz.1];rfl
  have hnd:((Value.slice pa a.length qa).ownBlock.toList++(Value.slice pd d.length qd).ownBlock.toList).Nodup:=by
    have hn:=(List.nodup_append.1 h.nd).2.1;rw[hf,hf2,hf3,hf4,h1,h2,h3,h4,hz.2] at hn;refine List.Sublist.nodup ?_ hn;refine List.Sublist.append (List.Sublist.refl _) ?_;rw[List.append_nil];exact List.Sublist.trans (List.sublist_append_right _ _) (List.sublist_append_right _ _)
  have h0:=h.row;rcases h.row.2 with ⟨rfl,hn⟩ | ⟨gg,cap,cur,rfl,hb,hg,hle,hm,hs,ht⟩
  · simp at hn
  · have c0:=World.ownsRow.cellAt h0 0 (by show 0<4*1;decide);have c1:=World.ownsRow.cellAt h0 1 (by show 1<4*1;decide);have c2:=World.ownsRow.cellAt h0 2 (by show 2<4*1;decide);have c3:=World.ownsRow.cellAt h0 3 (by show 3<4*1;decide);rw[hxs] at c0 c1 c2 c3;exact⟨gg,cap,pa,qa,pb,qb,pc,qc,pd,qd,rfl,hle,hm,hb,c0,c1,c2,c3,oa,rb,oc,od,hnd⟩
theorem Cod.rowA {α:Type} (c:Cod α) {w:World} {B:Nat} {a:α} {vs:List Value} {fp:List Nat} (h:c.own w B a vs fp) {g:Nat} (hg:g<B) (us:Array Value):c.own (w.setRow g us) B a vs fp:=c.fr h fun k hk=>setRow_other w g k us (by have:=(c.ins h k hk).1;omega)
theorem zHZ {data:List UInt8} (h:raR data=none):raD data=(5,zeroA):=by unfold raD;rw[h]
theorem zHa {data:List UInt8} {a:zAq} (h:raR data=some a):raD data=(0,a):=by unfold raD;rw[h]
theorem Only.row (w:World) (g:Nat) (us:Array Value):Only [g] w (w.setRow g us):=⟨rfl,rfl,rfl,by rw[size_setRow];exact Nat.le_refl _,fun k _ hn=>setRow_other w g k us (fun e=>hn (by rw[e];exact List.mem_singleton.2 rfl))⟩
theorem zFV {w:World} {B:Nat} {a:zAq} {u v:Value} (k1:Own w B u a.1) (k2:Own w B v a.2.2.2) (hn:(u.ownBlock.toList++v.ownBlock.toList).Nodup):
    authC.own w B a [u,.int .i64 a.2.1.1,.int .i64 a.2.1.2.1,.int .i64 a.2.1.2.2,.int .i64 a.2.2.1,v] (u.ownBlock.toList++v.ownBlock.toList):=
  ⟨[u],[.int .i64 a.2.1.1,.int .i64 a.2.1.2.1,.int .i64 a.2.1.2.2,.int .i64 a.2.2.1,v],u.ownBlock.toList,v.ownBlock.toList,rfl,rfl,hn,⟨u,rfl,k1,rfl⟩,
    ⟨[.int .i64 a.2.1.1,.int .i64 a.2.1.2.1,.int .i64 a.2.1.2.2],[.int .i64 a.2.2.1,v],[],v.ownBlock.toList,rfl,rfl,zAn _,zDw,⟨[.int .i64 a.2.2.1],[v],[],v.ownBlock.toList,rfl,rfl,zAn _,zIs,⟨v,rfl,k2,rfl⟩⟩⟩⟩
theorem zAu {w:World} {B:Nat}:authC.own w B zeroA [.slice none 0 0,.int .i64 0,.int .i64 0,.int .i64 0,.int .i64 0,.slice none 0 0] []:=zFV (a:=zeroA) (zAA _ _) (zAA _ _) List.nodup_nil
theorem zAg {w:World} {B:Nat} {c:Int} {a:zAq} {us:List Value} {fp:List Nat} (h:authC.own w B a us fp):authResultC.own w B (c,a) (.int .i64 c :: us) fp:=
  ⟨[.int .i64 c],us,[],fp,rfl,rfl,authC.nd h,zIs,h⟩
def ARead (w:World) (B:Nat) (data:List UInt8) (a:zAq) (us:List Value) (t:Bool):Prop:=(t=false∧raR data=none)∨(t=true∧raR data=some a∧∃ fp,authC.own w B a us fp)
theorem ARead.no {w:World} {B:Nat} {data:List UInt8} {a:zAq} {us:List Value} (h:raR data=none):ARead w B data a us false:=.inl ⟨rfl,h⟩
theorem ARead.yes {w:World} {B:Nat} {data:List UInt8} {a:zAq} {us:List Value} {fp:List Nat} (h:raR data=some a) (k:authC.own w B a us fp):ARead w B data a us true:=.inr ⟨rfl,h,fp,k⟩
theorem zKl {data:List UInt8} (h:zAE data 0 []=none):raR data=none:=by unfold raR;split <;> simp[h]
theorem zHb {data:List UInt8} {l:List (List UInt8)} (hl:data.length≤160) (h:zAE data 0 []=some l):raR data=a4 l:=by unfold raR;rw[if_pos hl,h];rfl
theorem zJf {l:List (List UInt8)} (h:l.length≠4):a4 l=none:=by
  match l,h with
  | [],_=>rfl
  | [_],_=>rfl
  | [_,_],_=>rfl
  | [_,_,_],_=>rfl
  | [_,_,_,_],h=>exact absurd rfl h
  | _ :: _ :: _ :: _ :: _ :: _,_=>rfl
theorem zDo {a b c m:List UInt8} (h:¬ (ctxB a=true∧c.length=1∧m.length=32∧(ucD b).1=0)):a4 [a,b,c,m]=none:=by show(if _ then _ else _)=_;rw[if_neg h]
theorem zJg {a b c m:List UInt8} {d:zH} (h1:ctxB a=true) (h2:c.length=1) (h3:m.length=32) (h4:ucD b=(0,d)):a4 [a,b,c,m]=some (a,d,(((c.getD 0 0).toNat:Nat):Int),m):=by show(if _ then _ else _)=_;rw[h4,if_pos ⟨h1,h2,h3,rfl⟩]
set_option maxRecDepth 4000 in
set_option maxHeartbeats 16000000 in
theorem zJh (data:List UInt8) (p:Option Addr) (q:Nat) (w:World) (hr:Rd w p q data):
    Calls Tryz.prog 101 #[.slice p data.length q] w fun e w'=>∃ pa qa pm qm a t,e=.returned (.tuple #[.agg #[.slice pa a.1.length qa,.int .i64 a.2.1.1,.int .i64 a.2.1.2.1,.int .i64 a.2.1.2.2,.int .i64 a.2.2.1,.slice pm a.2.2.2.length qm],.bool t])∧ARead w' w.heap.size data a [.slice pa a.1.length qa,.int .i64 a.2.1.1,.int .i64 a.2.1.2.1,.int .i64 a.2.1.2.2,.int .i64 a.2.2.1,.slice pm a.2.2.2.length qm] t∧Below w.heap.size w w':=by
  have BW:=zA w (.cells #[.slice none 0 0,.int .i64 0,.int .i64 0,.int .i64 0,.int .i64 0,.slice none 0 0] 70);have R:=Arr.new w [.slice none 0 0,.int .i64 0,.int .i64 0,.int .i64 0,.int .i64 0,.slice none 0 0] 70;have hz0:Hid ((w.alloc (.cells #[.slice none 0 0,.int .i64 0,.int .i64 0,.int .i64 0,.int .i64 0,.slice none 0 0] 70)).heap.size=w.heap.size+1):=zD _ _
  suffices H:∀ Q:Ending→World→Prop,Hid (∀ e w',(∃ pa qa pm qm a t,e=.returned (.tuple #[.agg #[.slice pa a.1.length qa,.int .i64 a.2.1.1,.int .i64 a.2.1.2.1,.int .i64 a.2.1.2.2,.int .i64 a.2.2.1,.slice pm a.2.2.2.length qm],.bool t])∧ARead w' w.heap.size data a [.slice pa a.1.length qa,.int .i64 a.2.1.1,.int .i64 a.2.1.2.1,.int .i64 a.2.1.2.2,.int .i64 a.2.2.1,.slice pm a.2.2.2.length qm] t∧Below w.heap.size w w')→Q e w')→Calls Tryz.prog 101 #[.slice p data.length q] w Q by exact H _ (fun _ _ h=>h)
  intro Q HQ
  by_cases hl:data.length≤160
  · have KS:=zI5 data p q _ (hr.keep BW) (by omega)
    have hlI:(data.length:Int)≤160:=by omega
    have HL:Hid (data.length≤160):=hl;clear hr hl;cases hs:zAE data 0 [] with
    | none=>
      rw[hs] at KS;have HN:Hid (raR data=none):=zKl hs;clear hs;go_enter Tryz.func101,Tryz.ntmps101;go_wp2_with fail;refine KS.mono ?_;rintro e w1 ⟨v,rfl,-,hb1⟩;replace R:=R.stay hb1;replace BW:=Below.step BW hb1;clear hb1;have c0:=zQ (R.cell 0) rfl;have c1:=zQ (R.cell 1) rfl;have c2:=zQ (R.cell 2) rfl;have c3:=zQ (R.cell 3) rfl;have c4:=zQ (R.cell 4) rfl;have c5:=zQ (R.cell 5) rfl;have fz:=R.frozen;clear R;go_wp2_with fail;exact bodyPost_ret (v:=.tuple #[.agg #[.slice none 0 0,.int .i64 0,.int .i64 0,.int .i64 0,.int .i64 0,.slice none 0 0],.bool false]) (by simp[results,Tryz.results101,go_sem,c0,c1,c2,c3,c4,c5]) rfl (HQ.out _ _ ⟨none,0,none,0,zeroA,false,rfl,ARead.no HN.out,((((((BW.setCell (Nat.le_refl _) _).setCell (Nat.le_refl _) _).setCell (Nat.le_refl _) _).setCell (Nat.le_refl _) _).setCell (Nat.le_refl _) _).setCell (Nat.le_refl _) _)⟩)
    | some bl=>
      rw[hs] at KS;have HU:Hid (raR data=a4 bl):=zHb HL.out hs;clear hs
      by_cases hl4:bl.length=4
      · match bl,hl4 with
        | [a,b,c,m],_=>
          go_enter Tryz.func101,Tryz.ntmps101;go_wp2_with fail;refine KS.mono ?_;rintro e w1 ⟨v,rfl,⟨xs,fp,ho⟩,hb1⟩;rw[hz0.out] at ho;obtain⟨g,cap,pa,qa,pb,qb,pc,qc,pm,qm,rfl,hcap,hcap2,hBg,l0,l1,l2,l3,oa,rb,oc,om,hnd⟩:=own4 ho;replace R:=R.stay hb1;replace BW:=Below.step BW hb1;have hqc1:c.length≤qc:=(Rd.own oc).1;have hqc2:qc≤2 ^ 63-1:=(Rd.own oc).2.1;have HOA:Hid (Own w1 (w.heap.size+1) (.slice pa a.length qa) a):=oa;have HOM:Hid (Own w1 (w.heap.size+1) (.slice pm m.length qm) m):=om;have HND:Hid (((Value.slice pa a.length qa).ownBlock.toList++(Value.slice pm m.length qm).ownBlock.toList).Nodup):=hnd;have HRB:Hid (Rd w1 pb qb b):=rb;have HOC:Hid (Own w1 (w.heap.size+1) (.slice pc c.length qc) c):=oc
          have hz1:Hid (w.heap.size+1≤w1.heap.size):=by have h:=hb1.size;rw[hz0.out] at h;exact h
          clear hb1 KS oa om hnd rb oc ho;go_wp2_with fail;refine(zCW pa qa a w1).mono ?_;rintro e w2 ⟨rfl,hw⟩;subst w2;cases hc:ctxB a
          · have HN:Hid (raR data=none):=by show _=_;rw[HU.out];exact zDo (fun h=>by rw[hc] at h;cases h.1)
            have c0:=zQ (R.cell 0) rfl;have c1:=zQ (R.cell 1) rfl;have c2:=zQ (R.cell 2) rfl;have c3:=zQ (R.cell 3) rfl;have c4:=zQ (R.cell 4) rfl;have c5:=zQ (R.cell 5) rfl;have fz:=R.frozen;clear R;go_wp2_with fail;exact bodyPost_ret (v:=.tuple #[.agg #[.slice none 0 0,.int .i64 0,.int .i64 0,.int .i64 0,.int .i64 0,.slice none 0 0],.bool false]) (by simp[results,Tryz.results101,go_sem,c0,c1,c2,c3,c4,c5]) rfl (HQ.out _ _ ⟨none,0,none,0,zeroA,false,rfl,ARead.no HN.out,((((((BW.setCell (Nat.le_refl _) _).setCell (Nat.le_refl _) _).setCell (Nat.le_refl _) _).setCell (Nat.le_refl _) _).setCell (Nat.le_refl _) _).setCell (Nat.le_refl _) _)⟩)
          · by_cases hc1:c.length=1
            · have dc:((c.length:Int) != 1)=false:=by rw[bne_eq_false_iff_eq];omega
              by_cases hm1:m.length=32
              · have dm:((m.length:Int) != 32)=false:=by rw[bne_eq_false_iff_eq];omega
                have HC1:Hid (c.length=1):=hc1;have HM1:Hid (m.length=32):=hm1;have HCT:Hid (ctxB a=true):=hc;clear hc1 hm1 hc;go_wp2_with fail;refine(zGr b pb qb w1 HRB.out).mono ?_;rintro e w2 ⟨d,t,rfl,hb2,hu⟩;have HUC:Hid (ucD b=if t then (0,d) else (5,zC)):=hu;have hl2:=zA w2 (.cells #[.int .i64 d.1,.int .i64 d.2.1,.int .i64 d.2.2] 62);have D:=Arr.new w2 [.int .i64 d.1,.int .i64 d.2.1,.int .i64 d.2.2] 62;have hb3:=Below.step hb2 hl2;replace R:=R.stay hb3;replace BW:=Below.step BW hb3;replace l0:=zE l0 hb3;replace l2:=zE l2 hb3;replace l3:=zE l3 hb3;replace HOA:Hid (Own _ (w.heap.size+1) (.slice pa a.length qa) a):=HOA.out.stay hb3;replace HOM:Hid (Own _ (w.heap.size+1) (.slice pm m.length qm) m):=HOM.out.stay hb3;replace HOC:Hid (Own _ (w.heap.size+1) (.slice pc c.length qc) c):=HOC.out.stay hb3;have hzd:Hid (w.heap.size+1≤w2.heap.size):=Nat.le_trans hz1.out hb2.size;clear hu hb2 hl2 hb3 HRB l1 dc dm;go_wp2_with fail;obtain⟨bc,oc,rfl,hcc⟩:=(Rd.own HOC.out).2.2.2 (by have:=HC1.out;omega);have lc:=hcc 0 (by have:=HC1.out;omega);rw[Nat.add_zero] at lc;have la:=zDb c 0;have ua:=zDc c 0
                have hbc:bc∉[w.heap.size]:=by have h:=HOC.out.ge bc rfl;simp;omega
                have hdb:w2.heap.size∉[w.heap.size]:=by have h:=hzd.out;simp;omega
                have hgb:g∉[w.heap.size]:=by have h:=hBg;simp;omega
                rw[HC1.out] at l2 hqc1;generalize w2.alloc (.cells #[.int .i64 d.1,.int .i64 d.2.1,.int .i64 d.2.2] 62)=V at *;have g0:=GenS.only_cell (fp:=[w.heap.size]) l0 hgb;have g2:=GenS.only_cell (fp:=[w.heap.size]) l2 hgb;have g3:=GenS.only_cell (fp:=[w.heap.size]) l3 hgb;have gc:=GenS.only_cell (fp:=[w.heap.size]) lc hbc;have d0:=GenS.only_cell (fp:=[w.heap.size]) (zQ (D.cell 0) rfl) hdb;have d1:=GenS.only_cell (fp:=[w.heap.size]) (zQ (D.cell 1) rfl) hdb;have d2:=GenS.only_cell (fp:=[w.heap.size]) (zQ (D.cell 2) rfl) hdb;have hne:=GenS.only_some [w.heap.size] V
                have hres:Hid ((Tryz.prog.info? 70).map (·.size)=some 6):=by show _=_;kernel_rfl
                clear hbc hdb hgb l0 l2 l3 lc D hcc;refine GenS.wp_region_pick (GenS.only_pre [w.heap.size]) [0,1,2,3,4,5,6,7,8,9,10,11,12,13,14] 16 1 1 rfl rfl rfl (by kernel_rfl) (by kernel_rfl) (by kernel_rfl) (by kernel_rfl) ?_;simp only[zL,List.getElem?_toArray,List.getElem?_cons_zero,List.getElem?_cons_succ]
                repeat (go_big_quiet_step (fail))
                refine wpQuiet_nil ?_;clear g0 g2 g3 gc d0 d1 d2 hne;refine GenS.wpM_only (i:=15) (by kernel_rfl) ?_;refine GenS.mOp_store rfl (by go_simp) 70 _ _ rfl w.heap.size #[.slice pa a.length qa,.int .i64 d.1,.int .i64 d.2.1,.int .i64 d.2.2,.int .i64 (at8 c 0),.slice pm m.length qm] rfl rfl 70 #[.slice none 0 0,.int .i64 0,.int .i64 0,.int .i64 0,.int .i64 0,.slice none 0 0] (fun n=>R) hres.out rfl (by simp[Value.oneCell']) (fun n=>Only.row _ _ _) ?_;intro n2;refine GenS.wpM_end (by kernel_rfl) rfl (by kernel_rfl) (by decide) ?_;rintro _ ⟨n3,rfl⟩;simp only[List.drop_succ_cons,List.drop_zero];have RA:Arr (((V.drewN n2).setRow w.heap.size #[.slice pa a.length qa,.int .i64 d.1,.int .i64 d.2.1,.int .i64 d.2.2,.int .i64 (at8 c 0),.slice pm m.length qm]).drewN n3) w.heap.size 70 [.slice pa a.length qa,.int .i64 d.1,.int .i64 d.2.1,.int .i64 d.2.2,.int .i64 (at8 c 0),.slice pm m.length qm]:=Arr.row (w:=V.drewN n2) R [.slice pa a.length qa,.int .i64 d.1,.int .i64 d.2.1,.int .i64 d.2.2,.int .i64 (at8 c 0),.slice pm m.length qm];have BEL:Below w.heap.size w (((V.drewN n2).setRow w.heap.size #[.slice pa a.length qa,.int .i64 d.1,.int .i64 d.2.1,.int .i64 d.2.2,.int .i64 (at8 c 0),.slice pm m.length qm]).drewN n3):=(Below.row (BW.trans ⟨rfl,rfl,rfl,Nat.le_refl _,fun _ _=>rfl⟩) (Nat.le_refl _) _).trans ⟨rfl,rfl,rfl,Nat.le_refl _,fun _ _=>rfl⟩;have OA:Own (((V.drewN n2).setRow w.heap.size #[.slice pa a.length qa,.int .i64 d.1,.int .i64 d.2.1,.int .i64 d.2.2,.int .i64 (at8 c 0),.slice pm m.length qm]).drewN n3) (w.heap.size+1) (.slice pa a.length qa) a:=Own.row (w:=V.drewN n2) HOA.out (fun k hk e=>by have h:=HOA.out.ge k hk;omega) #[.slice pa a.length qa,.int .i64 d.1,.int .i64 d.2.1,.int .i64 d.2.2,.int .i64 (at8 c 0),.slice pm m.length qm];have OM:Own (((V.drewN n2).setRow w.heap.size #[.slice pa a.length qa,.int .i64 d.1,.int .i64 d.2.1,.int .i64 d.2.2,.int .i64 (at8 c 0),.slice pm m.length qm]).drewN n3) (w.heap.size+1) (.slice pm m.length qm) m:=Own.row (w:=V.drewN n2) HOM.out (fun k hk e=>by have h:=HOM.out.ge k hk;omega) #[.slice pa a.length qa,.int .i64 d.1,.int .i64 d.2.1,.int .i64 d.2.2,.int .i64 (at8 c 0),.slice pm m.length qm];clear R BW HOA HOM HOC;generalize ((V.drewN n2).setRow w.heap.size #[.slice pa a.length qa,.int .i64 d.1,.int .i64 d.2.1,.int .i64 d.2.2,.int .i64 (at8 c 0),.slice pm m.length qm]).drewN n3=W at *;have c0:=zQ (RA.cell 0) rfl;have c1:=zQ (RA.cell 1) rfl;have c2:=zQ (RA.cell 2) rfl;have c3:=zQ (RA.cell 3) rfl;have c4:=zQ (RA.cell 4) rfl;have c5:=zQ (RA.cell 5) rfl
                have HAR:Hid (ARead W w.heap.size data (a,d,at8 c 0,m) [.slice pa a.length qa,.int .i64 d.1,.int .i64 d.2.1,.int .i64 d.2.2,.int .i64 (at8 c 0),.slice pm m.length qm] t):=by
                  have hown:=zFV (a:=(a,d,at8 c 0,m)) (OA.lower (Nat.le_succ _)) (OM.lower (Nat.le_succ _)) HND.out;cases ht:t
                  · exact ARead.no (by rw[HU.out];exact zDo (fun h=>by have h1:=HUC.out;rw[ht] at h1;rw[h1] at h;cases h.2.2.2))
                  · exact ARead.yes (by rw[HU.out];exact zJg HCT.out HC1.out HM1.out (by have h1:=HUC.out;rw[ht] at h1;exact h1)) hown
                clear RA OA OM HND;go_wp2_with fail;exact bodyPost_ret (v:=.tuple #[.agg #[.slice pa a.length qa,.int .i64 d.1,.int .i64 d.2.1,.int .i64 d.2.2,.int .i64 (at8 c 0),.slice pm m.length qm],.bool t]) (by simp[results,Tryz.results101,go_sem,c0,c1,c2,c3,c4,c5]) rfl (HQ.out _ _ ⟨pa,qa,pm,qm,(a,d,at8 c 0,m),t,rfl,HAR.out,BEL⟩)
              · have dm:((m.length:Int) != 32)=true:=by rw[bne_iff_ne];omega
                have HN:Hid (raR data=none):=by show _=_;rw[HU.out];exact zDo (fun h=>hm1 h.2.2.1)
                clear hm1 hc1;have c0:=zQ (R.cell 0) rfl;have c1:=zQ (R.cell 1) rfl;have c2:=zQ (R.cell 2) rfl;have c3:=zQ (R.cell 3) rfl;have c4:=zQ (R.cell 4) rfl;have c5:=zQ (R.cell 5) rfl;have fz:=R.frozen;clear R;go_wp2_with fail;exact bodyPost_ret (v:=.tuple #[.agg #[.slice none 0 0,.int .i64 0,.int .i64 0,.int .i64 0,.int .i64 0,.slice none 0 0],.bool false]) (by simp[results,Tryz.results101,go_sem,c0,c1,c2,c3,c4,c5]) rfl (HQ.out _ _ ⟨none,0,none,0,zeroA,false,rfl,ARead.no HN.out,((((((BW.setCell (Nat.le_refl _) _).setCell (Nat.le_refl _) _).setCell (Nat.le_refl _) _).setCell (Nat.le_refl _) _).setCell (Nat.le_refl _) _).setCell (Nat.le_refl _) _)⟩)
            · have dc:((c.length:Int) != 1)=true:=by rw[bne_iff_ne];omega
              have HN:Hid (raR data=none):=by show _=_;rw[HU.out];exact zDo (fun h=>hc1 h.2.1)
              clear hc1;have c0:=zQ (R.cell 0) rfl;have c1:=zQ (R.cell 1) rfl;have c2:=zQ (R.cell 2) rfl;have c3:=zQ (R.cell 3) rfl;have c4:=zQ (R.cell 4) rfl;have c5:=zQ (R.cell 5) rfl;have fz:=R.frozen;clear R;go_wp2_with fail;exact bodyPost_ret (v:=.tuple #[.agg #[.slice none 0 0,.int .i64 0,.int .i64 0,.int .i64 0,.int .i64 0,.slice none 0 0],.bool false]) (by simp[results,Tryz.results101,go_sem,c0,c1,c2,c3,c4,c5]) rfl (HQ.out _ _ ⟨none,0,none,0,zeroA,false,rfl,ARead.no HN.out,((((((BW.setCell (Nat.le_refl _) _).setCell (Nat.le_refl _) _).setCell (Nat.le_refl _) _).setCell (Nat.le_refl _) _).setCell (Nat.le_refl _) _).setCell (Nat.le_refl _) _)⟩)
      · have hd4:((bl.length:Int) != 4)=true:=by rw[bne_iff_ne];omega
        have HN:Hid (raR data=none):=by show _=_;rw[HU.out];exact zJf hl4
        clear hl4;go_enter Tryz.func101,Tryz.ntmps101;go_wp2_with fail;refine KS.mono ?_;rintro e w1 ⟨v,rfl,⟨xs,fp,ho⟩,hb1⟩;obtain⟨pl,ql,rfl,-⟩:=ho.rd;replace R:=R.stay hb1;replace BW:=Below.step BW hb1;simp only[Option.getD_some];clear hb1 ho;have c0:=zQ (R.cell 0) rfl;have c1:=zQ (R.cell 1) rfl;have c2:=zQ (R.cell 2) rfl;have c3:=zQ (R.cell 3) rfl;have c4:=zQ (R.cell 4) rfl;have c5:=zQ (R.cell 5) rfl;have fz:=R.frozen;clear R;go_wp2_with fail;exact bodyPost_ret (v:=.tuple #[.agg #[.slice none 0 0,.int .i64 0,.int .i64 0,.int .i64 0,.int .i64 0,.slice none 0 0],.bool false]) (by simp[results,Tryz.results101,go_sem,c0,c1,c2,c3,c4,c5]) rfl (HQ.out _ _ ⟨none,0,none,0,zeroA,false,rfl,ARead.no HN.out,((((((BW.setCell (Nat.le_refl _) _).setCell (Nat.le_refl _) _).setCell (Nat.le_refl _) _).setCell (Nat.le_refl _) _).setCell (Nat.le_refl _) _).setCell (Nat.le_refl _) _)⟩)
  · have hlI:160<(data.length:Int):=by omega
    have HN:Hid (raR data=none):=by show _=_;unfold raR;rw[if_neg hl]
    clear hr hl;go_enter Tryz.func101,Tryz.ntmps101;clear R BW;go_wp2_with fail;exact bodyPost_ret (v:=.tuple #[.agg #[.slice none 0 0,.int .i64 0,.int .i64 0,.int .i64 0,.int .i64 0,.slice none 0 0],.bool false]) (by simp[results,Tryz.results101,go_sem]) rfl (HQ.out _ _ ⟨none,0,none,0,zeroA,false,rfl,ARead.no HN.out,zA _ _⟩)
end Go.Proofs.YtbaldmmbphbinaaGreatDoor
