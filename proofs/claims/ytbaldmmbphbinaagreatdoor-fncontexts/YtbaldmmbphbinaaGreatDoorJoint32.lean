import Derived.Test.YtbaldmmbphbinaaGreatDoorJoint31
import Derived.Test.YtbaldmmbphbinaaGreatDoorSesG
namespace Go.Proofs.YtbaldmmbphbinaaGreatDoor
open Go.ChangeShapes Go.WideShapes Go.ChangeAt Go.RowKit
theorem zMX {l:List zJ} {id:Int} (h:hasH l id=true):0≤ixH l id:=by
  unfold ixH;cases hf:l.findIdx? (fun h=>h.1==id) with
  | none=>
    exfalso
    rw[List.findIdx?_eq_none_iff] at hf;obtain⟨a,ha,he⟩:=hasH_iff.1 h;have:=hf a ha;simp[he] at this
  | some k=>simp
theorem zFh {w:World} {B n z:Nat} {t:TypeId} {v:Value} {ys:List Value} (h:w.ownsRow B t z v n ys):∃ p m q,v=.slice p m q:=by
  rcases h.2 with ⟨rfl,-⟩ | ⟨g,cap,cur,rfl,-⟩
  · exact⟨_,_,_,rfl⟩
  · exact⟨_,_,_,rfl⟩
set_option maxRecDepth 4000 in
set_option maxHeartbeats 4000000 in
theorem zLF (x:SesD) (us:List Value) (certs:List zH) (signs:List zO) (now:Int) (data:List UInt8) (pc ps pd:Option Addr) (qc qs qd:Nat) (w:World) (h:sessionC.rep w x us) (hrc:RdL certC w pc qc certs) (hrs:RdL signC w ps qs signs) (hrd:Rd w pd qd data):
    Calls Tryz.prog 10 #[.agg us.toArray,.slice pc certs.length qc,.slice ps signs.length qs,.int .i64 now,.slice pd data.length qd] w fun e w'=>∃ vs,e=.returned (.agg (.int .i64 (haC hdS x certs signs now data) :: vs).toArray)∧Below w.heap.size w w':=by
  obtain⟨p1,q1,p3,q3,p4,q4,p5,q5,rfl,r1,r3,r4,r5⟩:=zN h;have A0:=Arr.new w [.slice p1 x.1.length q1,.int .i64 x.2.1,.slice p3 x.2.2.1.length q3,.slice p4 x.2.2.2.1.length q4,.slice p5 x.2.2.2.2.length q5] 27;have B0:=zA w (.cells #[.slice p1 x.1.length q1,.int .i64 x.2.1,.slice p3 x.2.2.1.length q3,.slice p4 x.2.2.2.1.length q4,.slice p5 x.2.2.2.2.length q5] 27);have R:=Arr.new (w.alloc (.cells #[.slice p1 x.1.length q1,.int .i64 x.2.1,.slice p3 x.2.2.1.length q3,.slice p4 x.2.2.2.1.length q4,.slice p5 x.2.2.2.2.length q5] 27)) [.int .i64 0,.int .i64 0,.slice none 0 0,.int .i64 0,.slice none 0 0,.slice none 0 0,.slice none 0 0] 31;rw[zD] at R;have A:=A0.old _ (.cells #[.int .i64 0,.int .i64 0,.slice none 0 0,.int .i64 0,.slice none 0 0,.slice none 0 0,.slice none 0 0] 31);have BW:=Below.mk B0 (.cells #[.int .i64 0,.int .i64 0,.slice none 0 0,.int .i64 0,.slice none 0 0,.slice none 0 0,.slice none 0 0] 31);have AT:=(AtSes.new w (t:=27) (p1:=p1) (q1:=q1) (p3:=p3) (q3:=q3) (p4:=p4) (q4:=q4) (p5:=p5) (q5:=q5) (x:=x)).keep (zA _ (.cells #[.int .i64 0,.int .i64 0,.slice none 0 0,.int .i64 0,.slice none 0 0,.slice none 0 0,.slice none 0 0] 31))
  have hz2:Hid (((w.alloc (.cells #[.slice p1 x.1.length q1,.int .i64 x.2.1,.slice p3 x.2.2.1.length q3,.slice p4 x.2.2.2.1.length q4,.slice p5 x.2.2.2.2.length q5] 27)).alloc (.cells #[.int .i64 0,.int .i64 0,.slice none 0 0,.int .i64 0,.slice none 0 0,.slice none 0 0,.slice none 0 0] 31)).heap.size=w.heap.size+2):=by show _=_;rw[zD,zD]
  have hres:Hid ((Tryz.prog.info? 31).map (·.size)=some 7):=by show _=_;kernel_rfl
  have HREP:Hid (∀ V,Below w.heap.size w V→sessionC.rep V x [.slice p1 x.1.length q1,.int .i64 x.2.1,.slice p3 x.2.2.1.length q3,.slice p4 x.2.2.2.1.length q4,.slice p5 x.2.2.2.2.length q5]):=fun V hV=>sessionC.keep h hV
  have HR1:Hid (∀ V,Below w.heap.size w V→Rd V p1 q1 x.1):=fun V hV=>r1.keep hV
  have HR3:Hid (∀ V,Below w.heap.size w V→RdL bytC V p3 q3 x.2.2.1):=fun V hV=>r3.keep hV
  have HR4:Hid (∀ V,Below w.heap.size w V→RdL bytC V p4 q4 x.2.2.2.1):=fun V hV=>r4.keep hV
  have HR5:Hid (∀ V,Below w.heap.size w V→RdL holdC V p5 q5 x.2.2.2.2):=fun V hV=>r5.keep hV
  have HRC:Hid (∀ V,Below w.heap.size w V→RdL certC V pc qc certs):=fun V hV=>hrc.keep hV
  have HRS:Hid (∀ V,Below w.heap.size w V→RdL signC V ps qs signs):=fun V hV=>hrs.keep hV
  have HRD:Hid (∀ V,Below w.heap.size w V→Rd V pd qd data):=fun V hV=>hrd.keep hV
  have HE:Hid (haC hdS x certs signs now data=if seF hdS x=0 then (if caC x.1 (3-x.2.1) certs signs now data=0 then hlC x ((raR data).getD zeroA) else caC x.1 (3-x.2.1) certs signs now data) else seF hdS x):=rfl;have HS:Hid (seF hdS x=0→Ses x):=seS_iff.1;have K1:=zDX w.heap.size 0 p1 p3 p4 p5 q1 q3 q4 q5 x _ AT (r3.keep BW) (r4.keep BW) (r5.keep BW)
  have HAT:Hid (∀ V,Below ((w.alloc (.cells #[.slice p1 x.1.length q1,.int .i64 x.2.1,.slice p3 x.2.2.1.length q3,.slice p4 x.2.2.2.1.length q4,.slice p5 x.2.2.2.2.length q5] 27)).alloc (.cells #[.int .i64 0,.int .i64 0,.slice none 0 0,.int .i64 0,.slice none 0 0,.slice none 0 0,.slice none 0 0] 31)).heap.size ((w.alloc (.cells #[.slice p1 x.1.length q1,.int .i64 x.2.1,.slice p3 x.2.2.1.length q3,.slice p4 x.2.2.2.1.length q4,.slice p5 x.2.2.2.2.length q5] 27)).alloc (.cells #[.int .i64 0,.int .i64 0,.slice none 0 0,.int .i64 0,.slice none 0 0,.slice none 0 0,.slice none 0 0] 31)) V→AtSes V w.heap.size 0 p1 q1 p3 q3 p4 q4 p5 q5 x):=fun V hV=>AT.keep hV
  clear h hrc hrs hrd r1 r3 r4 r5 A0 B0 AT;go_enter Tryz.func10,Tryz.ntmps10;go_wp2_with fail;refine K1.mono ?_;rintro e w1 ⟨rfl,hb⟩;replace R:=R.stay hb;replace A:=A.stay hb;replace BW:=Below.step BW hb;have AT:=HAT.out _ hb;clear K1 hb
  by_cases h0:seF hdS x=0
  case neg=>
    have dk:(seF hdS x != 0)=true:=by rw[bne_iff_ne];exact h0
    have hz:Hid (haC hdS x certs signs now data=seF hdS x):=by show _=_;rw[HE.out,if_neg h0]
    clear HE HS h0 A HAT AT;generalize seF hdS x=k at *;go_wp2_with fail;refine(zA5 k _).mono ?_;rintro e w9 ⟨rfl,hb⟩;replace R:=R.stay hb;replace BW:=Below.step BW hb;clear hb;go_wp2_with (refine wpList_store_row rfl 31 _ _ rfl (w.heap.size+1) #[.int .i64 k,.int .i64 0,.slice none 0 0,.int .i64 0,.slice none 0 0,.slice none 0 0,.slice none 0 0] rfl rfl 31 #[.int .i64 0,.int .i64 0,.slice none 0 0,.int .i64 0,.slice none 0 0,.slice none 0 0,.slice none 0 0] R hres.out rfl (by simp[Value.oneCell']) ?_);exact bodyPost_ret (v:=.agg #[.int .i64 k,.int .i64 0,.slice none 0 0,.int .i64 0,.slice none 0 0,.slice none 0 0,.slice none 0 0]) (results_cell_row Tryz.results10 _ _ (w.heap.size+1) 31 _ (0,0) _ rfl (R.row [.int .i64 k,.int .i64 0,.slice none 0 0,.int .i64 0,.slice none 0 0,.slice none 0 0,.slice none 0 0]) Tryz.underlying31 rfl hres.out) rfl ⟨_,by rw[hz.out],Below.row BW (Nat.le_succ _) _⟩
  have HE2:Hid (haC hdS x certs signs now data=if caC x.1 (3-x.2.1) certs signs now data=0 then hlC x ((raR data).getD zeroA) else caC x.1 (3-x.2.1) certs signs now data):=by show _=_;rw[HE.out,if_pos h0]
  have hS:Hid (Ses x):=HS.out h0;rw[h0];clear HE HS h0 HAT hz2;have K2:=zKm p1 pc ps pd q1 qc qs qd x.1 (3-x.2.1) certs signs now data w1 (HR1.out _ BW) (HRC.out _ BW) (HRS.out _ BW) (HRD.out _ BW);have c0:=zQ (A.cell 0) rfl;have c1:=zQ (A.cell 1) rfl
  have hr1:1≤x.2.1:=by rcases hS.out.role with h | h <;> omega
  have hr2:x.2.1≤2:=by rcases hS.out.role with h | h <;> omega
  go_wp2_with fail;refine K2.mono ?_;rintro e w2 ⟨ua,fp,rfl,kA,hb⟩;replace R:=R.stay hb;replace A:=A.stay hb;replace AT:=AT.keep hb;replace BW:=Below.step BW hb;clear K2 hb c0 c1
  by_cases hc:caC x.1 (3-x.2.1) certs signs now data=0
  case neg=>
    have hCA:(caD x.1 (3-x.2.1) certs signs now data)=(caC x.1 (3-x.2.1) certs signs now data,zeroA):=by unfold caD;rw[if_neg hc]
    have hz:Hid (haC hdS x certs signs now data=caC x.1 (3-x.2.1) certs signs now data):=by show _=_;rw[HE2.out,if_neg hc]
    rw[hCA] at kA;clear hCA HE2 A AT;generalize caC x.1 (3-x.2.1) certs signs now data=k at *
    have dk:(k != 0)=true:=by rw[bne_iff_ne];exact hc
    obtain⟨a1,b1,a4,b4,rfl,-,-⟩:=zAH (authResultC.toRep kA);simp only;have R0:=R.stay (zA w2 (.cells #[.int .i64 k,.slice a1 zeroA.1.length b1,.int .i64 zeroA.2.1.1,.int .i64 zeroA.2.1.2.1,.int .i64 zeroA.2.1.2.2,.int .i64 zeroA.2.2.1,.slice a4 zeroA.2.2.2.length b4] 72));have BW0:=Below.step BW (zA w2 (.cells #[.int .i64 k,.slice a1 zeroA.1.length b1,.int .i64 zeroA.2.1.1,.int .i64 zeroA.2.1.2.1,.int .i64 zeroA.2.1.2.2,.int .i64 zeroA.2.2.1,.slice a4 zeroA.2.2.2.length b4] 72));clear R BW kA hc;have R:=R0;have BW:=BW0;clear R0 BW0;go_wp2_with fail;refine(zA5 k _).mono ?_;rintro e w9 ⟨rfl,hb⟩;replace R:=R.stay hb;replace BW:=Below.step BW hb;clear hb;go_wp2_with (refine wpList_store_row rfl 31 _ _ rfl (w.heap.size+1) #[.int .i64 k,.int .i64 0,.slice none 0 0,.int .i64 0,.slice none 0 0,.slice none 0 0,.slice none 0 0] rfl rfl 31 #[.int .i64 0,.int .i64 0,.slice none 0 0,.int .i64 0,.slice none 0 0,.slice none 0 0,.slice none 0 0] R hres.out rfl (by simp[Value.oneCell']) ?_);exact bodyPost_ret (v:=.agg #[.int .i64 k,.int .i64 0,.slice none 0 0,.int .i64 0,.slice none 0 0,.slice none 0 0,.slice none 0 0]) (results_cell_row Tryz.results10 _ _ (w.heap.size+1) 31 _ (0,0) _ rfl (R.row [.int .i64 k,.int .i64 0,.slice none 0 0,.int .i64 0,.slice none 0 0,.slice none 0 0,.slice none 0 0]) Tryz.underlying31 rfl hres.out) rfl ⟨_,by rw[hz.out],Below.row BW (Nat.le_succ _) _⟩
  obtain⟨a,hra,hok,hct,hkc⟩:=zJ0 hc
  have hCA:(caD x.1 (3-x.2.1) certs signs now data)=(0,a):=by unfold caD;rw[if_pos hc,hra];rfl
  have HE3:Hid (haC hdS x certs signs now data=hlC x a):=by show _=_;rw[HE2.out,if_pos hc,hra];rfl
  rw[hCA] at kA;clear hCA HE2 hc hra hkc;obtain⟨a1,b1,a4,b4,rfl,ru1,-⟩:=zAH (authResultC.toRep kA);simp only at ru1 ⊢;have AU:=Arr.new w2 [.int .i64 0,.slice a1 a.1.length b1,.int .i64 a.2.1.1,.int .i64 a.2.1.2.1,.int .i64 a.2.1.2.2,.int .i64 a.2.2.1,.slice a4 a.2.2.2.length b4] 72;have hal:=zA w2 (.cells #[.int .i64 0,.slice a1 a.1.length b1,.int .i64 a.2.1.1,.int .i64 a.2.1.2.1,.int .i64 a.2.1.2.2,.int .i64 a.2.2.1,.slice a4 a.2.2.2.length b4] 72);have c2:=zQ (A.cell 2) rfl;have hAl:=A.lt;have hAl3:w.heap.size+1<w2.heap.size:=R.lt;replace R:=R.stay hal;replace A:=A.stay hal;replace AT:=AT.keep hal;replace ru1:=ru1.keep hal;have BW2:=Below.step BW hal;have KH:=zCj x.2.2.1 a.1 p3 a1 q3 b1 _ (HR3.out _ BW2) ru1;have HOK:Hid (okC a.2.1=true):=hok;have HCT:Hid (ctxB a.1=true):=hct;clear kA hal BW hok hct;go_wp2_with fail;refine KH.mono ?_;generalize hgz:w2.heap.size=gz at *;generalize w2.alloc (.cells #[.int .i64 0,.slice a1 a.1.length b1,.int .i64 a.2.1.1,.int .i64 a.2.1.2.1,.int .i64 a.2.1.2.2,.int .i64 a.2.2.1,.slice a4 a.2.2.2.length b4] 72)=W2 at *;clear KH c2 hAl;rintro e w3 ⟨rfl,hb⟩;replace R:=R.stay hb;replace A:=A.stay hb;replace AT:=AT.keep hb;replace AU:=AU.stay hb;replace ru1:=ru1.keep hb;have BW:=Below.step BW2 hb;clear BW2 hb hgz;have HEL:Hid (hlC x a=if hsB x.2.2.1 a.1=true then (if 40≤x.2.2.2.1.length∨(6≤x.2.2.2.2.length∧hasH x.2.2.2.2 a.2.1.1=false) then 10 else 0) else 8):=rfl;cases h1:hsB x.2.2.1 a.1
  · have hz:Hid (haC hdS x certs signs now data=8):=by show _=_;rw[HE3.out,HEL.out,if_neg (by rw[h1];decide)]
    clear HE3 HEL h1 A AT AU ru1;go_wp2_with fail;refine(zA5 8 _).mono ?_;rintro e w9 ⟨rfl,hb⟩;replace R:=R.stay hb;replace BW:=Below.step BW hb;clear hb;go_wp2_with (refine wpList_store_row rfl 31 _ _ rfl (w.heap.size+1) #[.int .i64 8,.int .i64 0,.slice none 0 0,.int .i64 0,.slice none 0 0,.slice none 0 0,.slice none 0 0] rfl rfl 31 #[.int .i64 0,.int .i64 0,.slice none 0 0,.int .i64 0,.slice none 0 0,.slice none 0 0,.slice none 0 0] R hres.out rfl (by simp[Value.oneCell']) ?_);exact bodyPost_ret (v:=.agg #[.int .i64 8,.int .i64 0,.slice none 0 0,.int .i64 0,.slice none 0 0,.slice none 0 0,.slice none 0 0]) (results_cell_row Tryz.results10 _ _ (w.heap.size+1) 31 _ (0,0) _ rfl (R.row [.int .i64 8,.int .i64 0,.slice none 0 0,.int .i64 0,.slice none 0 0,.slice none 0 0,.slice none 0 0]) Tryz.underlying31 rfl hres.out) rfl ⟨_,by rw[hz.out],Below.row BW (Nat.le_succ _) _⟩
  have HE4:Hid (haC hdS x certs signs now data=if 40≤x.2.2.2.1.length∨(6≤x.2.2.2.2.length∧hasH x.2.2.2.2 a.2.1.1=false) then 10 else 0):=by show _=_;rw[HE3.out,HEL.out,if_pos h1]
  clear HE3 HEL h1;have c3:=zQ (A.cell 3) rfl;have c4:=zQ (A.cell 4) rfl;have u2:=zQ (AU.cell 2) rfl
  by_cases h2:40≤x.2.2.2.1.length
  · have hz:Hid (haC hdS x certs signs now data=10):=by show _=_;rw[HE4.out,if_pos (.inl h2)]
    have i1:40≤(x.2.2.2.1.length:Int):=by omega
    clear HE4 h2 A AT AU ru1;go_wp2_with fail;refine(zA5 10 _).mono ?_;rintro e w9 ⟨rfl,hb⟩;replace R:=R.stay hb;replace BW:=Below.step BW hb;clear hb;go_wp2_with (refine wpList_store_row rfl 31 _ _ rfl (w.heap.size+1) #[.int .i64 10,.int .i64 0,.slice none 0 0,.int .i64 0,.slice none 0 0,.slice none 0 0,.slice none 0 0] rfl rfl 31 #[.int .i64 0,.int .i64 0,.slice none 0 0,.int .i64 0,.slice none 0 0,.slice none 0 0,.slice none 0 0] R hres.out rfl (by simp[Value.oneCell']) ?_);exact bodyPost_ret (v:=.agg #[.int .i64 10,.int .i64 0,.slice none 0 0,.int .i64 0,.slice none 0 0,.slice none 0 0,.slice none 0 0]) (results_cell_row Tryz.results10 _ _ (w.heap.size+1) 31 _ (0,0) _ rfl (R.row [.int .i64 10,.int .i64 0,.slice none 0 0,.int .i64 0,.slice none 0 0,.slice none 0 0,.slice none 0 0]) Tryz.underlying31 rfl hres.out) rfl ⟨_,by rw[hz.out],Below.row BW (Nat.le_succ _) _⟩
  have i1:¬ (40≤(x.2.2.2.1.length:Int)):=by omega
  have HE5:Hid (haC hdS x certs signs now data=if 6≤x.2.2.2.2.length∧hasH x.2.2.2.2 a.2.1.1=false then 10 else 0):=by
    show _=_
    rw[HE4.out]
    by_cases hq:6≤x.2.2.2.2.length∧hasH x.2.2.2.2 a.2.1.1=false
    · rw[if_pos hq,if_pos (.inr hq)]
    · rw[if_neg hq,if_neg (fun hh=>by rcases hh with hh | hh;omega;exact hq hh)]
  clear HE4;have KA:=zMA w.heap.size 0 p1 p3 p4 p5 q1 q3 q4 q5 x a.2.1.1 w3 AT (HR5.out _ BW)
  by_cases h3:6≤x.2.2.2.2.length∧hasH x.2.2.2.2 a.2.1.1=false
  · have hz:Hid (haC hdS x certs signs now data=10):=by show _=_;rw[HE5.out,if_pos h3]
    have i2:6≤(x.2.2.2.2.length:Int):=by omega
    rw[zHg h3.2] at KA;clear HE5 h2 h3 A AT AU ru1;go_wp2_with (go_at_call 40;refine KA.mono ?_;rintro e w' ⟨rfl,rfl⟩);clear KA
    skip
    refine(zA5 10 _).mono ?_;rintro e w9 ⟨rfl,hb⟩;replace R:=R.stay hb;replace BW:=Below.step BW hb;clear hb;go_wp2_with (refine wpList_store_row rfl 31 _ _ rfl (w.heap.size+1) #[.int .i64 10,.int .i64 0,.slice none 0 0,.int .i64 0,.slice none 0 0,.slice none 0 0,.slice none 0 0] rfl rfl 31 #[.int .i64 0,.int .i64 0,.slice none 0 0,.int .i64 0,.slice none 0 0,.slice none 0 0,.slice none 0 0] R hres.out rfl (by simp[Value.oneCell']) ?_);exact bodyPost_ret (v:=.agg #[.int .i64 10,.int .i64 0,.slice none 0 0,.int .i64 0,.slice none 0 0,.slice none 0 0,.slice none 0 0]) (results_cell_row Tryz.results10 _ _ (w.heap.size+1) 31 _ (0,0) _ rfl (R.row [.int .i64 10,.int .i64 0,.slice none 0 0,.int .i64 0,.slice none 0 0,.slice none 0 0,.slice none 0 0]) Tryz.underlying31 rfl hres.out) rfl ⟨_,by rw[hz.out],Below.row BW (Nat.le_succ _) _⟩
  have hz:Hid (haC hdS x certs signs now data=0):=by show _=_;rw[HE5.out,if_neg h3]
  have c0:=zQ (A.cell 0) rfl;have c1:=zQ (A.cell 1) rfl;have c2:=zQ (A.cell 2) rfl;have KC:=zJw x _ w3 (HREP.out _ BW) hS.out
  have hg:¬ 6≤x.2.2.2.2.length∨(6≤x.2.2.2.2.length∧hasH x.2.2.2.2 a.2.1.1=true):=by
    by_cases hq:6≤x.2.2.2.2.length
    · refine .inr ⟨hq,?_⟩;cases hh:hasH x.2.2.2.2 a.2.1.1
      · exact absurd ⟨hq,hh⟩ h3
      · rfl
    · exact .inl hq
  have hz3:Hid (w.heap.size+2≤gz):=by show _≤_;have h1:=hAl3;omega
  have HGA:Hid (gz<w3.heap.size):=AU.lt;clear HE5 h3 h2;rcases hg with h4 | ⟨h4,h5⟩
  case' inl=>have i2:¬ (6≤(x.2.2.2.2.length:Int)):=by omega
  case' inr=>
    have i2:6≤(x.2.2.2.2.length:Int):=by omega
    have i3:¬ (ixH x.2.2.2.2 a.2.1.1<0):=by have:=zMX h5;omega
    clear h5
  all_goals
    clear h4;go_wp2_with (go_at_call 40;refine KA.mono ?_;rintro e w9 ⟨rfl,hw⟩;rw[hw];clear hw w9);refine KC.mono ?_;clear KA KC i1 i2
    try clear i3
    clear c0 c1 c2 c3 c4 u2;rintro e w4 ⟨s1,t1,s3,t3,s4,t4,s5,t5,xs,fp,rfl,oU,hb⟩;replace R:=R.stay hb;replace A:=A.stay hb;replace AU:=AU.stay hb;replace ru1:=ru1.keep hb;have BW4:=Below.step BW hb;have c2:=zQ (A.cell 2) rfl;have u1:=zQ (AU.cell 1) rfl;have hG4:Hid (w3.heap.size≤w4.heap.size):=hb.size
    have RUB:Hid (∀ h0:0<a.1.length,∀ y,a1=some y→w4.heap.size≠y.block):=fun h0 y hy e=>by
      obtain⟨b9,o9,e9,hc9⟩:=ru1.2.2.2 h0;rw[hy] at e9;have:=World.block_lt_of_cell? _ _ (hc9 0 h0);cases e9;exact absurd this (by rw[← e];exact Nat.lt_irrefl _)
    have hAl:=A.lt;have hUl:=AU.lt;have AS:=Arr.new w4 [.slice s1 x.1.length t1,.int .i64 x.2.1,.slice s3 x.2.2.1.length t3,.slice s4 x.2.2.2.1.length t4,.slice s5 x.2.2.2.2.length t5] 27;have hal:=zA w4 (.cells #[.slice s1 x.1.length t1,.int .i64 x.2.1,.slice s3 x.2.2.1.length t3,.slice s4 x.2.2.2.1.length t4,.slice s5 x.2.2.2.2.length t5] 27);have oIns:=oU.ins;replace R:=R.stay hal;replace A:=A.stay hal;replace AU:=AU.stay hal;replace ru1:=ru1.keep hal;replace oU:=oU.stay hal;have BW5:=Below.step BW4 hal;have KW:=zGV x.2.2.1 a.1 p3 a1 q3 b1 _ (HR3.out _ BW5) ru1 (fun c hc=>by have:=(zAP (hS.out.cx c (List.mem_append_left _ hc))).2;omega) (by have:=hS.out.ln.1;omega);have NE:Hid (∀ k,k∈(Value.slice s4 x.2.2.2.1.length t4).ownBlock.toList++fp→w3.heap.size≤k∧k<w4.heap.size):=oIns;clear oIns hb hal BW BW4;go_wp2_with fail;refine KW.mono ?_;clear KW c2 u1 hAl hUl;generalize hg4:w4.heap.size=g4 at *;generalize w4.alloc (.cells #[.slice s1 x.1.length t1,.int .i64 x.2.1,.slice s3 x.2.2.1.length t3,.slice s4 x.2.2.2.1.length t4,.slice s5 x.2.2.2.2.length t5] 27)=W5 at *;clear hg4;rintro e w6 ⟨uu,un,ut,rfl,hb⟩;replace R:=R.stay hb;replace A:=A.stay hb;replace AU:=AU.stay hb;replace AS:=AS.stay hb;replace ru1:=ru1.keep hb;replace oU:=oU.stay hb;have BW6:=Below.step BW5 hb;clear hb BW5;have d2:=zQ (AS.cell 2) rfl;have f2:=AS.frozen;have hSl:=AS.lt;have gS:=zAM w6 g4 2 (.slice uu un ut)
    have hzg:Hid (w.heap.size+2≤g4∧gz<g4):=by show _∧_;have h1:=hz3.out;have h2:=HGA.out;have h3:=hG4.out;omega
    have AS7:=AS.set 2 (.slice uu un ut);simp only[List.set_cons_zero,List.set_cons_succ] at AS7;have R7:=R.setOther (a:=⟨g4,2,none⟩) (by show _≠_;have h1:=hzg.out.1;simp;omega) (.slice uu un ut);have A7:=A.setOther (a:=⟨g4,2,none⟩) (by show _≠_;have h1:=hzg.out.1;simp;omega) (.slice uu un ut);have AU7:=AU.setOther (a:=⟨g4,2,none⟩) (by show _≠_;have h1:=hzg.out.2;simp;omega) (.slice uu un ut);have rl7:=ru1.other gS (fun h0 y hy=>by simp only[ne_eq];intro e;exact RUB.out h0 y hy (Option.some.inj e));have oU7:=OwnL.fr (w':=w6.setCell ⟨g4,2,none⟩ (.slice uu un ut)) oU (fun k hk=>heap_setCell_other _ _ k _ (by show k≠g4;have:=(NE.out k hk).2;omega));have BW7:Below w.heap.size w (w6.setCell ⟨g4,2,none⟩ (.slice uu un ut)):=BW6.setCell (p:=⟨g4,2,none⟩) (by show w.heap.size≤g4;have h1:=hzg.out.1;omega) _
    have hsz7:Hid (g4<(w6.setCell ⟨g4,2,none⟩ (.slice uu un ut)).heap.size):=by show _<_;simpa using hSl
    go_wp2_with fail;clear AS R A AU ru1 oU BW6 gS d2 f2 hSl;generalize w6.setCell ⟨g4,2,none⟩ (.slice uu un ut)=W7 at *;clear w6;obtain⟨G,hG⟩:∃ G,G=(Value.slice s4 x.2.2.2.1.length t4).ownBlock.toList:=⟨_,rfl⟩;have HG:Hid (G=(Value.slice s4 x.2.2.2.1.length t4).ownBlock.toList):=hG
    have hGin:∀ k,k∈G→w3.heap.size≤k∧k<g4:=fun k hk=>NE.out k (List.mem_append_left _ (by rw[← hG];exact hk))
    have hGg:g4∉G:=fun h=>by have:=(hGin _ h).2;omega
    have hGu:gz∉G:=fun h=>by have h1:=(hGin _ h).1;have h2:=HGA.out;omega
    have hGr:Hid (w.heap.size+1∉G):=fun h=>by have h1:=(hGin _ h).1;have h2:=HGA.out;have h3:=hz3.out;omega
    have hGx:Hid (w.heap.size∉G):=fun h=>by have h1:=(hGin _ h).1;have h2:=HGA.out;have h3:=hz3.out;omega
    clear hG hGin;have g3:=only_cell (zQ (AS7.cell 3) rfl) hGg;have gu1:=only_cell (zQ (AU7.cell 1) rfl) hGu;have hne:=only_some G W7;refine Gen.wp_region_pick (only_pre G) [0,1,2,3,4] 9 4 1 rfl rfl rfl (by kernel_rfl) (by kernel_rfl) (by kernel_rfl) (by kernel_rfl) ?_;simp only[zL,List.getElem?_toArray,List.getElem?_cons_zero,List.getElem?_cons_succ]
    repeat (go_big_quiet_step (fail))
    refine wpQuiet_nil ?_;clear g3 gu1 hne;refine Gen.wpM_only (i:=5) (by kernel_rfl) ?_;refine Gen.mOp_call rfl (by go_simp) 16 _ #[.slice a1 a.1.length b1] (fun w=>by go_simp) rfl ?_;rintro _ ⟨n1,rfl⟩;have D1:Below W7.heap.size W7 (W7.drewN n1):=⟨rfl,rfl,rfl,Nat.le_refl _,fun _ _=>rfl⟩;refine(zBU a1 b1 a.1 _ (rl7.keep D1) (by have:=(zAP HCT.out).2;omega)).mono ?_;rintro e w8 ⟨u3,rfl,k3,hb3⟩;refine⟨_,rfl,⟨⟨w8,Only.below hb3⟩,rfl⟩,?_⟩;obtain⟨pu,qu,rfl,-⟩:=k3.rd;have E3:=Below.step D1 hb3;replace k3:Own w8 W7.heap.size (.slice pu a.1.length qu) a.1:=k3;clear D1 hb3;refine Gen.wpM_only (i:=6) (by kernel_rfl) ?_;refine Gen.mOp_make rfl (by go_simp) ?_;rintro _ ⟨n4,rfl⟩;refine⟨.slice (some ⟨(w8.drewN n4).heap.size,0,none⟩) 1 1,(w8.drewN n4).alloc (.cells #[.slice pu a.1.length qu] 22),by go_simp,⟨⟨_,Only.below (zA _ _)⟩,rfl⟩,?_⟩;have D4:Below w8.heap.size w8 (w8.drewN n4):=⟨rfl,rfl,rfl,Nat.le_refl _,fun _ _=>rfl⟩;have A4:=Arr.new (w8.drewN n4) [.slice pu a.1.length qu] 22;have D5:=Below.step D4 (zA (w8.drewN n4) (.cells #[.slice pu a.1.length qu] 22));generalize (w8.drewN n4).alloc (.cells #[.slice pu a.1.length qu] 22)=w9 at *;generalize (w8.drewN n4).heap.size=g9 at *;replace k3:=k3.stay D5;replace E3:=Below.step E3 D5;clear D4 D5;refine Gen.wpM_only (i:=7) (by kernel_rfl) ?_;refine Gen.mOp_list rfl (by go_simp) (by kernel_rfl) ?_;rintro _ ⟨n5,rfl⟩;have D4:Below w9.heap.size w9 (w9.drewN n5):=⟨rfl,rfl,rfl,Nat.le_refl _,fun _ _=>rfl⟩;replace k3:=k3.stay D4;replace E3:=Below.step E3 D4;replace A4:=A4.stay D4;clear D4;generalize w9.drewN n5=w10 at *;refine zAj rfl (.tmp 72) (.tmp 77) rfl oU7 k3 E3 A4 rfl rfl (by have h1:=hG4.out;have h2:=hsz7.out;omega) (by have:=hS.out.ln.2.1;show _≤_;omega) ?_;intro p6 q6 w11 xs6 fp6 o6 hg6 hin6 hb6;have hon:=Only.grown hg6;rw[← HG.out] at hon;refine⟨rfl,hon,?_⟩;replace AS7:=(AS7.stay E3).other hg6 (fun e=>hGg (by rw[HG.out];exact mem_opt.2 e));replace AU7:=(AU7.stay E3).other hg6 (fun e=>hGu (by rw[HG.out];exact mem_opt.2 e));replace R7:=(R7.stay E3).other hg6 (fun e=>hGr.out (by rw[HG.out];exact mem_opt.2 e));replace A7:=(A7.stay E3).other hg6 (fun e=>hGx.out (by rw[HG.out];exact mem_opt.2 e));have BW11:Below w.heap.size w w11:=(BW7.trans (E3.mono BW7.size)).trans (hb6.mono (by have h2:=HGA.out;have h3:=hz3.out;omega));clear hon hg6 hin6 hb6 k3 E3 A4 BW7 hGg hGu hGr hGx HG oU7 o6 rl7 NE;have hne:=only_some G w11;refine Gen.wpM_more (only_pre G) [8] 1 0 rfl (by kernel_rfl) (by kernel_rfl) (by kernel_rfl) (by kernel_rfl) ?_;simp only[zL,List.getElem?_toArray,List.getElem?_cons_zero,List.getElem?_cons_succ]
    go_simp
    repeat (go_big_quiet_step (fail))
    refine wpQuiet_nil ?_;clear hne;refine Gen.wpM_end (by kernel_rfl) rfl (by kernel_rfl) (by decide) ?_;rintro _ ⟨n7,rfl⟩;have D7:Below w11.heap.size w11 (w11.drewN n7):=⟨rfl,rfl,rfl,Nat.le_refl _,fun _ _=>rfl⟩;replace AS7:=AS7.stay D7;replace AU7:=AU7.stay D7;replace R7:=R7.stay D7;replace A7:=A7.stay D7;replace BW11:=Below.step BW11 D7;clear D7;generalize w11.drewN n7=W12 at *;simp only[List.drop_succ_cons,List.drop_zero];have d3:=zQ (AS7.cell 3) rfl;have f3:=AS7.frozen;have hSl:=AS7.lt;have AS8:=AS7.set 3 (.slice p6 (x.2.2.2.1.length+1) q6);simp only[List.set_cons_zero,List.set_cons_succ] at AS8;have R8:=R7.setOther (a:=⟨g4,3,none⟩) (by show _≠_;have h1:=hzg.out.1;simp;omega) (.slice p6 (x.2.2.2.1.length+1) q6);have A8:=A7.setOther (a:=⟨g4,3,none⟩) (by show _≠_;have h1:=hzg.out.1;simp;omega) (.slice p6 (x.2.2.2.1.length+1) q6);have AU8:=AU7.setOther (a:=⟨g4,3,none⟩) (by show _≠_;have h1:=hzg.out.2;simp;omega) (.slice p6 (x.2.2.2.1.length+1) q6);have BW8:Below w.heap.size w (W12.setCell ⟨g4,3,none⟩ (.slice p6 (x.2.2.2.1.length+1) q6)):=BW11.setCell (p:=⟨g4,3,none⟩) (by show w.heap.size≤g4;have h1:=hzg.out.1;omega) _;have c4:=zQ (A7.cell 4) rfl;have v2:=zQ (AU7.cell 2) rfl;have v4:=zQ (AU7.cell 4) rfl;have KL:=zGQ x.2.2.2.2 (a.2.1.1,a.2.1.2.2) p5 q5 _ (HR5.out _ BW8) hS.out.rs (by have:=hS.out.ln.2.2;omega);go_wp2_with fail;refine KL.mono ?_;clear KL c4 v2 v4 d3 f3 hSl AS7 AU7 R7 A7 BW11 A8;generalize W12.setCell ⟨g4,3,none⟩ (.slice p6 (x.2.2.2.1.length+1) q6)=W13 at *;clear W12;rintro e w14 ⟨vh,rfl,hvh,hb⟩;obtain⟨ph,nh,qh,rfl⟩:=zFh hvh;have AS9:=AS8.stay hb;have R9:=R8.stay hb;have AU9:=AU8.stay hb;have BW9:=Below.step BW8 hb;clear AS8 R8 AU8 BW8 hb hvh;have d4:=zQ (AS9.cell 4) rfl;have f4:=AS9.frozen;have hSl:=AS9.lt;have ASx:=AS9.set 4 (.slice ph nh qh);simp only[List.set_cons_zero,List.set_cons_succ] at ASx;have R:=R9.setOther (a:=⟨g4,4,none⟩) (by show _≠_;have h1:=hzg.out.1;simp;omega) (.slice ph nh qh);have BW:Below w.heap.size w (w14.setCell ⟨g4,4,none⟩ (.slice ph nh qh)):=BW9.setCell (p:=⟨g4,4,none⟩) (by show w.heap.size≤g4;have h1:=hzg.out.1;omega) _;have d0:=zQ (AS9.cell 0) rfl;have d1:=zQ (AS9.cell 1) rfl;have d2:=zQ (AS9.cell 2) rfl;have d3:=zQ (AS9.cell 3) rfl;have v2:=zQ (AU9.cell 2) rfl;clear AS9 R9 AU9 BW9 ASx;go_wp2_with (refine wpList_store_row rfl 31 _ _ rfl (w.heap.size+1) #[.int .i64 0,.int .i64 a.2.1.1,.slice s1 x.1.length t1,.int .i64 x.2.1,.slice uu un ut,.slice p6 (x.2.2.2.1.length+1) q6,.slice ph nh qh] rfl rfl 31 #[.int .i64 0,.int .i64 0,.slice none 0 0,.int .i64 0,.slice none 0 0,.slice none 0 0,.slice none 0 0] R hres.out rfl (by simp[Value.oneCell']) ?_);exact bodyPost_ret (v:=.agg #[.int .i64 0,.int .i64 a.2.1.1,.slice s1 x.1.length t1,.int .i64 x.2.1,.slice uu un ut,.slice p6 (x.2.2.2.1.length+1) q6,.slice ph nh qh]) (results_cell_row Tryz.results10 _ _ (w.heap.size+1) 31 _ (0,0) _ rfl (R.row [.int .i64 0,.int .i64 a.2.1.1,.slice s1 x.1.length t1,.int .i64 x.2.1,.slice uu un ut,.slice p6 (x.2.2.2.1.length+1) q6,.slice ph nh qh]) Tryz.underlying31 rfl hres.out) rfl ⟨_,by rw[hz.out],Below.row BW (Nat.le_succ _) _⟩
end Go.Proofs.YtbaldmmbphbinaaGreatDoor
namespace Go.Proofs.YtbaldmmbphbinaaGreatDoor
theorem zJ1 {x:SesD} {c:List UInt8} (h:acC hdC x c=0):Ses x∧ctxB c=true∧hsB x.2.2.1 c=false∧hsB x.2.2.2.1 c=false∧x.2.2.1.length<6:=by
  unfold acC at h
  by_cases h1:seF hdC x=0
  · rw[if_pos h1] at h;cases h2:ctxB c
    · rw[h2] at h;cases h
    · rw[h2,if_pos rfl] at h
      by_cases h3:hsB x.2.2.1 c=true∨hsB x.2.2.2.1 c=true
      · rw[if_pos h3] at h;cases h
      · rw[if_neg h3] at h
        by_cases h4:6≤x.2.2.1.length∨40≤x.2.2.1.length+x.2.2.2.1.length
        · rw[if_pos h4] at h;cases h
        · refine⟨seC_iff.1 h1,rfl,?_,?_,by omega⟩
          · cases hh:hsB x.2.2.1 c
            · rfl
            · exact absurd (.inl hh) h3
          · cases hh:hsB x.2.2.2.1 c
            · rfl
            · exact absurd (.inr hh) h3
  · rw[if_neg h1] at h;exact absurd h h1
theorem zMY {x:SesD} {c:List UInt8} (h:acC hdC x c=0):seF hdC (askN x c)=0∧acC hdC (askN x c) c=6∧(askN x c).2.2.1.length=x.2.2.1.length+1∧(askN x c).2.2.2.2.length=x.2.2.2.2.length:=by
  obtain⟨h1,h2,h3,h4,h5⟩:=zJ1 h;have hs:=h1.ask h2 h3 h4 h5;have hf:=seC_iff.2 hs;refine⟨hf,?_,by show(x.2.2.1++[c]).length=_;simp,rfl⟩;rw[acC,if_pos hf,h2,if_pos rfl,if_pos (.inl (hsB_iff.2 (show c∈x.2.2.1++[c] from List.mem_append_right _ (List.mem_singleton.2 rfl))))]
theorem zG4 {y:SesD} {l:List zH} {s:List zO} {now:Int} {d:List UInt8} (h:haC hdC y l s now d=0):Ses y∧caC y.1 (3-y.2.1) l s now d=0∧hlC y ((raR d).getD zeroA)=0:=by
  unfold haC at h
  by_cases h1:seF hdC y=0
  · rw[if_pos h1] at h
    by_cases h2:caC y.1 (3-y.2.1) l s now d=0
    · rw[if_pos h2] at h;exact⟨seC_iff.1 h1,h2,h⟩
    · rw[if_neg h2] at h;exact absurd h h2
  · rw[if_neg h1] at h;exact absurd h h1
theorem zMZ {y:SesD} {l:List zH} {s:List zO} {now:Int} {d:List UInt8} {a:zAq} (h:haC hdC y l s now d=0) (ha:raR d=some a):
    seF hdC (ansN y a)=0∧haC hdC (ansN y a) l s now d=8∧(ansN y a).2.2.2.1.length=y.2.2.2.1.length+1∧(ansN y a).2.2.1.length+1=y.2.2.1.length∧hoB hdS (ansN y a) a.2.1.1 now=true∧(0≤a.2.1.1∧a.2.1.1≤100):=by
  obtain⟨h1,h2,h3⟩:=zG4 h;rw[ha] at h3;replace h3:hlC y a=0:=h3;obtain⟨b,hb,hok,hcx,hhk⟩:=zJ0 h2;have e:a=b:=Option.some.inj (ha.symm.trans hb);subst e;have hs:=h1.ans h3 hok;have hf:=seC_iff.2 hs
  have hm:a.1∈y.2.2.1:=by
    cases hh:hsB y.2.2.1 a.1
    · unfold hlC at h3;rw[hh] at h3;cases h3
    · exact hsB_iff.1 hh
  have hno:hsB (ansN y a).2.2.1 a.1=false:=hsB_no.2 (fun k=>(wi_mem.1 (show a.1∈wiN y.2.2.1 a.1 from k)).2 rfl);refine⟨hf,?_,by show(y.2.2.2.1++[a.1]).length=_;simp,zJZ (List.nodup_append.1 h1.nd).1 hm,?_,?_⟩
  · have h2':caC (ansN y a).1 (3-(ansN y a).2.1) l s now d=0:=h2;rw[haC,if_pos hf,if_pos h2',ha]
    show hlC (ansN y a) a=8
    unfold hlC;rw[hno];rfl
  · rw[hoB,if_pos (seS_iff.2 hs)]
    show(zAO y.2.2.2.2 (a.2.1.1,a.2.1.2.2)).any _=true
    rw[List.any_eq_true];refine⟨_,hold_mem.2 (.inl rfl),?_⟩;have:=(zMj hhk).2.2.1;simp[this]
  · have:=zBc hok;omega
end Go.Proofs.YtbaldmmbphbinaaGreatDoor
