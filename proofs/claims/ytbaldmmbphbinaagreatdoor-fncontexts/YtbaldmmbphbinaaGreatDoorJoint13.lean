import Derived.Test.YtbaldmmbphbinaaGreatDoorSpread
import Derived.Test.YtbaldmmbphbinaaGreatDoorJoint10
import Derived.Great.BuildSlice
import Derived.Test.YtbaldmmbphbinaaGreatDoorJoint2
import Derived.Test.YtbaldmmbphbinaaGreatDoorJoint3
set_option maxHeartbeats 2000000
set_option maxRecDepth 4000
namespace Go.Proofs.YtbaldmmbphbinaaGreatDoor
open Go.ChangeShapes Go.WideShapes Go.ChangeAt Go.RowKit
theorem zBJ {P:Program} {ops:Array Oper} {C:World→Prop} {Q:Act→Prop} {a:Act} {o:Oper} {rest:List Oper} (hgd:o.guard=none) (ty:TypeId) (x:Operand) (ho:o.op=.load ty x)
  (g:Nat) (hx:a.eval x=.pointer (some ⟨g,0,none⟩)) (t:TypeId) (cs:Array Value) (fr:Nat×Nat) (d:TypeDesc) (hg:∀ w,C w→w.heap[g]?=some (.cells cs t fr))
  (hu:P.underlying ty=some d) (hd:(match d with | .struct _ | .array _ _=>true | _=>false)=true) (hi:(P.info? ty).map (·.size)=some cs.size)
  (h:wpQuiet P ops C Q rest (a.put o.dst (.agg cs))):wpQuiet P ops C Q (o :: rest) a:=by
 unfold wpQuiet;rw[if_pos (by simp[Region.wanted,hgd])];refine⟨.agg cs,fun w hw=>?_,h⟩;unfold Oper.quietAt execOp;simp only[ho,hx,Instr.loadAt,Instr.sureAddr,Sem.run_bind,Sem.run_pure,Result.andThen_ok,run_loadVar_row w g t ty cs fr d (hg w hw) hu hd hi];exact⟨rfl,rfl⟩
theorem zBK {P:Program} {ops:Array Oper} {C:World→Prop} {Q:Exit→Act→World→Prop} {a:Act} {w:World} {id:Nat} (n:Nat) {o:Oper} (hn:ops.size=n+1) (ho:ops[n]?=some o) (hgd:o.guard=none)
  (hm:P.follows .mixedOrders=true) (hs:Region.noSelect ops=true) (hB:lexT .any ops n 0 (Array.replicate ops.size false)=true) (hw:zCd .any ops n=true) (hC:C { w with drawn:=w.drawn+1 })
  (h:∀ Z:Act→Prop,(∀ a',(∀ w',C w'→∀ K:Act→World→Prop,(∀ a'' w'',Q .normal a'' w''→K a'' w'')→o.wp P a' w' K Q)→Z a')→wpQuiet P ops C Z (ops.toList.take n) a):(Code.region id ops true).wp P Q a w:=
 zCp n hn ho hgd hm hs hB hw hC (h _ (fun _ h=>h))
def keysI:List Int:=keysN.map Int.ofNat
def keysV:List Value:=keysI.map (Value.int .i64)
theorem zKQ {i:Nat} (h:i<64):keysV[i]?=some (.int .i64 (keysN.getD i 0:Nat)):=by
 have hl:i<keysN.length:=h;simp[keysV,keysI,hl]
theorem zKR (w:World):Calls Tryz.prog 85 #[] w fun e w'=>e=.returned (.agg keysV.toArray)∧Below w.heap.size w w':=by
 have hzv:Hid (∀ w,(zeroValue 113).run Tryz.prog w=.ok (.agg zI.toArray) w):=(zero_of_info zBl).1
 have hsz:Hid ((Tryz.prog.info? 113).map (·.size)=some keysV.toArray.size):=by show _=_;rw[(zero_of_info zBl).2];rfl
 have hA:=(Arr.new w zI 113);go_enter Tryz.func85,Tryz.ntmps85
 go_wp2_with (first
  | refine zS rfl 113 rfl _ hzv.out w.heap.size rfl ?_
  | refine wpList_buildFlatArrTo rfl 113 2 64 _ rfl .i64 keysI _ rfl Tryz.underlying113 (by kernel_rfl) (by kernel_rfl) (by kernel_rfl) ?_
  | refine wpList_store_row rfl 113 (.tmp 0) (.tmp 1) rfl w.heap.size keysV.toArray rfl rfl 113 zI.toArray hA hsz.out rfl (by kernel_rfl) ?_)
 exact bodyPost_ret (v:=.agg keysV.toArray) (results_cell_row Tryz.results85 _ _ w.heap.size 113 _ (0,0) _ rfl (hA.row _) Tryz.underlying113 rfl hsz.out) rfl ⟨rfl,Below.row (zA _ _) (Nat.le_refl _) _⟩
theorem zLt (s t:S8):(s.list.map i64v).toArray.size=t.i64.size:=rfl
theorem zLu (s:S8):s.i64.all (·.oneCell')=true:=by simp[S8.i64];exact⟨rfl,rfl,rfl,rfl,rfl,rfl,rfl,rfl⟩
theorem zDk (bs:List UInt8) (k:Nat):zAL bs (k+1)=addS (zAL bs k) (zAK (zAJ ((bs.drop (64*k)).take 64)) (zAL bs k) 64):=rfl
theorem zDl (ws:List Nat) (s:S8) (k:Nat):zAK ws s (k+1)=zBM (zAK ws s k) (ws.getD k 0) (keysN.getD k 0):=rfl
theorem zI6 (w:World):Calls Tryz.prog 86 #[] w fun e w'=>e=.returned (.agg startN.i64)∧Below w.heap.size w w':=by
 go_enter Tryz.func86,Tryz.ntmps86;go_wp2;exact bodyPost_ret (v:=.agg startN.i64) (by simp[results,Tryz.results86,go_sem];rfl) rfl ⟨rfl,zA _ _⟩
def addV (f:Nat→Value) (s t:S8) (j:Nat):List Value:=(List.range 8).map fun i=>f (if i<j then (s.list.getD i 0+t.list.getD i 0) % 4294967296 else s.list.getD i 0)
theorem zI7 (f:Nat→Value) (s t:S8):addV f s t 0=s.list.map f:=rfl
theorem zHB (f:Nat→Value) (s t:S8):addV f s t 8=(addS s t).list.map f:=rfl
theorem lt8 {j:Nat} (h:j<8):j=0∨j=1∨j=2∨j=3∨j=4∨j=5∨j=6∨j=7:=by omega
theorem zHC (f:Nat→Value) (s t:S8) {j:Nat} (h:j<8):(addV f s t j).set j (f ((s.list.getD j 0+t.list.getD j 0) % 4294967296))=addV f s t (j+1):=by
 rcases lt8 h with rfl | rfl | rfl | rfl | rfl | rfl | rfl | rfl <;> rfl
theorem zI8 (f:Nat→Value) (s t:S8) {j:Nat} (h:j<8):(addV f s t j)[j]?=some (f (s.list.getD j 0)):=by
 rcases lt8 h with rfl | rfl | rfl | rfl | rfl | rfl | rfl | rfl <;> rfl
theorem zD1 (f:Nat→Value) (s:S8) {j:Nat} (h:j<8):(s.list.map f)[j]?=some (f (s.list.getD j 0)):=by
 rcases lt8 h with rfl | rfl | rfl | rfl | rfl | rfl | rfl | rfl <;> rfl
def takeB (xs:List Nat) (j:Nat):List UInt8:=(xs.take j).flatMap (fun x=>putB x 4)
theorem zF0 (s:S8) {j:Nat} (h:j≤8):(takeB s.list j).length=4*j:=by
 rcases(show j<8∨j=8 by omega) with h | rfl
 ·rcases lt8 h with rfl | rfl | rfl | rfl | rfl | rfl | rfl | rfl <;> simp[takeB,S8.list,zZ]
 ·simp[takeB,S8.list,zZ]
theorem zEt (s:S8) {j:Nat} (h:j<8):takeB s.list j++putB (s.list.getD j 0) 4=takeB s.list (j+1):=by
 rcases lt8 h with rfl | rfl | rfl | rfl | rfl | rfl | rfl | rfl <;> simp[takeB,S8.list]
theorem zF1 (s:S8):takeB s.list 8=zDd s:=by simp[takeB,zDd,S8.list]
theorem zEu (bs:List UInt8):(padN bs).length=64*((bs.length+72) / 64):=by rw[zBx];omega
theorem zI9:(Tryz.prog.info? 115).map (fun i=>(i.zero,i.size))=some (some (.agg (List.replicate 8 (Value.int .i64 0)).toArray),8):=by kernel_rfl
theorem zB0 (p:Option Addr) (q:Nat) (bs:List UInt8) (w:World) (hr:Rd w p q bs) (hl:bs.length≤600):
  Calls Tryz.prog 63 #[.slice p bs.length q] w fun e w'=>∃ u,e=.returned u∧Own w' w.heap.size u (zX bs)∧Below w.heap.size w w':=by
 have hzv:Hid (∀ w,(zeroValue 113).run Tryz.prog w=.ok (.agg zI.toArray) w):=(zero_of_info zBl).1;have hzs:Hid (∀ w,(zeroValue 115).run Tryz.prog w=.ok (.agg (List.replicate 8 (Value.int .i64 0)).toArray) w):=(zero_of_info zI9).1
 have hsz:Hid ((Tryz.prog.info? 113).map (·.size)=some keysV.toArray.size):=by show _=_;rw[(zero_of_info zBl).2];rfl
 have hs8:Hid (∀ s:S8,(Tryz.prog.info? 115).map (·.size)=some s.i64.size):=by intro s;rw[(zero_of_info zI9).2];rfl
 go_enter Tryz.func63,Tryz.ntmps63;go_wp2_with fail;refine(zKR _).mono ?_;rintro e w1 ⟨rfl,hb1⟩;have A1:=Arr.new w1 zI 113;have A2:=A1.row keysV
 go_wp2_with (first
  | refine zS rfl 113 rfl _ hzv.out w1.heap.size rfl ?_
  | refine wpList_store_row rfl 113 (.tmp 3) (.tmp 13) rfl w1.heap.size keysV.toArray rfl rfl 113 zI.toArray A1 hsz.out rfl (by kernel_rfl) ?_)
 refine(zI6 _).mono ?_;rintro e w2 ⟨rfl,hb2⟩;replace A2:=A2.stay hb2;have BW:Below w.heap.size w w2:=Below.step (Below.row (Below.mk hb1 _) hb1.size _) hb2;have hg3:Hid (w.heap.size≤w1.heap.size):=hb1.size;clear hb1 hb2 A1;generalize w1.heap.size=g3 at *;clear w1;have B1:=Arr.new w2 (List.replicate 8 (Value.int .i64 0)) 115;have B2:=B1.row (startN.list.map i64v);have hlt3:Hid (g3<w2.heap.size):=A2.lt;replace A2:=(A2.old _ (.cells (List.replicate 8 (Value.int .i64 0)).toArray 115)).rowOther (Nat.ne_of_lt A2.lt) startN.i64;have BX:Below w.heap.size w ((w2.alloc (.cells (List.replicate 8 (Value.int .i64 0)).toArray 115)).setRow w2.heap.size startN.i64):=Below.row (Below.mk BW _) BW.size _;have hBg:Hid (w.heap.size≤w2.heap.size):=BW.size;have hsS:Hid ((Tryz.prog.info? 115).map (·.size)=some startN.i64.size):=hs8.out _;clear BW
 go_wp2_with (first
  | refine zS rfl 115 rfl _ hzs.out w2.heap.size rfl ?_
  | refine wpList_store_row rfl 115 (.tmp 4) (.tmp 14) rfl w2.heap.size startN.i64 rfl rfl 115 (List.replicate 8 (Value.int .i64 0)).toArray B1 hsS.out rfl (by kernel_rfl) ?_)
 refine(zLp p q bs _ (hr.keep BX) hl).mono ?_;rintro e w3 ⟨u,rfl,hu,hb3⟩;replace A2:=A2.stay hb3;replace B2:=B2.stay hb3;have BW:Below w.heap.size w w3:=Below.step BX hb3;rw[size_setRow,zD] at hu;clear BX hb3 B1 hsS hr;have hn:Hid ((padN bs).length=64*((bs.length+72) / 64)):=zEu bs
 have hn1:1≤(bs.length+72) / 64:=by omega
 have hn2:(bs.length+72) / 64≤11:=by omega
 obtain⟨a5,c5,rfl,hrd5⟩:=hu.rd;obtain⟨b5,o5,rfl,-⟩:=hrd5.2.2.2 (by rw[hn.out];omega)
 have hc1:64*((bs.length+72) / 64)≤c5:=by have:=hrd5.1;rw[hn.out] at this;exact this
 have hc2:c5≤2 ^ 63-1:=hrd5.2.1;clear hrd5;rw[hn.out] at hu ⊢;have HD:Hid (zX bs=zDd (zAL (padN bs) ((bs.length+72) / 64))):=rfl;generalize (bs.length+72) / 64=n at *;generalize w2.heap.size=g4 at *;clear w2;clear hl;go_wp2
 go_loopw [6] (fun i wr=>∃ k:Nat,k≤n∧i=.int .i64 (64*(k:Int))∧Arr wr g3 113 keysV∧Arr wr g4 115 ((zAL (padN bs) k).list.map i64v)∧Own wr (g4+1) (.slice (some ⟨b5,o5,none⟩) (64*n) c5) (padN bs)∧Below w.heap.size w wr)
  (fun i _=>64*n-(intOf i).toNat)
 case atStart=>exact⟨0,Nat.zero_le _,rfl,A2,B2,hu,BW⟩
 case round=>
  clear A2 B2 hu BW;obtain⟨k,hk,rfl,A,B,hu,BW⟩:=hrel
  by_cases hlt:k<n
  ·have hrd:Rd wr (some ⟨b5,o5,none⟩) c5 (padN bs):=by have h:=hu;rw[← hn.out] at h;exact Rd.own h
   have hcut:=hrd.cut (64*k) 64 (c5-64*k) (by rw[hn.out];omega) (by omega) (by have:=hrd.2.1;omega)
   have h64:Hid ((((padN bs).drop (64*k)).take 64).length=64):=by show _=_;have:=hn.out;simp;omega
   have HB:Hid (zAL (padN bs) (k+1)=addS (zAL (padN bs) k) (zAK (zAJ (((padN bs).drop (64*k)).take 64)) (zAL (padN bs) k) 64)):=zDk _ _;have hok:Hid ((zAL (padN bs) k).ok):=zCa (padN bs) k;generalize zAL (padN bs) k=st at *;clear hrd;go_wp2_with fail;refine(zH0 b5 (o5+64*k) (c5-64*k) _ _ hcut h64.out).mono ?_;rintro e w5 ⟨rfl,hb5⟩;replace A:=A.stay hb5;replace B:=B.stay hb5;replace hu:=hu.stay hb5;replace BW:=Below.step BW hb5;have hge:Hid (g4<w5.heap.size):=B.lt;have hge3:Hid (g3<w5.heap.size):=A.lt;have hgeu:Hid (∀ k,(Value.slice (some ⟨b5,o5,none⟩) (64*n) c5).ownBlock=some k→k<w5.heap.size):=hu.lt;have hgew:Hid (w.heap.size≤w5.heap.size):=BW.size;have hwl:Hid ((zAJ (((padN bs).drop (64*k)).take 64)).length=64):=zAl _;have hwok:Hid (Words (zAJ (((padN bs).drop (64*k)).take 64))):=zHx _;clear hb5 hcut h64;generalize zAJ (((padN bs).drop (64*k)).take 64)=ws at *
   have hszW:Hid ((Tryz.prog.info? 113).map (·.size)=some (ws.map i64v).toArray.size):=by show _=_;rw[(zero_of_info zBl).2];simp[hwl.out]
   have hlW:Hid (zI.toArray.size=(ws.map i64v).toArray.size):=by show _=_;simp[zIj,hwl.out]
   have hsS:Hid ((Tryz.prog.info? 115).map (·.size)=some (st.list.map i64v).toArray.size):=hs8.out st;have C1:=Arr.new w5 zI 113;have C2:=C1.row (ws.map i64v);replace A:=(A.old _ (.cells zI.toArray 113)).rowOther (Nat.ne_of_lt A.lt) (ws.map i64v).toArray;replace B:=(B.old _ (.cells zI.toArray 113)).rowOther (Nat.ne_of_lt B.lt) (ws.map i64v).toArray;replace hu:=(hu.stay (zA _ (.cells zI.toArray 113))).row (fun k hk=>Nat.ne_of_lt (hu.lt k hk)) (ws.map i64v).toArray;replace BW:=Below.row (Below.mk BW (.cells zI.toArray 113)) BW.size (ws.map i64v).toArray
   have hW:Hid (((w5.alloc (.cells zI.toArray 113)).setRow w5.heap.size (ws.map i64v).toArray).heap.size=w5.heap.size+1):=by show _=_;rw[size_setRow,zD]
   have D1:=Arr.new ((w5.alloc (.cells zI.toArray 113)).setRow w5.heap.size (ws.map i64v).toArray) (List.replicate 8 (Value.int .i64 0)) 115;rw[hW.out] at D1
   go_wp2_with (first
    | refine zS rfl 113 rfl _ hzv.out w5.heap.size rfl ?_
    | refine wpList_store_row rfl 113 (.tmp 7) (.tmp 28) rfl w5.heap.size (ws.map i64v).toArray rfl rfl 113 zI.toArray C1 hszW.out hlW.out (by simp[i64v];intros;rfl) ?_
    | refine wpList_load_row rfl 115 (.tmp 4) rfl g4 rfl 115 (st.list.map i64v).toArray (0,0) _ B Tryz.underlying115 rfl hsS.out ?_
    | refine zS rfl 115 rfl _ hzs.out (w5.heap.size+1) hW.out ?_
    | refine wpList_store_row rfl 115 (.tmp 8) (.tmp 29) rfl (w5.heap.size+1) (st.list.map i64v).toArray rfl rfl 115 (List.replicate 8 (Value.int .i64 0)).toArray D1 hsS.out rfl (by kernel_rfl) ?_)
   have D2:=D1.row (st.list.map i64v);replace A:=(A.old _ (.cells (List.replicate 8 (Value.int .i64 0)).toArray 115)).rowOther (g:=g3) (k:=w5.heap.size+1) (Nat.ne_of_lt (hW.out▸A.lt)) (st.list.map i64v).toArray;replace B:=(B.old _ (.cells (List.replicate 8 (Value.int .i64 0)).toArray 115)).rowOther (g:=g4) (k:=w5.heap.size+1) (Nat.ne_of_lt (hW.out▸B.lt)) (st.list.map i64v).toArray;replace C2:=(C2.old _ (.cells (List.replicate 8 (Value.int .i64 0)).toArray 115)).rowOther (g:=w5.heap.size) (k:=w5.heap.size+1) (Nat.ne_of_lt (Nat.lt_succ_self _)) (st.list.map i64v).toArray;replace hu:=(hu.stay (zA _ (.cells (List.replicate 8 (Value.int .i64 0)).toArray 115))).row (g:=w5.heap.size+1) (fun k hk=>Nat.ne_of_lt (hW.out▸hu.lt k hk)) (st.list.map i64v).toArray;replace BW:=Below.row (g:=w5.heap.size+1) (Below.mk BW (.cells (List.replicate 8 (Value.int .i64 0)).toArray 115)) (hW.out▸BW.size) (st.list.map i64v).toArray;clear hW D1 C1 hszW hlW hsS;generalize w5.heap.size=g7 at *
   go_loopw [9] (fun i wr=>∃ j:Nat,j≤64∧i=.int .i64 j∧Arr wr (g7+1) 115 ((zAK ws st j).list.map i64v)∧Arr wr g7 113 (ws.map i64v)∧Arr wr g3 113 keysV∧Arr wr g4 115 (st.list.map i64v)∧Own wr (g4+1) (.slice (some ⟨b5,o5,none⟩) (64*n) c5) (padN bs)∧Below w.heap.size w wr)
    (fun i _=>64-(intOf i).toNat)
   case atStart=>exact⟨0,Nat.zero_le _,rfl,D2,C2,A,B,hu,BW⟩
   case round=>
    clear D2 C2 A B hu BW;obtain⟨j,hj,rfl,D,C,A,B,hu,BW⟩:=hrel
    by_cases hjl:j<64
    ·have hstep:Hid (zAK ws st (j+1)=zBM (zAK ws st j) (ws.getD j 0) (keysN.getD j 0)):=zDl _ _ _;have hokr:Hid ((zAK ws st j).ok):=zCZ ws hok.out j;have bw:Hid (ws.getD j 0<4294967296):=hwok.out.getD j;have bk:Hid (keysN.getD j 0<4294967296):=keysN_ok.getD j;have cW:∀ s:HW wr,s.w.cell? ⟨g7,j,none⟩=some (.int .i64 (ws.getD j 0:Nat)):=HW.at (by rw[C.cell];have:=hwl.out;simp[i64v,show j<ws.length by omega]);have cK:∀ s:HW wr,s.w.cell? ⟨g3,j,none⟩=some (.int .i64 (keysN.getD j 0:Nat)):=HW.at ((A.cell j).trans (zKQ hjl));generalize zAK ws st j=R at *;generalize ws.getD j 0=wd at *;generalize keysN.getD j 0=kd at *;have hne:=HW.some wr;go_wp2_with fail;refine zBK (C:=fun w'=>∃ s:HW wr,w'=s.w) 8 rfl rfl rfl (by kernel_rfl) (by kernel_rfl) (by kernel_rfl) (by kernel_rfl) ⟨⟨wr.drew,(Below.refl _ _).drew⟩,rfl⟩ ?_;intro Z hZ;simp only[List.take_succ_cons,List.take_zero];refine zBJ rfl 115 (.tmp 8) rfl (g7+1) rfl 115 R.i64 (0,0) _ (fun w' h=>by obtain⟨s,rfl⟩:=h;exact D.stay s.h) Tryz.underlying115 rfl (hs8.out R) ?_
     go_simp
     repeat (go_big_quiet_step ((go_at_call 89;exact Calls.stay (zIu R wd kd _ hokr.out bw.out bk.out))))
     refine wpQuiet_nil (hZ _ ?_);rintro w' ⟨s,rfl⟩ K hK;refine wp_store_row 115 (.tmp 8) (.tmp 41) rfl (g7+1) (zBM R wd kd).i64 rfl rfl 115 _ (D.stay s.h) (hs8.out _) (zLt _ _) (zLu _) (hK _ _ ?_);clear cW cK hne;go_wp2;go_roundw
     case rel=>
      exact⟨j+1,by omega,by go_num,by rw[hstep.out];exact(D.stay s.h).row ((zBM R wd kd).list.map i64v),(C.stay s.h).rowOther (Nat.ne_of_lt (Nat.lt_succ_self _)) _,(A.stay s.h).rowOther (by have:=hge3.out;omega) _,(B.stay s.h).rowOther (by have:=hge.out;omega) _,(hu.stay s.h).row (fun k hk=>by have:=hgeu.out k hk;omega) _,Below.row (Below.step BW s.h) (by have:=hgew.out;omega) _⟩
     case measure=>simp[intOf];omega
    ·have e:j=64:=by omega
     subst e;have hokr:Hid ((zAK ws st 64).ok):=zCZ ws hok.out 64;generalize zAK ws st 64=R at *;clear C hjl hj hwok hwl;go_wp2
     go_loopw [10] (fun i wr=>∃ j:Nat,j≤8∧i=.int .i64 j∧Arr wr (g7+1) 115 (R.list.map i64v)∧Arr wr g3 113 keysV∧Arr wr g4 115 (addV i64v st R j)∧Own wr (g4+1) (.slice (some ⟨b5,o5,none⟩) (64*n) c5) (padN bs)∧Below w.heap.size w wr)
      (fun i _=>8-(intOf i).toNat)
     case atStart=>exact⟨0,Nat.zero_le _,rfl,D,A,B,hu,BW⟩
     case round=>
      clear D A B hu BW;obtain⟨j,hj,rfl,D,A,B,hu,BW⟩:=hrel
      by_cases hjl:j<8
      ·have cS:=(B.cell j).trans (zI8 i64v st R hjl);have fS:=B.frozen j;have cR:=(D.cell j).trans (zD1 i64v R hjl);have bS:=(S8.words hok.out).getD j;have bR:=(S8.words hokr.out).getD j;have RS:=B.set j (i64v ((st.list.getD j 0+R.list.getD j 0) % 4294967296));rw[zHC i64v st R hjl] at RS;have RD:=D.setOther (a:=⟨g4,j,none⟩) (by show g7+1≠g4;have:=hge.out;omega);have RA:=A.setOther (a:=⟨g4,j,none⟩) (by show g3≠g4;have:=hlt3.out;omega)
       have RU:=fun v=>hu.set (a:=⟨g4,j,none⟩) (Nat.lt_succ_self g4) v
       have RB:=fun v=>Below.setCell (p:=⟨g4,j,none⟩) BW hBg.out v
       unfold i64v at cS cR RS;generalize st.list.getD j 0=x at *;generalize R.list.getD j 0=y at *;clear B D A hu BW;go_wp2
       go_region
       go_wp2;go_roundw
       case rel=>
        have E:(((x:Int)+(y:Int)) % 4294967296)=(((x+y) % 4294967296:Nat):Int):=by omega
        rw[E];exact⟨j+1,by omega,by go_num,RD _,RA _,RS,RU _,Below.drew (RB _)⟩
       case measure=>simp[intOf];omega
      ·have e:j=8:=by omega
       subst e;rw[zHB,← HB.out] at B;go_wp2;go_roundw
       case rel=>
        exact⟨k+1,hlt,by go_num,A,B,hu,BW⟩
       case measure=>simp[intOf];omega
  ·have e:k=n:=by omega
   subst e;have hok:Hid ((zAL (padN bs) k).ok):=zCa (padN bs) k;generalize zAL (padN bs) k=st at *;have O1:=zBz wr (g4+1) B.lt;replace B:=B.old _ (.cells #[] 5);replace BW:=Below.mk BW (.cells #[] 5);clear A hu hk;go_wp2
   go_loopw [11,12] (fun v i wr=>∃ j:Nat,j≤8∧i=.int .i64 j∧Own wr (g4+1) v (takeB st.list j)∧Arr wr g4 115 (st.list.map i64v)∧Below w.heap.size w wr)
    (fun _ i _=>8-(intOf i).toNat)
   case atStart=>exact⟨0,Nat.zero_le _,rfl,O1,B,BW⟩
   case round=>
    clear O1 B BW;obtain⟨j,hj,rfl,ho,B,BW⟩:=hrel;obtain⟨a6,c6,rfl,-⟩:=ho.rd;have hlen:Hid ((takeB st.list j).length=4*j):=zF0 st hj;rw[hlen.out] at ho ⊢
    by_cases hjl:j<8
    ·have cS:=(B.cell j).trans (zD1 i64v st hjl);unfold i64v at cS;have bS:=(S8.words hok.out).getD j;have TS:Hid (takeB st.list j++putB (st.list.getD j 0) 4=takeB st.list (j+1)):=zEt st hjl;generalize st.list.getD j 0=x at *;go_wp2_with fail;refine(zGe _ 4 _ (by omega) (by omega) (by decide) (by decide)).mono ?_;rintro e w7 ⟨u7,rfl,hu7,hb7⟩;rw[Int.toNat_natCast,show(4:Int).toNat=4 from rfl] at hu7;obtain⟨a7,c7,rfl,hrd7⟩:=hu7.rd;replace ho:=ho.stay hb7;replace B:=B.stay hb7;replace BW:=Below.step BW hb7;clear hu7 hb7 cS
     go_wp2_with (first
      | (at_builtin;refine zG rfl (.tmp 61) (.tmp 65) rfl (g4+1) _ (takeB st.list j) rfl ho a7 c7 (putB x 4) rfl hrd7 (by rw[hlen.out,zZ];omega) B.lt ?_;intro v8 w8 ho8 hg8)
      | go_in)
     rw[TS.out] at ho8;have B8:=B.other hg8 (fun e=>by have:=ho.ge _ e;omega);have BW8:=BW.grown hg8 BW.size (fun k hk=>by have:=ho.ge k hk;have:=hBg.out;omega);clear ho hg8 B BW hrd7;go_roundw
     case rel=>exact⟨j+1,by omega,by go_num,ho8,B8,BW8⟩
     case measure=>simp[intOf];omega
    ·have e:j=8:=by omega
     subst e;go_wp2;go_ret;exact⟨_,rfl,by rw[HD.out,← zF1];exact ho.lower (by have:=hBg.out;omega),BW⟩
def xorP (ks:List UInt8) (x:UInt8) (j:Nat):List UInt8:=(ks.take j).map (· ^^^ x)++ks.drop j
theorem zJA (ks:List UInt8) (x:UInt8):xorP ks x 0=ks:=by simp[xorP]
theorem zKS (ks:List UInt8) (x:UInt8):xorP ks x ks.length=ks.map (· ^^^ x):=by simp[xorP]
theorem zLv (ks:List UInt8) (x:UInt8) {j:Nat} (h:j<ks.length):((xorP ks x j).map u8v)[j]?=some (.int .u8 (at8 ks j)):=by
 unfold xorP;rw[List.map_append,List.getElem?_append_right (by simp;omega)];simp[u8v,at8,h,show min j ks.length=j by omega]
theorem zKT (ks:List UInt8) (x:UInt8) {j:Nat} (h:j<ks.length):((xorP ks x j).map u8v).set j (u8v (ks.getD j 0 ^^^ x))=(xorP ks x (j+1)).map u8v:=by
 have hl:(((ks.take j).map (· ^^^ x)).map u8v).length=j:=by simp;omega
 have hg:ks.getD j 0=ks[j]:=by simp[h]
 unfold xorP;rw[List.map_append,List.set_append_right _ _ (by omega),hl,Nat.sub_self,List.drop_eq_getElem_cons h,List.map_cons,List.set_cons_zero,List.take_succ_eq_append_getElem h,hg];simp only[List.map_append,List.map_cons,List.map_nil,List.append_assoc,List.cons_append,List.nil_append]
theorem zCR (a b:UInt8):bits .xor .u8 (a.toNat:Int) (b.toNat:Int)=((a ^^^ b).toNat:Int):=by
 rw[u8_xor_nat _ _ a.toNat_lt b.toNat_lt,UInt8.toNat_xor]
def keyZ (key:List UInt8):List UInt8:=key++zs (64-key.length)
theorem zHD {key:List UInt8} (h:key.length≤64):(keyZ key).length=64:=by simp[keyZ,zA3];omega
theorem zEF (key:List UInt8) (x:UInt8):zCF key x=(keyZ key).map (· ^^^ x):=rfl
theorem zHE {w:World} {g:Nat} {t:TypeId} {key:List UInt8} (h:Hid (w.heap[g]?=some (.cells (splice ((zs 64).map u8v) 0 (key.map u8v)).toArray t (0,0)))):Arr w g t ((keyZ key).map u8v):=by
 have e:splice ((zs 64).map u8v) 0 (key.map u8v)=(keyZ key).map u8v:=by
  simp only[splice,List.take_zero,List.nil_append,Nat.zero_add,List.length_map,keyZ,List.map_append,zs,← List.map_drop,List.drop_replicate]
 unfold Arr;rw[← e];exact h.out
theorem zF2 (p:Option Addr) (q:Nat) (key:List UInt8) (x:UInt8) (xi:Int) (hx:xi=(x.toNat:Int)) (w:World) (hr:Rd w p q key) (hl:key.length≤64):
  Calls Tryz.prog 111 #[.slice p key.length q,.int .u8 xi] w fun e w'=>∃ u,e=.returned u∧Own w' w.heap.size u (zCF key x)∧Below w.heap.size w w':=by
 subst hx;obtain⟨i0,hi,hz0,hz1,hz2⟩:=info_parts zDq;have HR:Hid (Rd w p q key):=hr;have HL:Hid ((keyZ key).length=64):=zHD hl
 have HI:Hid ((Tryz.prog.info? 5).map (·.size)=some 1):=by show _=_;rw[hi];simp[hz1]
 clear hr;go_enter Tryz.func111,Tryz.ntmps111
 go_wp2_with (first
  | (at_make;refine wpList_make_full _ rfl (.const (.int .i64 64)) (.const (.int .i64 64)) 22 rfl w.heap.size 5 i0 (.int .u8 0) 1 Tryz.underlying22 hi hz0 hz1 .i64 .i64 _ _ 64 rfl rfl rfl rfl (by rw[hz2];decide) (by unfold maxLen;decide) (Nat.le_refl _) ?_;intro w1 hown hgrow;have hA1:=(zAT hown).arr (zA3 64);have hb1:Below w.heap.size w w1:=(Below.refl _ _).grown hgrow (Nat.le_refl _) (fun k hk=>by simp at hk))
  | (refine wpList_copy_splice rfl (.tmp 8) (.tmp 9) 22 22 rfl 5 Tryz.underlying22 HI.out _ _ _ _ _ _ rfl rfl w.heap.size 0 ((zs 64).map u8v) 5 hA1 (key.map u8v) (by rw[List.length_map];exact(Nat.min_eq_left (by omega)).symm) (fun hp=>⟨rfl,(HR.out.keep hb1).addr (by simpa using hp)⟩) (by simp[zA3];omega) (by intro u hu;obtain⟨n,-,rfl⟩:=List.mem_map.1 hu;rfl) w.heap.size w hb1 (Nat.le_refl _) ?_;intro w2 hA2 hb2;replace hA2:=zHE hA2)
  | go_in)
 have HE:Hid (zCF key x=(keyZ key).map (· ^^^ x)):=zEF key x;clear hA1 hb1 HR hown hgrow hi hz0 hz1 hz2
 go_loopw [6] (fun i wr=>∃ j:Nat,j≤64∧i=.int .i64 j∧Arr wr w.heap.size 5 ((xorP (keyZ key) x j).map u8v)∧Below w.heap.size w wr)
  (fun i _=>64-(intOf i).toNat)
 case atStart=>exact⟨0,Nat.zero_le _,rfl,by rw[zJA];exact hA2,hb2⟩
 case round=>
  clear hA2 hb2;obtain⟨j,hj,rfl,A,BW⟩:=hrel
  by_cases hjl:j<64
  ·have hjk:j<(keyZ key).length:=by rw[HL.out];exact hjl
   have cx:=(A.cell j).trans (zLv (keyZ key) x hjk);have fx:=A.frozen j;have R:=A.set j (u8v ((keyZ key).getD j 0 ^^^ x));rw[zKT _ _ hjk] at R
   have RB:=fun v=>Below.setCell (p:=⟨w.heap.size,j,none⟩) BW (Nat.le_refl _) v
   have hxo:=zCR ((keyZ key).getD j 0) x;unfold at8 at cx;unfold u8v at R;generalize (keyZ key).getD j 0=y at *;clear A;go_wp2;go_roundw
   case rel=>exact⟨j+1,by omega,by go_num,R,RB _⟩
   case measure=>simp[intOf];omega
  ·have e:j=64:=by omega
   subst e
   have hl2:(xorP (keyZ key) x 64).length=64:=by simp[xorP,HL.out]
   have e2:xorP (keyZ key) x 64=zCF key x:=by rw[HE.out,← HL.out];exact zKS _ _
   rw[e2] at A hl2;have ho:=A.own (Nat.le_refl _) (by rw[hl2];decide);rw[hl2] at ho;go_wp2;go_ret;exact⟨_,rfl,ho,BW⟩
theorem zJB (p p2:Option Addr) (q q2:Nat) (key data:List UInt8) (w:World) (hr:Rd w p q key) (hr2:Rd w p2 q2 data) (hl:key.length≤64) (hl2:data.length≤536):
  Calls Tryz.prog 92 #[.slice p key.length q,.slice p2 data.length q2] w fun e w'=>∃ u,e=.returned u∧Own w' w.heap.size u (macN key data)∧Below w.heap.size w w':=by
 obtain⟨b1,hb1⟩:∃ b,Hid (b=zCF key 54):=⟨_,rfl⟩;obtain⟨b2,hb2⟩:∃ b,Hid (b=zCF key 92):=⟨_,rfl⟩
 have HE:Hid (macN key data=zX (b2++zX (b1++data))):=by show _=_;rw[hb1.out,hb2.out];rfl
 have L1:Hid (b1.length=64):=by show _=_;rw[hb1.out];exact zCb _ hl
 have L2:Hid (b2.length=64):=by show _=_;rw[hb2.out];exact zCb _ hl
 have C1:Hid (∀ w,Rd w p q key→Calls Tryz.prog 111 #[.slice p key.length q,.int .u8 54] w fun e w'=>∃ u,e=.returned u∧Own w' w.heap.size u b1∧Below w.heap.size w w'):=fun w hr=>by rw[hb1.out];exact zF2 p q key 54 _ rfl _ hr hl
 have C2:Hid (∀ w,Rd w p q key→Calls Tryz.prog 111 #[.slice p key.length q,.int .u8 92] w fun e w'=>∃ u,e=.returned u∧Own w' w.heap.size u b2∧Below w.heap.size w w'):=fun w hr=>by rw[hb2.out];exact zF2 p q key 92 _ rfl _ hr hl
 clear hb1 hb2;have HR:Hid (Rd w p q key):=hr;clear hr;go_enter Tryz.func92,Tryz.ntmps92;go_wp2_with fail;refine(C1.out _ HR.out).mono ?_;rintro e w1 ⟨u1,rfl,k1,hb1⟩;obtain⟨p3,q3,rfl,-⟩:=k1.rd;have BW:=hb1;replace hr2:=hr2.keep hb1;clear hb1;go_wp2_with (at_builtin;refine zG rfl (.tmp 7) (.tmp 8) rfl w.heap.size _ b1 rfl k1 p2 q2 data rfl hr2 (by have:=L1.out;omega) BW.size ?_;intro v2 w2 k2 hg2);replace BW:=BW.grown hg2 BW.size (fun k hk=>k1.ge k hk);obtain⟨p4,q4,rfl,rd4⟩:=k2.rd;clear k1 hg2 hr2 k2;refine(zB0 p4 q4 (b1++data) _ rd4 (by have:=L1.out;simp;omega)).mono ?_;rintro e w3 ⟨u3,rfl,k3,hb3⟩;replace BW:=Below.step BW hb3;have HD:Hid ((zX (b1++data)).length=32):=zAZ _;generalize zX (b1++data)=d1 at *;obtain⟨p5,q5,rfl,rd5⟩:=k3.rd;clear rd4 hb3 k3;go_wp2_with fail;refine(C2.out _ (HR.out.keep BW)).mono ?_;rintro e w4 ⟨u4,rfl,k4,hb4⟩;obtain⟨p6,q6,rfl,-⟩:=k4.rd;have hz:Hid (w.heap.size≤w3.heap.size):=BW.size;replace BW:=Below.step BW hb4;replace rd5:=rd5.keep hb4;have hz4:=hb4.size;clear hb4;go_wp2_with (at_builtin;refine zG rfl (.tmp 12) (.tmp 13) rfl w3.heap.size _ b2 rfl k4 p5 q5 d1 rfl rd5 (by have:=L2.out;have:=HD.out;omega) hz4 ?_;intro v6 w6 k6 hg6);replace BW:=BW.grown hg6 BW.size (fun k hk=>by have:=k4.ge k hk;have:=hz.out;omega);obtain⟨p7,q7,rfl,rd7⟩:=k6.rd;clear k4 hg6 rd5 k6 hz4;refine(zB0 p7 q7 (b2++d1) _ rd7 (by have:=L2.out;have:=HD.out;simp;omega)).mono ?_;rintro e w8 ⟨u8,rfl,k8,hb8⟩;have hz8:=BW.size;replace BW:=Below.step BW hb8;go_wp2;go_ret;exact⟨_,rfl,by rw[HE.out];exact k8.lower hz8,BW⟩
theorem Own.cut {w:World} {B:Nat} {a:Option Addr} {m cap:Nat} {bs:List UInt8} (h:Own w B (.slice a m cap) bs) (k:Nat) (hk:k≤bs.length):Own w B (.slice a k cap) (bs.take k):=by
 have hl:(bs.take k).length=k:=by simp;omega
 obtain⟨h1,h2⟩:=h;unfold Own;rw[hl];refine⟨by simp;omega,?_⟩;rcases h2 with ⟨e,hn⟩ | ⟨g,c,cur,e,hB,hg,hle,hm,hs,ht⟩
 ·simp at e;obtain⟨rfl,rfl,rfl⟩:=e
  have:k=0:=by omega
  subst this;exact .inl ⟨rfl,rfl⟩
 ·simp at e;obtain⟨rfl,-,rfl⟩:=e;refine .inr ⟨g,cap,cur,rfl,hB,hg,by omega,hm,hs,?_⟩;rw[Nat.mul_one] at ht ⊢;rw[List.map_take,← ht,List.take_take,Nat.min_eq_left hk]
theorem zH8 (p p2:Option Addr) (q q2:Nat) (key info:List UInt8) (n:Nat) (w:World) (hr:Rd w p q key) (hr2:Rd w p2 q2 info) (hl:key.length≤64) (hl2:info.length≤400) (hn:n≤255):
  Calls Tryz.prog 132 #[.slice p key.length q,.slice p2 info.length q2,.int .i64 (n:Int)] w fun e w'=>∃ u,e=.returned u∧Own w' w.heap.size u (zAx key info n)∧Below w.heap.size w w':=by
 have HR:Hid (Rd w p q key):=hr;have HR2:Hid (Rd w p2 q2 info):=hr2;have HL:Hid (key.length≤64):=hl;clear hr hr2 hl;have O1:=(zBz w w.heap.size (Nat.le_refl _)).stay (zA _ (.cells #[] 5));have BW:Below w.heap.size w ((w.alloc (.cells #[] 5)).alloc (.cells #[] 5)):=Below.mk (zA _ _) _;have R1:Rd ((w.alloc (.cells #[] 5)).alloc (.cells #[] 5)) (some ⟨w.heap.size+1,0,none⟩) 0 []:=⟨Nat.le_refl _,by unfold maxLen;decide,fun e=>by simp at e,fun hp=>by simp at hp⟩;go_enter Tryz.func132,Tryz.ntmps132;go_wp2
 go_loopw [7,8,9] (fun o l i wr=>∃ (k:Nat) (pl:Option Addr) (ql go co:Nat),32*k<n+32∧o=.slice (some ⟨go,0,none⟩) (32*k) co∧l=.slice pl (zA7 key info k).length ql∧i=.int .u8 ((k:Int)+1)∧Own wr w.heap.size o (outN key info k)∧Rd wr pl ql (zA7 key info k)∧Below w.heap.size w wr)
  (fun o _ _ _=>n-zC8 o)
 case atStart=>exact⟨0,_,0,_,0,by omega,rfl,rfl,rfl,O1,R1,BW⟩
 case round=>
  clear O1 R1 BW;obtain⟨k,pl,ql,go,qo,hk,rfl,rfl,rfl,ho,rl,BW⟩:=hrel;have HO:Hid ((outN key info k).length=32*k):=zCc key info k;have HLL:Hid ((zA7 key info k).length≤32):=zFm key info k
  by_cases hlt:32*k<n
  ·have HS:Hid (zA7 key info (k+1)=macN key (zA7 key info k++info++[UInt8.ofNat (k+1)])):=zDM key info k;have HOS:Hid (outN key info (k+1)=outN key info k++zA7 key info (k+1)):=rfl;generalize zA7 key info k=ls at *;go_wp2_with fail;refine(zBU pl ql ls _ rl (by have:=HLL.out;omega)).mono ?_;rintro e w1 ⟨u1,rfl,k1,hb1⟩;obtain⟨p1,q1,rfl,-⟩:=k1.rd;have BR:=hb1;have hz:=BW.size;clear hb1 rl
   have hv:Hid ((k:Int)+1=((UInt8.ofNat (k+1)).toNat:Int)):=by show _=_;rw[UInt8.toNat_ofNat',Nat.mod_eq_of_lt (by omega)];omega
   go_wp2_with (first
    | (at_builtin;refine zG rfl (.tmp 20) (.tmp 21) rfl wr.heap.size _ ls rfl k1 p2 q2 info rfl ((HR2.out.keep BW).keep BR) (by have:=HLL.out;omega) BR.size ?_;intro v2 w2 k2 hg2;replace BR:=BR.grown hg2 BR.size (fun k hk=>k1.ge k hk);clear hg2 k1;have k2':=k2.stay (zA w2 (.cells #[.int .u8 ((k:Int)+1)] 5)))
    | (at_builtin;refine zG rfl (.tmp 22) (.tmp 24) rfl wr.heap.size _ (ls++info) rfl k2' _ 1 [UInt8.ofNat (k+1)] rfl (zED w2 _ _ _ hv.out) (by have:=HLL.out;simp;omega) (by have:=BR.size;simp;omega) ?_;intro v3 w3 k3 hg3;replace BR:=(Below.mk BR (.cells #[.int .u8 ((k:Int)+1)] 5)).grown hg3 (by have:=BR.size;simp;omega) (fun k hk=>k2.ge k hk);clear hg3 k2 k2'))
   obtain⟨p3,q3,rfl,rd3⟩:=k3.rd;have BW3:=Below.step BW BR;refine(zJB p p3 q q3 key (ls++info++[UInt8.ofNat (k+1)]) _ (HR.out.keep BW3) rd3 HL.out (by have:=HLL.out;simp;omega)).mono ?_;rintro e w4 ⟨u4,rfl,k4,hb4⟩;rw[← HS.out] at k4
   have HL4:Hid ((zA7 key info (k+1)).length=32):=by show _=_;rw[HS.out];exact zB7 _ _
   obtain⟨ls2,HZ⟩:∃ l,Hid (l=zA7 key info (k+1)):=⟨_,rfl⟩;rw[← HZ.out] at k4 HL4 HOS;obtain⟨p4,q4,rfl,rd4⟩:=k4.rd;have hz3:Hid (wr.heap.size≤w3.heap.size):=BR.size;replace BR:=Below.step BR hb4;have ho4:=ho.stay BR;have hlt4:=ho.lt;replace BW3:=Below.step BW BR;clear hb4 rd3 k3;go_wp2_with (at_builtin;refine zG rfl (.tmp 27) (.tmp 28) rfl w.heap.size _ (outN key info k) rfl ho4 p4 q4 ls2 rfl rd4 (by have:=HO.out;have:=HL4.out;omega) BW3.size ?_;intro v5 w5 ho5 hg5)
   have rd5:=rd4.other hg5 (fun hp y hy e=>by
    have h1:=hlt4 _ e;subst hy;obtain⟨-,h2⟩:=k4;rcases h2 with ⟨e2,-⟩ | ⟨g,c,cur,e2,hB,-⟩
    ·simp at e2
    ·simp at e2;have:=hz3.out;rw[e2.1] at h1;simp at h1
     omega)
   have BW5:=BW3.grown hg5 BW3.size (fun k hk=>ho.ge k hk);rw[← HOS.out] at ho5;obtain⟨p6,q6,rfl,rd6⟩:=ho5.rd;have HO6:(outN key info (k+1)).length=32*(k+1):=zCc key info (k+1)
   obtain⟨g6,rfl⟩:∃ g,p6=some ⟨g,0,none⟩:=by
    obtain⟨-,h2⟩:=id ho5;rcases h2 with ⟨e2,h3⟩ | ⟨g,c,cur,e2,-⟩
    ·omega
    ·simp at e2;exact⟨g,e2.1⟩
   clear rd6;rw[HO6] at ho5 ⊢;clear ho ho4 hg5 BR BW3 k4 rd4 hv HO HLL;go_roundw
   case rel=>exact⟨k+1,p4,q4,g6,q6,by omega,rfl,by rw[HZ.out],by go_num,ho5,by rw[← HZ.out];exact rd5,BW5⟩
   case measure=>simp[zC8];omega
  ·have e:k=(n+31) / 32:=by omega
   have HX:Hid (zAx key info n=(outN key info k).take n):=by show _=_;rw[zAx,e]
   have hc:=ho.cut n (by rw[HO.out];omega);rw[← HX.out] at hc
   have hn2:n≤32*k:=by omega
   have hrd:=Rd.own ho
   have hq:32*k≤qo:=by have:=hrd.1;rw[HO.out] at this;exact this
   have hq2:qo≤2 ^ 63-1:=hrd.2.1;clear ho rl HX e HLL hrd HO;go_wp2;go_ret;exact⟨_,rfl,hc,BW⟩
end Go.Proofs.YtbaldmmbphbinaaGreatDoor
