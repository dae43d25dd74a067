import Derived.Test.YtiabacnmmojfjaaGreatDoorJoint14
import Derived.Test.YtiabacnmmojfjaaGreatDoorSpread
import Derived.Test.YtiabacnmmojfjaaGreatDoorJoint12
import Derived.Great.BuildSlice
set_option maxHeartbeats 2000000
set_option maxRecDepth 4000
open Go.Proofs.Tryz
namespace Go.Proofs.YtiabacnmmojfjaaGreatDoor
open Go.ChangeShapes Go.WideShapes Go.ChangeAt Go.RowKit
theorem zBf {w:World} {a:Option Addr} {cap:Nat} {bs:List UInt8} (h:Rd w a cap bs) {d:Addr} (hd:∀ x,a=some x→x.block≠d.block) (v:Value):Rd (w.setCell d v) a cap bs:=by
 obtain⟨h1,h2,h3,h4⟩:=h;refine⟨h1,h2,h3,fun hp=>?_⟩;obtain⟨b,o,rfl,hc⟩:=h4 hp;have hb:b≠d.block:=hd _ rfl;refine⟨b,o,rfl,fun i hi=>?_⟩;rw[World.cell?_of_block (w:=w) (a:=⟨b,o+i,none⟩) (Below.heap_setCell _ _ _ _ hb)];exact hc i hi
theorem zHb {w v:World} {b:Nat} {p:Option Addr} {q:Nat} {cs:List UInt8} {t:Int} (hs:Src v b p q cs t) (hb:b<w.heap.size) (hg:w.grownBy v (some b)) (x y z:Value):
  Src (((v.setCell ⟨w.heap.size,0,none⟩ x).setCell ⟨w.heap.size,1,none⟩ y).setCell ⟨w.heap.size,2,none⟩ z) b p q cs t∧w.grownBy (((v.setCell ⟨w.heap.size,0,none⟩ x).setCell ⟨w.heap.size,1,none⟩ y).setCell ⟨w.heap.size,2,none⟩ z) (some b):=
 ⟨((hs.other (zJ _ _ _ _) (fun k hk=>by simp at hk;omega)).other (zJ _ _ _ _) (fun k hk=>by simp at hk;omega)).other (zJ _ _ _ _) (fun k hk=>by simp at hk;omega),
  zM (zM (zM hg (yf _)) (yf _)) (yf _)⟩
theorem zB7 {P:Program} {ops:Array Oper} {C:World→Prop} {Q:Act→Prop} {a:Act} {o:Oper} {rest:List Oper} (hgd:o.guard=none) (ty:TypeId) (x:Operand) (ho:o.op=.load ty x)
  (g:Nat) (hx:a.eval x=.pointer (some ⟨g,0,none⟩)) (t:TypeId) (cs:Array Value) (fr:Nat×Nat) (d:TypeDesc) (hg:∀ w,C w→w.heap[g]?=some (.cells cs t fr))
  (hu:P.underlying ty=some d) (hd:(match d with | .struct _ | .array _ _=>true | _=>false)=true) (hi:(P.info? ty).map (·.size)=some cs.size)
  (h:wpQuiet P ops C Q rest (a.put o.dst (.agg cs))):wpQuiet P ops C Q (o :: rest) a:=by
 unfold wpQuiet;rw[if_pos (by simp[Region.wanted,hgd])];refine⟨.agg cs,fun w hw=>?_,h⟩;unfold Oper.quietAt execOp;simp only[ho,hx,Instr.loadAt,Instr.sureAddr,Sem.run_bind,Sem.run_pure,Result.andThen_ok,run_loadVar_row w g t ty cs fr d (hg w hw) hu hd hi];exact⟨rfl,rfl⟩
theorem zB8 {P:Program} {ops:Array Oper} {C:World→Prop} {Q:Exit→Act→World→Prop} {a:Act} {w:World} {id:Nat} (n:Nat) {o:Oper} (hn:ops.size=n+1) (ho:ops[n]?=some o) (hgd:o.guard=none)
  (hm:P.follows .mixedOrders=true) (hs:Region.noSelect ops=true) (hB:lexT .any ops n 0 (Array.replicate ops.size false)=true) (hw:zDa .any ops n=true) (hC:C { w with drawn:=w.drawn+1 })
  (h:∀ Z:Act→Prop,(∀ a',(∀ w',C w'→∀ K:Act→World→Prop,(∀ a'' w'',Q .normal a'' w''→K a'' w'')→o.wp P a' w' K Q)→Z a')→wpQuiet P ops C Z (ops.toList.take n) a):(Code.region id ops true).wp P Q a w:=
 zDn n hn ho hgd hm hs hB hw hC (h _ (fun _ h=>h))
def keysI:List Int:=keysN.map Int.ofNat
def keysV:List Value:=keysI.map (Value.int .i64)
theorem zLW {i:Nat} (h:i<64):keysV[i]?=some (.int .i64 (keysN.getD i 0:Nat)):=by
 have hl:i<keysN.length:=h;simp[keysV,keysI,hl]
theorem zLX (w:World):Calls prog 167 #[] w fun e w'=>e=.returned (.agg keysV.toArray)∧Below w.heap.size w w':=by
 have hzv:Hid (∀ w,(zeroValue 177).run prog w=.ok (.agg zI.toArray) w):=(zero_of_info zCW).1
 have hsz:Hid ((Tryz.prog.info? 177).map (·.size)=some keysV.toArray.size):=by show _=_;rw[(zero_of_info zCW).2];rfl
 have hA:=(yr w zI 177);go_enter func167,ntmps167
 go_wp2_with (first
  | refine zY rfl 177 rfl _ hzv.out w.heap.size rfl ?_
  | refine wpList_buildFlatArrTo rfl 177 2 64 _ rfl .i64 keysI _ rfl underlying177 (by kernel_rfl) (by kernel_rfl) (by kernel_rfl) ?_
  | refine wpList_store_row rfl 177 (.tmp 0) (.tmp 1) rfl w.heap.size keysV.toArray rfl rfl 177 zI.toArray hA hsz.out rfl (by kernel_rfl) ?_)
 exact bodyPost_ret (v:=.agg keysV.toArray) (results_cell_row results167 _ _ w.heap.size 177 _ (0,0) _ rfl (hA.row _) underlying177 rfl hsz.out) rfl ⟨rfl,Below.row (zA _ _) (yf _) _⟩
theorem zMy (s t:S8):(s.list.map i64v).toArray.size=t.i64.size:=rfl
theorem zMz (s:S8):s.i64.all (·.oneCell')=true:=by simp[S8.i64];exact⟨rfl,rfl,rfl,rfl,rfl,rfl,rfl,rfl⟩
theorem zE9 (bs:List UInt8) (k:Nat):zAi bs (k+1)=addS (zAi bs k) (zAh (zAg ((bs.drop (64*k)).take 64)) (zAi bs k) 64):=rfl
theorem zFA (ws:List Nat) (s:S8) (k:Nat):zAh ws s (k+1)=zCB (zAh ws s k) (ws.getD k 0) (keysN.getD k 0):=rfl
theorem zKL (w:World):Calls prog 168 #[] w fun e w'=>e=.returned (.agg startN.i64)∧Below w.heap.size w w':=by
 go_enter func168,ntmps168;go_wp2;exact bodyPost_ret (v:=.agg startN.i64) (by simp[results,results168,go_sem];rfl) rfl ⟨rfl,zA _ _⟩
def addV (f:Nat→Value) (s t:S8) (j:Nat):List Value:=(List.range 8).map fun i=>f (if i<j then (s.list.getD i 0+t.list.getD i 0) % 4294967296 else s.list.getD i 0)
theorem zKM (f:Nat→Value) (s t:S8):addV f s t 0=s.list.map f:=rfl
theorem zIq (f:Nat→Value) (s t:S8):addV f s t 8=(addS s t).list.map f:=rfl
theorem lt8 {j:Nat} (h:j<8):j=0∨j=1∨j=2∨j=3∨j=4∨j=5∨j=6∨j=7:=by omega
theorem zIr (f:Nat→Value) (s t:S8) {j:Nat} (h:j<8):(addV f s t j).set j (f ((s.list.getD j 0+t.list.getD j 0) % 4294967296))=addV f s t (j+1):=by
 rcases lt8 h with rfl | rfl | rfl | rfl | rfl | rfl | rfl | rfl <;> rfl
theorem zKN (f:Nat→Value) (s t:S8) {j:Nat} (h:j<8):(addV f s t j)[j]?=some (f (s.list.getD j 0)):=by
 rcases lt8 h with rfl | rfl | rfl | rfl | rfl | rfl | rfl | rfl <;> rfl
theorem zFM (f:Nat→Value) (s:S8) {j:Nat} (h:j<8):(s.list.map f)[j]?=some (f (s.list.getD j 0)):=by
 rcases lt8 h with rfl | rfl | rfl | rfl | rfl | rfl | rfl | rfl <;> rfl
def zC5 (xs:List Nat) (j:Nat):List UInt8:=(xs.take j).flatMap (fun x=>putB x 4)
theorem zHc (s:S8) {j:Nat} (h:j≤8):(zC5 s.list j).length=4*j:=by
 rcases(show j<8∨j=8 by omega) with h | rfl
 ·rcases lt8 h with rfl | rfl | rfl | rfl | rfl | rfl | rfl | rfl <;> simp[zC5,S8.list,zP]
 ·simp[zC5,S8.list,zP]
theorem zGV (s:S8) {j:Nat} (h:j<8):zC5 s.list j++putB (s.list.getD j 0) 4=zC5 s.list (j+1):=by
 rcases lt8 h with rfl | rfl | rfl | rfl | rfl | rfl | rfl | rfl <;> simp[zC5,S8.list]
theorem zHd (s:S8):zC5 s.list 8=zE1 s:=by simp[zC5,zE1,S8.list]
theorem zGW (bs:List UInt8):(padN bs).length=64*((bs.length+72) / 64):=by rw[zCd];omega
theorem zKO:(Tryz.prog.info? 179).map (fun i=>(i.zero,i.size))=some (some (.agg (List.replicate 8 (Value.int .i64 0)).toArray),8):=by kernel_rfl
theorem zCi (p:Option Addr) (q:Nat) (bs:List UInt8) (w:World) (hr:Rd w p q bs) (hl:bs.length≤600):
  Calls prog 127 #[.slice p bs.length q] w fun e w'=>∃ u,e=.returned u∧Own w' w.heap.size u (zW bs)∧Below w.heap.size w w':=by
 have hzv:Hid (∀ w,(zeroValue 177).run prog w=.ok (.agg zI.toArray) w):=(zero_of_info zCW).1;have hzs:Hid (∀ w,(zeroValue 179).run prog w=.ok (.agg (List.replicate 8 (Value.int .i64 0)).toArray) w):=(zero_of_info zKO).1
 have hsz:Hid ((Tryz.prog.info? 177).map (·.size)=some keysV.toArray.size):=by show _=_;rw[(zero_of_info zCW).2];rfl
 have hs8:Hid (∀ s:S8,(Tryz.prog.info? 179).map (·.size)=some s.i64.size):=by intro s;rw[(zero_of_info zKO).2];rfl
 go_enter func127,ntmps127;go_wp2_with fail;refine(zLX _).mono ?_;rintro e w1 ⟨rfl,hb1⟩;have A1:=yr w1 zI 177;have A2:=A1.row keysV
 go_wp2_with (first
  | refine zY rfl 177 rfl _ hzv.out w1.heap.size rfl ?_
  | refine wpList_store_row rfl 177 (.tmp 3) (.tmp 13) rfl w1.heap.size keysV.toArray rfl rfl 177 zI.toArray A1 hsz.out rfl (by kernel_rfl) ?_)
 refine(zKL _).mono ?_;rintro e w2 ⟨rfl,hb2⟩;replace A2:=A2.stay hb2;have BW:Below w.heap.size w w2:=yn (Below.row (yt hb1 _) hb1.size _) hb2;have hg3:Hid (w.heap.size≤w1.heap.size):=hb1.size;clear hb1 hb2 A1;generalize w1.heap.size=g3 at *;clear w1;have B1:=yr w2 (List.replicate 8 (Value.int .i64 0)) 179;have B2:=B1.row (startN.list.map i64v);have hlt3:Hid (g3<w2.heap.size):=A2.lt;replace A2:=(A2.old _ (.cells (List.replicate 8 (Value.int .i64 0)).toArray 179)).rowOther (Nat.ne_of_lt A2.lt) startN.i64;have BX:Below w.heap.size w ((w2.alloc (.cells (List.replicate 8 (Value.int .i64 0)).toArray 179)).setRow w2.heap.size startN.i64):=Below.row (yt BW _) BW.size _;have hBg:Hid (w.heap.size≤w2.heap.size):=BW.size;have hsS:Hid ((Tryz.prog.info? 179).map (·.size)=some startN.i64.size):=hs8.out _;clear BW
 go_wp2_with (first
  | refine zY rfl 179 rfl _ hzs.out w2.heap.size rfl ?_
  | refine wpList_store_row rfl 179 (.tmp 4) (.tmp 14) rfl w2.heap.size startN.i64 rfl rfl 179 (List.replicate 8 (Value.int .i64 0)).toArray B1 hsS.out rfl (by kernel_rfl) ?_)
 refine(zMs p q bs _ (hr.keep BX) hl).mono ?_;rintro e w3 ⟨u,rfl,hu,hb3⟩;replace A2:=A2.stay hb3;replace B2:=B2.stay hb3;have BW:Below w.heap.size w w3:=yn BX hb3;rw[size_setRow,zB] at hu;clear BX hb3 B1 hsS hr;have hn:Hid ((padN bs).length=64*((bs.length+72) / 64)):=zGW bs
 have hn1:1≤(bs.length+72) / 64:=by omega
 have hn2:(bs.length+72) / 64≤11:=by omega
 obtain⟨a5,c5,rfl,hrd5⟩:=hu.rd;obtain⟨b5,o5,rfl,-⟩:=hrd5.2.2.2 (by rw[hn.out];omega)
 have hc1:64*((bs.length+72) / 64)≤c5:=by have:=hrd5.1;rw[hn.out] at this;exact this
 have hc2:c5≤2 ^ 63-1:=hrd5.2.1;clear hrd5;rw[hn.out] at hu ⊢;have HD:Hid (zW bs=zE1 (zAi (padN bs) ((bs.length+72) / 64))):=rfl;generalize (bs.length+72) / 64=n at *;generalize w2.heap.size=g4 at *;clear w2;clear hl;go_wp2
 go_loopw [6] (fun i wr=>∃ k:Nat,k≤n∧i=.int .i64 (64*(k:Int))∧Arr wr g3 177 keysV∧Arr wr g4 179 ((zAi (padN bs) k).list.map i64v)∧Own wr (g4+1) (.slice (some ⟨b5,o5,none⟩) (64*n) c5) (padN bs)∧Below w.heap.size w wr)
  (fun i _=>64*n-(intOf i).toNat)
 case atStart=>exact⟨0,Nat.zero_le _,rfl,A2,B2,hu,BW⟩
 case round=>
  clear A2 B2 hu BW;obtain⟨k,hk,rfl,A,B,hu,BW⟩:=hrel
  by_cases hlt:k<n
  ·have hrd:Rd wr (some ⟨b5,o5,none⟩) c5 (padN bs):=by have h:=hu;rw[← hn.out] at h;exact Rd.own h
   have hcut:=hrd.cut (64*k) 64 (c5-64*k) (by rw[hn.out];omega) (by omega) (by have:=hrd.2.1;omega)
   have h64:Hid ((((padN bs).drop (64*k)).take 64).length=64):=by show _=_;have:=hn.out;simp;omega
   have HB:Hid (zAi (padN bs) (k+1)=addS (zAi (padN bs) k) (zAh (zAg (((padN bs).drop (64*k)).take 64)) (zAi (padN bs) k) 64)):=zE9 _ _;have hok:Hid ((zAi (padN bs) k).ok):=zDW (padN bs) k;generalize zAi (padN bs) k=st at *;clear hrd;go_wp2_with fail;refine(zJO b5 (o5+64*k) (c5-64*k) _ _ hcut h64.out).mono ?_;rintro e w5 ⟨rfl,hb5⟩;replace A:=A.stay hb5;replace B:=B.stay hb5;replace hu:=hu.stay hb5;replace BW:=yn BW hb5;have hge:Hid (g4<w5.heap.size):=B.lt;have hge3:Hid (g3<w5.heap.size):=A.lt;have hgeu:Hid (∀ k,(Value.slice (some ⟨b5,o5,none⟩) (64*n) c5).ownBlock=some k→k<w5.heap.size):=hu.lt;have hgew:Hid (w.heap.size≤w5.heap.size):=BW.size;have hwl:Hid ((zAg (((padN bs).drop (64*k)).take 64)).length=64):=zA8 _;have hwok:Hid (Words (zAg (((padN bs).drop (64*k)).take 64))):=zJJ _;clear hb5 hcut h64;generalize zAg (((padN bs).drop (64*k)).take 64)=ws at *
   have hszW:Hid ((Tryz.prog.info? 177).map (·.size)=some (ws.map i64v).toArray.size):=by show _=_;rw[(zero_of_info zCW).2];simp[hwl.out]
   have hlW:Hid (zI.toArray.size=(ws.map i64v).toArray.size):=by show _=_;simp[zJx,hwl.out]
   have hsS:Hid ((Tryz.prog.info? 179).map (·.size)=some (st.list.map i64v).toArray.size):=hs8.out st;have C1:=yr w5 zI 177;have C2:=C1.row (ws.map i64v);replace A:=(A.old _ (.cells zI.toArray 177)).rowOther (Nat.ne_of_lt A.lt) (ws.map i64v).toArray;replace B:=(B.old _ (.cells zI.toArray 177)).rowOther (Nat.ne_of_lt B.lt) (ws.map i64v).toArray;replace hu:=(hu.stay (zA _ (.cells zI.toArray 177))).row (fun k hk=>Nat.ne_of_lt (hu.lt k hk)) (ws.map i64v).toArray;replace BW:=Below.row (yt BW (.cells zI.toArray 177)) BW.size (ws.map i64v).toArray
   have hW:Hid (((w5.alloc (.cells zI.toArray 177)).setRow w5.heap.size (ws.map i64v).toArray).heap.size=w5.heap.size+1):=by show _=_;rw[size_setRow,zB]
   have D1:=yr ((w5.alloc (.cells zI.toArray 177)).setRow w5.heap.size (ws.map i64v).toArray) (List.replicate 8 (Value.int .i64 0)) 179;rw[hW.out] at D1
   go_wp2_with (first
    | refine zY rfl 177 rfl _ hzv.out w5.heap.size rfl ?_
    | refine wpList_store_row rfl 177 (.tmp 7) (.tmp 28) rfl w5.heap.size (ws.map i64v).toArray rfl rfl 177 zI.toArray C1 hszW.out hlW.out (by simp[i64v];intros;rfl) ?_
    | refine wpList_load_row rfl 179 (.tmp 4) rfl g4 rfl 179 (st.list.map i64v).toArray (0,0) _ B underlying179 rfl hsS.out ?_
    | refine zY rfl 179 rfl _ hzs.out (w5.heap.size+1) hW.out ?_
    | refine wpList_store_row rfl 179 (.tmp 8) (.tmp 29) rfl (w5.heap.size+1) (st.list.map i64v).toArray rfl rfl 179 (List.replicate 8 (Value.int .i64 0)).toArray D1 hsS.out rfl (by kernel_rfl) ?_)
   have D2:=D1.row (st.list.map i64v);replace A:=(A.old _ (.cells (List.replicate 8 (Value.int .i64 0)).toArray 179)).rowOther (g:=g3) (k:=w5.heap.size+1) (Nat.ne_of_lt (hW.out▸A.lt)) (st.list.map i64v).toArray;replace B:=(B.old _ (.cells (List.replicate 8 (Value.int .i64 0)).toArray 179)).rowOther (g:=g4) (k:=w5.heap.size+1) (Nat.ne_of_lt (hW.out▸B.lt)) (st.list.map i64v).toArray;replace C2:=(C2.old _ (.cells (List.replicate 8 (Value.int .i64 0)).toArray 179)).rowOther (g:=w5.heap.size) (k:=w5.heap.size+1) (Nat.ne_of_lt (yg _)) (st.list.map i64v).toArray;replace hu:=(hu.stay (zA _ (.cells (List.replicate 8 (Value.int .i64 0)).toArray 179))).row (g:=w5.heap.size+1) (fun k hk=>Nat.ne_of_lt (hW.out▸hu.lt k hk)) (st.list.map i64v).toArray;replace BW:=Below.row (g:=w5.heap.size+1) (yt BW (.cells (List.replicate 8 (Value.int .i64 0)).toArray 179)) (hW.out▸BW.size) (st.list.map i64v).toArray;clear hW D1 C1 hszW hlW hsS;generalize w5.heap.size=g7 at *
   go_loopw [9] (fun i wr=>∃ j:Nat,j≤64∧i=.int .i64 j∧Arr wr (g7+1) 179 ((zAh ws st j).list.map i64v)∧Arr wr g7 177 (ws.map i64v)∧Arr wr g3 177 keysV∧Arr wr g4 179 (st.list.map i64v)∧Own wr (g4+1) (.slice (some ⟨b5,o5,none⟩) (64*n) c5) (padN bs)∧Below w.heap.size w wr)
    (fun i _=>64-(intOf i).toNat)
   case atStart=>exact⟨0,Nat.zero_le _,rfl,D2,C2,A,B,hu,BW⟩
   case round=>
    clear D2 C2 A B hu BW;obtain⟨j,hj,rfl,D,C,A,B,hu,BW⟩:=hrel
    by_cases hjl:j<64
    ·have hstep:Hid (zAh ws st (j+1)=zCB (zAh ws st j) (ws.getD j 0) (keysN.getD j 0)):=zFA _ _ _;have hokr:Hid ((zAh ws st j).ok):=zDV ws hok.out j;have bw:Hid (ws.getD j 0<4294967296):=hwok.out.getD j;have bk:Hid (keysN.getD j 0<4294967296):=keysN_ok.getD j;have cW:∀ s:HW wr,s.w.cell? ⟨g7,j,none⟩=some (.int .i64 (ws.getD j 0:Nat)):=yo (by rw[C.cell];have:=hwl.out;simp[i64v,show j<ws.length by omega]);have cK:∀ s:HW wr,s.w.cell? ⟨g3,j,none⟩=some (.int .i64 (keysN.getD j 0:Nat)):=yo ((A.cell j).trans (zLW hjl));generalize zAh ws st j=R at *;generalize ws.getD j 0=wd at *;generalize keysN.getD j 0=kd at *;have hne:=yq wr;go_wp2_with fail;refine zB8 (C:=fun w'=>∃ s:HW wr,w'=s.w) 8 rfl rfl rfl (by kernel_rfl) (by kernel_rfl) (by kernel_rfl) (by kernel_rfl) ⟨⟨wr.drew,(Below.refl _ _).drew⟩,rfl⟩ ?_;intro Z hZ;simp only[List.take_succ_cons,List.take_zero];refine zB7 rfl 179 (.tmp 8) rfl (g7+1) rfl 179 R.i64 (0,0) _ (fun w' h=>by obtain⟨s,rfl⟩:=h;exact D.stay s.h) underlying179 rfl (hs8.out R) ?_
     go_simp
     repeat (go_big_quiet_step ((go_at_call 171;exact Calls.stay (zJ9 R wd kd _ hokr.out bw.out bk.out))))
     refine wpQuiet_nil (hZ _ ?_);rintro w' ⟨s,rfl⟩ K hK;refine wp_store_row 179 (.tmp 8) (.tmp 41) rfl (g7+1) (zCB R wd kd).i64 rfl rfl 179 _ (D.stay s.h) (hs8.out _) (zMy _ _) (zMz _) (hK _ _ ?_);clear cW cK hne;go_wp2;go_roundw
     case rel=>
      exact⟨j+1,by omega,by go_num,by rw[hstep.out];exact(D.stay s.h).row ((zCB R wd kd).list.map i64v),(C.stay s.h).rowOther (Nat.ne_of_lt (yg _)) _,(A.stay s.h).rowOther (by have:=hge3.out;omega) _,(B.stay s.h).rowOther (by have:=hge.out;omega) _,(hu.stay s.h).row (fun k hk=>by have:=hgeu.out k hk;omega) _,Below.row (yn BW s.h) (by have:=hgew.out;omega) _⟩
     case measure=>simp[intOf];omega
    ·have e:j=64:=by omega
     subst e;have hokr:Hid ((zAh ws st 64).ok):=zDV ws hok.out 64;generalize zAh ws st 64=R at *;clear C hjl hj hwok hwl;go_wp2
     go_loopw [10] (fun i wr=>∃ j:Nat,j≤8∧i=.int .i64 j∧Arr wr (g7+1) 179 (R.list.map i64v)∧Arr wr g3 177 keysV∧Arr wr g4 179 (addV i64v st R j)∧Own wr (g4+1) (.slice (some ⟨b5,o5,none⟩) (64*n) c5) (padN bs)∧Below w.heap.size w wr)
      (fun i _=>8-(intOf i).toNat)
     case atStart=>exact⟨0,Nat.zero_le _,rfl,D,A,B,hu,BW⟩
     case round=>
      clear D A B hu BW;obtain⟨j,hj,rfl,D,A,B,hu,BW⟩:=hrel
      by_cases hjl:j<8
      ·have cS:=(B.cell j).trans (zKN i64v st R hjl);have fS:=B.frozen j;have cR:=(D.cell j).trans (zFM i64v R hjl);have bS:=(S8.words hok.out).getD j;have bR:=(S8.words hokr.out).getD j;have RS:=B.set j (i64v ((st.list.getD j 0+R.list.getD j 0) % 4294967296));rw[zIr i64v st R hjl] at RS;have RD:=D.setOther (a:=⟨g4,j,none⟩) (by show g7+1≠g4;have:=hge.out;omega);have RA:=A.setOther (a:=⟨g4,j,none⟩) (by show g3≠g4;have:=hlt3.out;omega)
       have RU:=fun v=>hu.set (a:=⟨g4,j,none⟩) (yg g4) v
       have RB:=fun v=>Below.setCell (p:=⟨g4,j,none⟩) BW hBg.out v
       unfold i64v at cS cR RS;generalize st.list.getD j 0=x at *;generalize R.list.getD j 0=y at *;clear B D A hu BW;go_wp2
       go_region
       go_wp2;go_roundw
       case rel=>
        have E:(((x:Int)+(y:Int)) % 4294967296)=(((x+y) % 4294967296:Nat):Int):=by omega
        rw[E];exact⟨j+1,by omega,by go_num,RD _,RA _,RS,RU _,Below.drew (RB _)⟩
       case measure=>simp[intOf];omega
      ·have e:j=8:=by omega
       subst e;rw[zIq,← HB.out] at B;go_wp2;go_roundw
       case rel=>
        exact⟨k+1,hlt,by go_num,A,B,hu,BW⟩
       case measure=>simp[intOf];omega
  ·have e:k=n:=by omega
   subst e;have hok:Hid ((zAi (padN bs) k).ok):=zDW (padN bs) k;generalize zAi (padN bs) k=st at *;have O1:=zCL wr (g4+1) B.lt;replace B:=B.old _ (.cells #[] 5);replace BW:=yt BW (.cells #[] 5);clear A hu hk;go_wp2
   go_loopw [11,12] (fun v i wr=>∃ j:Nat,j≤8∧i=.int .i64 j∧Own wr (g4+1) v (zC5 st.list j)∧Arr wr g4 179 (st.list.map i64v)∧Below w.heap.size w wr)
    (fun _ i _=>8-(intOf i).toNat)
   case atStart=>exact⟨0,Nat.zero_le _,rfl,O1,B,BW⟩
   case round=>
    clear O1 B BW;obtain⟨j,hj,rfl,ho,B,BW⟩:=hrel;obtain⟨a6,c6,rfl,-⟩:=ho.rd;have hlen:Hid ((zC5 st.list j).length=4*j):=zHc st hj;rw[hlen.out] at ho ⊢
    by_cases hjl:j<8
    ·have cS:=(B.cell j).trans (zFM i64v st hjl);unfold i64v at cS;have bS:=(S8.words hok.out).getD j;have TS:Hid (zC5 st.list j++putB (st.list.getD j 0) 4=zC5 st.list (j+1)):=zGV st hjl;generalize st.list.getD j 0=x at *;go_wp2_with fail;refine(zH5 _ 4 _ (by omega) (by omega) (by decide) (by decide)).mono ?_;rintro e w7 ⟨u7,rfl,hu7,hb7⟩;rw[Int.toNat_natCast,show(4:Int).toNat=4 from rfl] at hu7;obtain⟨a7,c7,rfl,hrd7⟩:=hu7.rd;replace ho:=ho.stay hb7;replace B:=B.stay hb7;replace BW:=yn BW hb7;clear hu7 hb7 cS
     go_wp2_with (first
      | (at_builtin;refine zK rfl (.tmp 61) (.tmp 65) rfl (g4+1) _ (zC5 st.list j) rfl ho a7 c7 (putB x 4) rfl hrd7 (by rw[hlen.out,zP];omega) B.lt ?_;intro v8 w8 ho8 hg8)
      | go_in)
     rw[TS.out] at ho8;have B8:=B.other hg8 (fun e=>by have:=ho.ge _ e;omega);have BW8:=BW.grown hg8 BW.size (fun k hk=>by have:=ho.ge k hk;have:=hBg.out;omega);clear ho hg8 B BW hrd7;go_roundw
     case rel=>exact⟨j+1,by omega,by go_num,ho8,B8,BW8⟩
     case measure=>simp[intOf];omega
    ·have e:j=8:=by omega
     subst e;go_wp2;go_ret;exact⟨_,rfl,by rw[HD.out,← zHd];exact ho.lower (by have:=hBg.out;omega),BW⟩
end Go.Proofs.YtiabacnmmojfjaaGreatDoor
