import Derived.Test.YtiabacnmmojfjaaGreatDoorJoint15
import Derived.Test.YtiabacnmmojfjaaGreatDoorJoint12
import Derived.Test.YtiabacnmmojfjaaGreatDoorJoint16
import Derived.Test.YtiabacnmmojfjaaGreatDoorJoint1
set_option maxHeartbeats 2000000
set_option maxRecDepth 4000
open Go.Proofs.Tryz
namespace Go.Proofs.YtiabacnmmojfjaaGreatDoor
open Go.ChangeShapes Go.WideShapes Go.ChangeAt Go.RowKit
def Tabs (w:World):Prop:=
 (∃ t fr,w.heap[0]?=some (.cells (startN.list.map u32v).toArray t fr))∧(∃ t fr,w.heap[1]?=some (.cells (keysN.map u32v).toArray t fr))
theorem zIw {w:World} {g:Nat} {o:Obj} (h:w.heap[g]?=some o):g<w.heap.size:=(Array.getElem?_eq_some_iff.1 h).1
theorem Tabs.keep {w w':World} (h:Tabs w) (hb:Below w.heap.size w w'):Tabs w':=by
 obtain⟨⟨t,fr,h1⟩,⟨t',fr',h2⟩⟩:=h;exact⟨⟨t,fr,(hb.block _ (zIw h1)).trans h1⟩,⟨t',fr',(hb.block _ (zIw h2)).trans h2⟩⟩
theorem Tabs.key {w:World} (h:Tabs w) {i:Nat} (hi:i<64):w.cell? ⟨1,i,none⟩=some (.int .u32 (keysN.getD i 0:Nat)):=by
 obtain⟨-,⟨t,fr,h2⟩⟩:=h;have hl:i<keysN.length:=hi;rw[cell_of_row w _ i _ t fr h2];simp[u32v,hl]
theorem zKX (s:S8) (bs:List UInt8):zDD s bs=addS s (zAh (zAg bs) s 64):=rfl
theorem zKY (s t:S8):addS s t=addS t s:=by simp[addS,Nat.add_comm]
theorem zKZ (s t:S8):(s.list.map u32v).toArray.size=t.u32.size:=rfl
theorem zGw (s:S8):s.u32.all (·.oneCell')=true:=by simp[S8.u32];exact⟨rfl,rfl,rfl,rfl,rfl,rfl,rfl,rfl⟩
theorem zGx:(Tryz.prog.info? 207).map (fun i=>(i.zero,i.size))=some (some (.agg (List.replicate 8 (Value.int .u32 0)).toArray),8):=by kernel_rfl
theorem zF6 (st:S8) (b o cap:Nat) (bs:List UInt8) (w:World) (hr:Rd w (some ⟨b,o,none⟩) cap bs) (h64:bs.length=64) (hT:Tabs w) (hst:st.ok):
  Calls prog 195 #[.agg st.u32,.slice (some ⟨b,o,none⟩) 64 cap] w fun e w'=>e=.returned (.agg (zDD st bs).u32)∧Below w.heap.size w w':=by
 have hs8:Hid (∀ s:S8,(Tryz.prog.info? 207).map (·.size)=some s.u32.size):=by intro s;rw[(zero_of_info zGx).2];rfl
 have HR:Hid (Rd w (some ⟨b,o,none⟩) cap bs):=hr;have HT:Hid (Tabs w):=hT;have HL:Hid (bs.length=64):=h64;have HO:Hid st.ok:=hst;clear hr h64 hT hst
 show Calls prog 195 #[.agg #[.int .u32 (st.a:Int),.int .u32 (st.b:Int),.int .u32 (st.c:Int),.int .u32 (st.d:Int),.int .u32 (st.e:Int),.int .u32 (st.f:Int),.int .u32 (st.g:Int),.int .u32 (st.h:Int)],.slice (some ⟨b,o,none⟩) 64 cap] w _
 go_enter func195,ntmps195;go_wp2_with fail;have BX:Below w.heap.size w (((w.alloc (.cells (st.list.map u32v).toArray 207)).alloc (.cells (List.replicate 8 (Value.int .u32 0)).toArray 207)).alloc (.cells (st.list.map u32v).toArray 207)):=yt (yt (zA _ _) _) _;refine(zLI b o cap bs _ (HR.out.keep BX) HL.out).mono ?_;rintro e w1 ⟨rfl,hb1⟩;have X2:Arr w1 w.heap.size 207 (st.list.map u32v):=(((yr w (st.list.map u32v) 207).old _ _).old _ _).stay hb1
 have X4:Arr w1 (w.heap.size+1) 207 (List.replicate 8 (Value.int .u32 0)):=by
  have h:=yr (w.alloc (.cells (st.list.map u32v).toArray 207)) (List.replicate 8 (Value.int .u32 0)) 207;rw[zB] at h;exact(h.old _ _).stay hb1
 have X5:Arr w1 (w.heap.size+1+1) 207 (st.list.map u32v):=by
  have h:=yr ((w.alloc (.cells (st.list.map u32v).toArray 207)).alloc (.cells (List.replicate 8 (Value.int .u32 0)).toArray 207)) (st.list.map u32v) 207;rw[zB,zB] at h;exact h.stay hb1
 have BW:Below w.heap.size w w1:=yn BX hb1;have HB:Hid (zDD st bs=addS st (zAh (zAg bs) st 64)):=zKX _ _;have hwl:Hid ((zAg bs).length=64):=zA8 _;clear hb1 BX HR HL;generalize zAg bs=ws at *
 have hix:∀ j,j<64→(ws.map u32v)[j]?=some (.int .u32 (ws.getD j 0:Nat)):=fun j hj=>by have:=hwl.out;simp[u32v,show j<ws.length by omega]
 go_wp2
 go_loopw [13] (fun i wr=>∃ j:Nat,j≤64∧i=.int .i64 j∧Arr wr (w.heap.size+1+1) 207 ((zAh ws st j).list.map u32v)∧Arr wr w.heap.size 207 (st.list.map u32v)∧Arr wr (w.heap.size+1) 207 (List.replicate 8 (Value.int .u32 0))∧Below w.heap.size w wr)
  (fun i _=>64-(intOf i).toNat)
 case atStart=>exact⟨0,Nat.zero_le _,rfl,X5,X2,X4,BW⟩
 case round=>
  clear X2 X4 X5 BW;obtain⟨j,hj,rfl,D,B,C,BW⟩:=hrel
  by_cases hjl:j<64
  ·have hstep:Hid (zAh ws st (j+1)=zCB (zAh ws st j) (ws.getD j 0) (keysN.getD j 0)):=zFA _ _ _;have hokr:Hid ((zAh ws st j).ok):=zDV ws HO.out j;have cK:∀ s:HW wr,s.w.cell? ⟨1,j,none⟩=some (.int .u32 (keysN.getD j 0:Nat)):=yo ((HT.out.keep BW).key hjl)
   have hx:(ws.map u32v).toArray[j]?=some (.int .u32 (ws.getD j 0:Nat)):=by rw[ya];exact hix j hjl
   clear hix;generalize ws.getD j 0=wd at *;generalize zAh ws st j=R at *;generalize keysN.getD j 0=kd at *;have hne:=yq wr;go_wp2_with (refine zBP rfl 223 (.tmp 12) (.tmp 13) rfl 64 205 _ j .i64 .u32 (.int .u32 (wd:Nat)) rfl rfl underlying223 hjl (by kernel_rfl) underlying205 hx ?_);clear hx;refine zB8 (C:=fun w'=>∃ s:HW wr,w'=s.w) 6 rfl rfl rfl (by kernel_rfl) (by kernel_rfl) (by kernel_rfl) (by kernel_rfl) ⟨⟨wr.drew,(Below.refl _ _).drew⟩,rfl⟩ ?_;intro Z hZ;simp only[List.take_succ_cons,List.take_zero];refine zB7 rfl 207 (.tmp 5) rfl (w.heap.size+1+1) rfl 207 R.u32 (0,0) _ (fun w' h=>by obtain⟨s,rfl⟩:=h;exact D.stay s.h) underlying207 rfl (hs8.out R) ?_
   go_simp
   repeat (go_big_quiet_step ((go_at_call 217;exact Calls.stay (zMq R wd kd _ hokr.out))))
   refine wpQuiet_nil (hZ _ ?_);rintro w' ⟨s,rfl⟩ K hK;refine wp_store_row 207 (.tmp 5) (.tmp 22) rfl (w.heap.size+1+1) (zCB R wd kd).u32 rfl rfl 207 _ (D.stay s.h) (hs8.out _) (zKZ _ _) (zGw _) (hK _ _ ?_);clear cK hne;go_wp2;go_roundw
   case rel=>
    exact⟨j+1,by omega,by go_num,by rw[hstep.out];exact(D.stay s.h).row ((zCB R wd kd).list.map u32v),(B.stay s.h).rowOther (by omega) _,(C.stay s.h).rowOther (by omega) _,Below.row (yn BW s.h) (by omega) _⟩
   case measure=>simp[intOf];omega
  ·have e:j=64:=by omega
   subst e;have hokr:Hid ((zAh ws st 64).ok):=zDV ws HO.out 64;generalize zAh ws st 64=R at *;clear hjl hj hix hwl;have hsS:Hid ((Tryz.prog.info? 207).map (·.size)=some (st.list.map u32v).toArray.size):=hs8.out st;go_wp2_with (refine wpList_load_row rfl 207 (.tmp 2) rfl w.heap.size rfl 207 (st.list.map u32v).toArray (0,0) _ B underlying207 rfl hsS.out ?_)
   go_loopw [25] (fun i wr=>∃ j:Nat,j≤8∧i=.int .i64 j∧Arr wr (w.heap.size+1+1) 207 (addV u32v R st j)∧Arr wr (w.heap.size+1) 207 (List.replicate 8 (Value.int .u32 0))∧Below w.heap.size w wr)
    (fun i _=>8-(intOf i).toNat)
   case atStart=>exact⟨0,Nat.zero_le _,rfl,by rw[zKM];exact D,C,BW⟩
   case round=>
    clear D B C BW hsS;obtain⟨j,hj,rfl,D,C,BW⟩:=hrel
    by_cases hjl:j<8
    ·have hx:(st.list.map u32v).toArray[j]?=some (.int .u32 (st.list.getD j 0:Nat)):=by rw[ya];exact zFM u32v st hjl
     have cS:=(D.cell j).trans (zKN u32v R st hjl);have fS:=D.frozen j;have bS:=(S8.words HO.out).getD j;have bR:=(S8.words hokr.out).getD j;have RS:=D.set j (u32v ((R.list.getD j 0+st.list.getD j 0) % 4294967296));rw[zIr u32v R st hjl] at RS;have RC:=C.setOther (a:=⟨w.heap.size+1+1,j,none⟩) (by show w.heap.size+1≠w.heap.size+1+1;omega)
     have RB:=fun v=>Below.setCell (p:=⟨w.heap.size+1+1,j,none⟩) BW (by show w.heap.size≤w.heap.size+1+1;omega) v
     unfold u32v at cS RS;generalize st.list.getD j 0=x at *;generalize R.list.getD j 0=y at *;clear D C BW;go_wp2_with (refine zBP rfl 207 (.tmp 24) (.tmp 25) rfl 8 205 _ j .i64 .u32 (.int .u32 (x:Nat)) rfl rfl underlying207 hjl (by kernel_rfl) underlying205 hx ?_);clear hx;go_roundw
     case rel=>
      have E:(((y:Int)+(x:Int)) % 4294967296)=(((y+x) % 4294967296:Nat):Int):=by omega
      rw[E];exact⟨j+1,by omega,by go_num,RS,RC _,RB _⟩
     case measure=>simp[intOf];omega
    ·have e:j=8:=by omega
     subst e;rw[zIq,zKY,← HB.out] at D;have hsR:Hid ((Tryz.prog.info? 207).map (·.size)=some ((zDD st bs).list.map u32v).toArray.size):=hs8.out (zDD st bs);clear HB hokr hj hjl;obtain⟨S,hS⟩:∃ S,S=zDD st bs:=⟨_,rfl⟩;rw[← hS] at D hsR;have HS:Hid (S=zDD st bs):=hS;clear hS
     go_wp2_with (first
      | refine wpList_load_row rfl 207 (.tmp 5) rfl (w.heap.size+1+1) rfl 207 (S.list.map u32v).toArray (0,0) _ D underlying207 rfl hsR.out ?_
      | refine wpList_store_row rfl 207 (.tmp 4) (.tmp 36) rfl (w.heap.size+1) (S.list.map u32v).toArray rfl rfl 207 (List.replicate 8 (Value.int .u32 0)).toArray C hsR.out rfl (zGw S) ?_)
     exact bodyPost_ret (v:=.agg S.u32) (results_cell_row results195 _ _ (w.heap.size+1) 207 _ (0,0) _ rfl (C.row (S.list.map u32v)) underlying207 rfl hsR.out) rfl ⟨by rw[HS.out],Below.row BW (yh _) _⟩
theorem put4 (x:Nat):putB x 4=[UInt8.ofNat (x / 16777216 % 256),UInt8.ofNat (x / 65536 % 256),UInt8.ofNat (x / 256 % 256),UInt8.ofNat (x / 1 % 256)]:=rfl
theorem zIx (v:Nat) (h:v<256):u8v (UInt8.ofNat v)=.int .u8 (v:Int):=by
 unfold u8v;rw[UInt8.toNat_ofNat',Nat.mod_eq_of_lt h]
theorem zM2 (w:World) (x:Nat) (h:x<4294967296) (t:TypeId) (a b c d:Int) (ha:a=(x:Int) / 16777216) (hb:b=((x:Int) / 65536) % 256) (hc:c=((x:Int) / 256) % 256) (hd:d=(x:Int) % 256):
  Rd (w.alloc (.cells #[.int .u8 a,.int .u8 b,.int .u8 c,.int .u8 d] t)) (some ⟨w.heap.size,0,none⟩) 4 (putB x 4):=by
 have hA:=yr w [.int .u8 a,.int .u8 b,.int .u8 c,.int .u8 d] t;refine⟨by rw[zP];exact yf _,by unfold maxLen;decide,fun e=>by simp at e,fun _=>⟨_,_,rfl,fun i hi=>?_⟩⟩;rw[zP] at hi;rw[Nat.zero_add,hA.cell,← zCb (by rw[zP];exact hi),put4]
 have e1:u8v (UInt8.ofNat (x / 16777216 % 256))=.int .u8 a:=by rw[zIx _ (by omega),ha];congr 1;omega
 have e2:u8v (UInt8.ofNat (x / 65536 % 256))=.int .u8 b:=by rw[zIx _ (by omega),hb];congr 1
 have e3:u8v (UInt8.ofNat (x / 256 % 256))=.int .u8 c:=by rw[zIx _ (by omega),hc];congr 1
 have e4:u8v (UInt8.ofNat (x / 1 % 256))=.int .u8 d:=by rw[zIx _ (by omega),hd];congr 1;omega
 simp only[List.map_cons,List.map_nil,e1,e2,e3,e4]
theorem zF7 (st:S8) (w:World) (hst:st.ok):
  Calls prog 196 #[.agg st.u32] w fun e w'=>∃ u,e=.returned u∧Own w' w.heap.size u (zE1 st)∧Below w.heap.size w w':=by
 obtain⟨i0,hi,hz0,hz1,hz2⟩:=info_parts zCr
 have hs8:Hid ((Tryz.prog.info? 207).map (·.size)=some (st.list.map u32v).toArray.size):=by show _=_;rw[(zero_of_info zGx).2];rfl
 have HO:Hid st.ok:=hst;clear hst;have B:Arr (w.alloc (.cells (st.list.map u32v).toArray 207)) w.heap.size 207 (st.list.map u32v):=yr _ _ _
 show Calls prog 196 #[.agg #[.int .u32 (st.a:Int),.int .u32 (st.b:Int),.int .u32 (st.c:Int),.int .u32 (st.d:Int),.int .u32 (st.e:Int),.int .u32 (st.f:Int),.int .u32 (st.g:Int),.int .u32 (st.h:Int)]] w _
 go_enter func196,ntmps196
 go_wp2_with (first
  | (at_make;refine wpList_make_own _ rfl (.const (.int .i64 0)) (.const (.int .i64 32)) 22 rfl w.heap.size 5 i0 (.int .u8 0) 1 underlying22 hi hz0 hz1 .i64 .i64 _ 32 rfl rfl rfl (by rw[hz2];decide) (by unfold maxLen;decide) (by simp) ?_;intro w1 hown hgrow;replace B:=B.other hgrow (by simp))
  | refine wpList_load_row rfl 207 (.tmp 1) rfl w.heap.size rfl 207 (st.list.map u32v).toArray (0,0) _ B underlying207 rfl hs8.out ?_
  | go_in)
 have BW:Below w.heap.size w w1:=(zA _ _).grown hgrow (by simp) (fun k hk=>by simp at hk);rw[zB] at hown;clear hgrow hz0 hz1 hz2 hi B
 go_loopw [3,8] (fun v i wr=>∃ j:Nat,j≤8∧i=.int .i64 j∧Own wr w.heap.size v (zC5 st.list j)∧Below w.heap.size w wr)
  (fun _ i _=>8-(intOf i).toNat)
 case atStart=>exact⟨0,Nat.zero_le _,rfl,hown,BW⟩
 case round=>
  clear hown BW;obtain⟨j,hj,rfl,ho,BW⟩:=hrel;obtain⟨a6,c6,rfl,-⟩:=ho.rd;have hlen:Hid ((zC5 st.list j).length=4*j):=zHc st hj;rw[hlen.out] at ho ⊢
  by_cases hjl:j<8
  ·have hx:(st.list.map u32v).toArray[j]?=some (.int .u32 (st.list.getD j 0:Nat)):=by rw[ya];exact zFM u32v st hjl
   have bS:=(S8.words HO.out).getD j;have TS:Hid (zC5 st.list j++putB (st.list.getD j 0) 4=zC5 st.list (j+1)):=zGV st hjl;generalize st.list.getD j 0=x at *
   have ho2:=fun o=>ho.stay (zA wr o)
   go_wp2_with (first
    | refine zBP rfl 207 (.tmp 7) (.tmp 8) rfl 8 205 _ j .i64 .u32 (.int .u32 (x:Nat)) rfl rfl underlying207 hjl (by kernel_rfl) underlying205 hx ?_
    | (at_builtin;go_loud (refine zK rfl (.tmp 11) (.tmp 23) rfl w.heap.size _ (zC5 st.list j) rfl (ho2 _) _ 4 (putB x 4) rfl (zM2 wr x bS _ _ _ _ _ (by omega) (by omega) (by omega) (by omega)) (by rw[hlen.out,zP];omega) (by have:=BW.size;simp;omega) ?_);intro v8 w8 ho8 hg8)
    | go_in)
   have BW8:=(yt BW _).grown hg8 (by have:=BW.size;simp;omega) (fun k hk=>ho.ge k hk);rw[TS.out] at ho8;clear ho ho2 hg8 hx TS;go_roundw
   case rel=>exact⟨j+1,by omega,by go_num,ho8,BW8⟩
   case measure=>simp[intOf];omega
  ·have e:j=8:=by omega
   subst e;go_wp2;go_ret;exact⟨_,rfl,by rw[← zHd];exact ho,BW⟩
def zEG (bs:List UInt8):Int:=if bs.length≤600 then 0 else 2
def zEH (bs:List UInt8):List UInt8:=if bs.length≤600 then zW bs else []
theorem zIy (p:Option Addr) (q:Nat) (bs:List UInt8) (w:World) (hr:Rd w p q bs) (hT:Tabs w):
  Calls prog 158 #[.slice p bs.length q] w fun e w'=>∃ u,e=.returned (.agg #[.int .i64 (zEG bs),u])∧Own w' w.heap.size u (zEH bs)∧Below w.heap.size w w':=by
 by_cases h:bs.length≤600
 ·rw[show zEG bs=0 by simp[zEG,h],show zEH bs=zW bs by simp[zEH,h]]
  have hs8:Hid (∀ s:S8,(Tryz.prog.info? 207).map (·.size)=some (s.list.map u32v).toArray.size):=by intro s;rw[(zero_of_info zGx).2];rfl
  have hzs:Hid (∀ w,(zeroValue 207).run prog w=.ok (.agg (List.replicate 8 (Value.int .u32 0)).toArray) w):=(zero_of_info zGx).1;have HT:Hid (Tabs w):=hT;obtain⟨t0,fr0,hG⟩:=(hT.keep (zA w (.cells #[.int .i64 0,.slice none 0 0] 129))).1;have C1:=yr w [.int .i64 0,.slice none 0 0] 129;have D1:=yr (w.alloc (.cells #[.int .i64 0,.slice none 0 0] 129)) (List.replicate 8 (Value.int .u32 0)) 207;rw[zB] at D1;have C2:=(C1.old _ (.cells (List.replicate 8 (Value.int .u32 0)).toArray 207)).rowOther (g:=w.heap.size) (k:=w.heap.size+1) (by omega) (startN.list.map u32v).toArray;have D2:=D1.row (startN.list.map u32v);have BX:Below w.heap.size w (((w.alloc (.cells #[.int .i64 0,.slice none 0 0] 129)).alloc (.cells (List.replicate 8 (Value.int .u32 0)).toArray 207)).setRow (w.heap.size+1) (startN.list.map u32v).toArray):=Below.row (yt (zA _ _) _) (by omega) _;clear hT;go_enter func158,ntmps158
  go_wp2_with (first
   | refine wpList_load_row rfl 207 (.global 0) rfl 0 rfl t0 (startN.list.map u32v).toArray fr0 _ hG underlying207 rfl (hs8.out startN) ?_
   | refine zY rfl 207 rfl _ hzs.out (w.heap.size+1) (zB _ _) ?_
   | refine wpList_store_row rfl 207 (.tmp 3) (.tmp 10) rfl (w.heap.size+1) (startN.list.map u32v).toArray rfl rfl 207 (List.replicate 8 (Value.int .u32 0)).toArray D1 (hs8.out startN) rfl (zGw startN) ?_)
  refine(zLK p q bs _ (hr.keep BX) h).mono ?_;rintro e w3 ⟨u,rfl,hu,hb3⟩;replace C2:=C2.stay hb3;replace D2:=D2.stay hb3;have BW:Below w.heap.size w w3:=yn BX hb3;rw[size_setRow,zB,zB] at hu;clear BX hb3 D1 C1 hr hG;have hn:Hid ((padN bs).length=64*((bs.length+72) / 64)):=zGW bs
  have hn1:1≤(bs.length+72) / 64:=by omega
  have hn2:(bs.length+72) / 64≤11:=by omega
  obtain⟨a5,c5,rfl,hrd5⟩:=hu.rd;obtain⟨b5,o5,rfl,-⟩:=hrd5.2.2.2 (by rw[hn.out];omega)
  have hc1:64*((bs.length+72) / 64)≤c5:=by have:=hrd5.1;rw[hn.out] at this;exact this
  have hc2:c5≤2 ^ 63-1:=hrd5.2.1;clear hrd5;rw[hn.out] at hu ⊢;have HD:Hid (zW bs=zE1 (zAi (padN bs) ((bs.length+72) / 64))):=rfl;generalize (bs.length+72) / 64=n at *;clear h;go_wp2
  go_loopw [5] (fun i wr=>∃ k:Nat,k≤n∧i=.int .i64 (64*(k:Int))∧Arr wr (w.heap.size+1) 207 ((zAi (padN bs) k).list.map u32v)∧Arr wr w.heap.size 129 [.int .i64 0,.slice none 0 0]∧Own wr (w.heap.size+1+1) (.slice (some ⟨b5,o5,none⟩) (64*n) c5) (padN bs)∧Below w.heap.size w wr)
   (fun i _=>64*n-(intOf i).toNat)
  case atStart=>exact⟨0,Nat.zero_le _,rfl,D2,C2,hu,BW⟩
  case round=>
   clear D2 C2 hu BW;obtain⟨k,hk,rfl,D,C,hu,BW⟩:=hrel
   by_cases hlt:k<n
   ·have hrd:Rd wr (some ⟨b5,o5,none⟩) c5 (padN bs):=by have h:=hu;rw[← hn.out] at h;exact Rd.own h
    have hcut:Hid (Rd wr (some ⟨b5,o5+64*k,none⟩) (c5-64*k) (((padN bs).drop (64*k)).take 64)):=hrd.cut (64*k) 64 (c5-64*k) (by rw[hn.out];omega) (by omega) (by have:=hrd.2.1;omega)
    have h64:Hid ((((padN bs).drop (64*k)).take 64).length=64):=by show _=_;have:=hn.out;simp;omega
    have HB:Hid (zAi (padN bs) (k+1)=zDD (zAi (padN bs) k) (((padN bs).drop (64*k)).take 64)):=zE9 _ _;have hok:Hid ((zAi (padN bs) k).ok):=zDW (padN bs) k;have hTr:Hid (Tabs wr):=HT.out.keep BW;generalize zAi (padN bs) k=st at *;generalize ((padN bs).drop (64*k)).take 64=blk at *;have hne:=yq wr
    have hwk:IntKind.i64.wrap (64*(k:Int)+64)=64*(k:Int)+64:=by rw[IntKind.wrap_i64];omega
    have hi1:(64*(k:Int)).toNat=64*k:=by omega
    have hi2:(64*(k:Int)+64).toNat=64*k+64:=by omega
    clear hrd;go_wp2;refine zB8 (C:=fun w'=>∃ s:HW wr,w'=s.w) 7 rfl rfl rfl (by kernel_rfl) (by kernel_rfl) (by kernel_rfl) (by kernel_rfl) ⟨⟨wr.drew,(Below.refl _ _).drew⟩,rfl⟩ ?_;intro Z hZ;simp only[List.take_succ_cons,List.take_zero];refine zB7 rfl 207 (.tmp 3) rfl (w.heap.size+1) rfl 207 st.u32 (0,0) _ (fun w' h=>by obtain⟨s,rfl⟩:=h;exact D.stay s.h) underlying207 rfl (hs8.out st) ?_
    go_simp
    repeat (go_big_quiet_step ((go_at_call 195;exact Calls.stay (zF6 st b5 (o5+64*k) (c5-64*k) blk _ (hcut.out.keep (HW.h _)) h64.out (hTr.out.keep (HW.h _)) hok.out))))
    refine wpQuiet_nil (hZ _ ?_);rintro w' ⟨s,rfl⟩ K hK;refine wp_store_row 207 (.tmp 3) (.tmp 25) rfl (w.heap.size+1) (zDD st blk).u32 rfl rfl 207 _ (D.stay s.h) (hs8.out _) (zKZ _ _) (zGw _) (hK _ _ ?_);clear hne hwk hi1 hi2;go_wp2;go_roundw
    case rel=>
     exact⟨k+1,hlt,by go_num,by rw[HB.out];exact(D.stay s.h).row ((zDD st blk).list.map u32v),(C.stay s.h).rowOther (by omega) _,(hu.stay s.h).row (fun k hk=>by have:=hu.ge k hk;omega) _,Below.row (yn BW s.h) (by omega) _⟩
    case measure=>simp[intOf];omega
   ·have e:k=n:=by omega
    subst e;have hok:Hid ((zAi (padN bs) k).ok):=zDW (padN bs) k;generalize zAi (padN bs) k=st at *;clear hu hk hlt;have hsS:=hs8.out st;go_wp2_with (refine wpList_load_row rfl 207 (.tmp 3) rfl (w.heap.size+1) rfl 207 (st.list.map u32v).toArray (0,0) _ D underlying207 rfl hsS ?_);refine(zF7 st _ hok.out).mono ?_;rintro e w7 ⟨u7,rfl,ho,hb7⟩;obtain⟨a7,c7,rfl,-⟩:=ho.rd;replace C:=C.stay hb7;have h0:=C.cell 0;have h1:=C.cell 1;simp at h0 h1;have f0:=C.frozen;have zz:=C.lt;replace BW:=yn BW hb7
    have hge:Hid (w.heap.size<wr.heap.size):=by have:=D.lt;show _<_;omega
    rw[zGG] at *;go_wp2;refine bodyPost_ret (v:=.agg #[.int .i64 0,.slice a7 32 c7]) (by simp[results,results158,go_sem,h0,h1]) rfl ⟨_,rfl,?_,(BW.setCell (yf _) _).setCell (yf _) _⟩;rw[HD.out];exact((ho.set hge.out _).set hge.out _).lower (Nat.le_of_lt hge.out)
 ·rw[show zEG bs=2 by simp[zEG,h],show zEH bs=[] by simp[zEH,h]];go_enter func158,ntmps158;go_wp2;exact bodyPost_ret (v:=.agg #[.int .i64 2,.slice none 0 0]) (by simp[results,results158,go_sem]) rfl ⟨_,rfl,zO _ _,zA _ _⟩
theorem put2 (m:Nat) (h:m≤255):putB m 2=[0,UInt8.ofNat m]:=by
 show [UInt8.ofNat (m / 256 ^ 1 % 256),UInt8.ofNat (m / 256 ^ 0 % 256)]=_
 rw[show m / 256 ^ 1 % 256=0 by omega,show m / 256 ^ 0 % 256=m by simp;omega];rfl
theorem zIB (W:World) (f ctx:List UInt8) (m:Nat) (hm:m≤255) (hf:f.length≤46) (hc:ctx.length≤100) (p2:Option Addr) (q2:Nat) (hr:Rd W p2 q2 ctx):
  Calls prog 214 #[.slice (some ⟨(zE2 W f).heap.size+1+1,0,none⟩) 4 4]
   ((((zE2 W f).alloc (.cells #[.int .u8 0,.int .u8 (m:Int),.int .u8 ((f.length:Int) % 256)] 5)).alloc (.cells #[.int .u8 (ctx.length:Int)] 5)).alloc (.cells #[.slice (some ⟨(zE2 W f).heap.size,0,none⟩) 3 3,.slice (some ⟨W.heap.size,0,none⟩) f.length (zDE W f),.slice (some ⟨(zE2 W f).heap.size+1,0,none⟩) 1 1,.slice p2 ctx.length q2] 22))
   fun e w'=>∃ u,e=.returned u∧Own w' W.heap.size u (putB m 2++[UInt8.ofNat f.length]++f++[UInt8.ofNat ctx.length]++ctx)∧Below W.heap.size W w':=by
 have hbW:=zB1 W f;have r2:=zHM W f (by unfold maxLen;omega);have r4:=hr.keep hbW;generalize zDE W f=c2 at *;generalize zE2 W f=W1 at *
 have r1:=zFd W1 [.int .u8 0,.int .u8 (m:Int),.int .u8 ((f.length:Int) % 256)] [0,UInt8.ofNat m,UInt8.ofNat f.length] 5 3 (by
  simp only[List.map_cons,List.map_nil];rw[zMw m (by omega),zMw f.length (by omega),show((f.length:Int) % 256)=f.length by omega]
  rfl) rfl (by decide)
 have b1:=zA W1 (.cells #[.int .u8 0,.int .u8 (m:Int),.int .u8 ((f.length:Int) % 256)] 5);have z1:=zB W1 (.cells #[.int .u8 0,.int .u8 (m:Int),.int .u8 ((f.length:Int) % 256)] 5);replace r2:=r2.keep b1;replace r4:=r4.keep b1;have r1':Rd (W1.alloc (.cells #[.int .u8 0,.int .u8 (m:Int),.int .u8 ((f.length:Int) % 256)] 5)) (some ⟨W1.heap.size,0,none⟩) 3 [0,UInt8.ofNat m,UInt8.ofNat f.length]:=r1;replace hbW:=yn hbW b1;clear r1 b1;generalize W1.alloc (.cells #[.int .u8 0,.int .u8 (m:Int),.int .u8 ((f.length:Int) % 256)] 5)=W2 at *
 have r3:=zFd W2 [.int .u8 (ctx.length:Int)] [UInt8.ofNat ctx.length] 5 1 (by
  simp only[List.map_cons,List.map_nil]
  rw[zMw ctx.length (by omega)]) rfl (by decide)
 have b2:=zA W2 (.cells #[.int .u8 (ctx.length:Int)] 5);have z2:=zB W2 (.cells #[.int .u8 (ctx.length:Int)] 5);replace r1':=r1'.keep b2;replace r2:=r2.keep b2;replace r4:=r4.keep b2;have r3':Rd (W2.alloc (.cells #[.int .u8 (ctx.length:Int)] 5)) (some ⟨W2.heap.size,0,none⟩) 1 [UInt8.ofNat ctx.length]:=r3;replace hbW:=yn hbW b2;clear r3 b2;generalize W2.alloc (.cells #[.int .u8 (ctx.length:Int)] 5)=W3 at *;rw[← z1,← z2];have h:=zFK [⟨some ⟨W1.heap.size,0,none⟩,3,[0,UInt8.ofNat m,UInt8.ofNat f.length]⟩,⟨some ⟨W.heap.size,0,none⟩,c2,f⟩,⟨some ⟨W2.heap.size,0,none⟩,1,[UInt8.ofNat ctx.length]⟩,⟨p2,q2,ctx⟩] W3.heap.size 0 4 _
  (zLL W3 ⟨some ⟨W1.heap.size,0,none⟩,3,[0,UInt8.ofNat m,UInt8.ofNat f.length]⟩ ⟨some ⟨W.heap.size,0,none⟩,c2,f⟩ ⟨some ⟨W2.heap.size,0,none⟩,1,[UInt8.ofNat ctx.length]⟩ ⟨p2,q2,ctx⟩ 22 r1' r2 r3' r4)
  (by simp[flat];omega) (by simp)
 have hz:=hbW.size;refine h.mono ?_;rintro e w1 ⟨u,rfl,k,hb⟩;refine⟨u,rfl,?_,yn hbW (yu hb)⟩;rw[put2 m hm];have hk:=k.lower (B':=W.heap.size) (by rw[zB];omega)
 simpa [flat] using hk
theorem zDb (n:Int) (w:World):Calls prog 228 #[.int .i64 n] w fun e w'=>e=.returned (.bool (inB n 0 255))∧w'=w:=by
 by_cases h0:0≤n
 ·by_cases h1:n≤255
  ·rw[zIY h0 h1];go_enter func228,ntmps228;go_wp2;go_ret;exact⟨rfl,rfl⟩
  ·rw[zD5 (by omega)];go_enter func228,ntmps228;go_wp2;go_ret;exact⟨rfl,rfl⟩
 ·rw[zD5 (by omega)];go_enter func228,ntmps228;go_wp2;go_ret;exact⟨rfl,rfl⟩
theorem zBg (l:List UInt8) (w:World) (hl:l.length≤1048576):
  Calls prog 197 #[.string (strB l)] w fun e w'=>e=.returned (.bool (zAU l))∧w'=w:=by
 have hss:=zBN l
 by_cases hlen:inB (l.length:Int) 1 40=true
 ·have hlo:(1:Int)≤l.length:=by simp[inB] at hlen;omega
  have hhi:(l.length:Int)≤40:=by simp[inB] at hlen;omega
  have HLB:Hid (inB (l.length:Int) 1 40=true):=hlen;clear hlen;go_enter func197,ntmps197
  have hd1:decide ((l.length:Int)<1)=false:=by simp;omega
  have hd2:decide ((40:Int)<(l.length:Int))=false:=by simp;omega
  go_wp2;clear hd1 hd2
  go_loop [3] (fun i=>∃ j:Nat,j≤l.length∧i=.int .i64 j∧(l.take j).all zB4=true)
   (fun i=>l.length-(intOf i).toNat)
  case atStart=>exact⟨0,Nat.zero_le _,rfl,by simp⟩
  case round=>
   obtain⟨j,hj,rfl,hall⟩:=hrel
   by_cases hjl:j<l.length
   ·have hat:=zMa l j;have h0:=zDj l j;have h1:=zDk l j
    have hlt:(j:Int)<(l.length:Int):=by omega
    have HC:Hid (zB4 l[j]=(decide (32≤at8 l j)&&decide (at8 l j≤126))):=zKR hjl;have HS:Hid ((l.take (j+1)).all zB4=((l.take j).all zB4&&zB4 l[j])):=zGv hjl
    have HF:Hid (zB4 l[j]=false→zAU l=false):=fun h=>by rw[zEk,zIA hjl h];rfl
    generalize at8 l j=x at *;have HA:Hid ((l.take j).all zB4=true):=hall;clear hall
    by_cases hx:x<32
    ·have hlab:Hid (zAU l=false):=HF.out (by rw[HC.out];simp;omega);go_wp2;go_ret;exact⟨by rw[hlab.out];rfl,rfl⟩
    ·by_cases hx2:126<x
     ·have hlab:Hid (zAU l=false):=HF.out (by rw[HC.out];simp;omega);go_wp2;go_ret;exact⟨by rw[hlab.out];rfl,rfl⟩
     ·have hnx:Hid ((l.take (j+1)).all zB4=true):=by show _=_;rw[HS.out,HA.out,HC.out];simp;omega
      go_wp2
      go_round
      case rel=>exact⟨j+1,by omega,by go_num,hnx.out⟩
      case measure=>simp[intOf];omega
   ·have e:j=l.length:=by omega
    subst e;rw[List.take_length] at hall
    have HF:Hid (zAU l=true):=by show _=_;rw[zEk,hall,HLB.out];rfl
    clear hall;go_wp2;go_ret;exact⟨by rw[HF.out];rfl,rfl⟩
 ·have HF:Hid (zAU l=false):=by show _=_;rw[zEk];simp at hlen;rw[hlen];simp
  rw[HF.out]
  have hlen2:¬ ((1:Int)≤l.length∧(l.length:Int)≤40):=by simpa [inB] using hlen
  clear hlen
  by_cases h1:(l.length:Int)<1
  ·go_enter func197,ntmps197;go_wp2;go_ret;exact⟨rfl,rfl⟩
  ·have h2:(40:Int)<l.length:=by omega
   clear hlen2;go_enter func197,ntmps197;go_wp2;go_ret;exact⟨rfl,rfl⟩
theorem zFC (p2:Option Addr) (q2:Nat) (l ctx:List UInt8) (n:Int) (w:World) (hl:l.length≤1048576):
  Calls prog 227 #[.string (strB l),.slice p2 ctx.length q2,.int .i64 n] w fun e w'=>e=.returned (.int .i64 (zAm l ctx n))∧w'=w:=by
 cases h1:zAU l
 ·rw[show zAm l ctx n=5 by simp[zAm,h1]];go_enter func227,ntmps227;go_wp2_with fail;refine(zBg l _ hl).mono ?_;rintro e w' ⟨rfl,hw⟩;subst hw;rw[h1];go_wp2;go_ret;exact⟨rfl,rfl⟩
 ·by_cases h2:ctx.length≤100
  ·cases h3:inB n 0 255
   ·rw[show zAm l ctx n=3 by simp[zAm,h1,h2,h3]];go_enter func227,ntmps227;go_wp2_with fail;refine(zBg l _ hl).mono ?_;rintro e w' ⟨rfl,hw⟩;subst hw;rw[h1];go_wp2_with fail;refine(zDb n _).mono ?_;rintro e w' ⟨rfl,hw⟩;subst hw;rw[h3];go_wp2;go_ret;exact⟨rfl,rfl⟩
   ·rw[show zAm l ctx n=0 by simp[zAm,h1,h2,h3]];go_enter func227,ntmps227;go_wp2_with fail;refine(zBg l _ hl).mono ?_;rintro e w' ⟨rfl,hw⟩;subst hw;rw[h1];go_wp2_with fail;refine(zDb n _).mono ?_;rintro e w' ⟨rfl,hw⟩;subst hw;rw[h3];go_wp2;go_ret;exact⟨rfl,rfl⟩
  ·rw[show zAm l ctx n=2 by simp[zAm,h1,h2]];go_enter func227,ntmps227;go_wp2_with fail;refine(zBg l _ hl).mono ?_;rintro e w' ⟨rfl,hw⟩;subst hw;rw[h1];go_wp2;go_ret;exact⟨rfl,rfl⟩
theorem zHi (p2:Option Addr) (q2:Nat) (l ctx:List UInt8) (n:Int) (w:World) (hr2:Rd w p2 q2 ctx) (hl:l.length≤1048576):
  Calls prog 221 #[.string (strB l),.slice p2 ctx.length q2,.int .i64 n] w fun e w'=>∃ u,e=.returned (.agg #[.int .i64 (zAm l ctx n),u])∧Own w' w.heap.size u (labL l ctx n)∧Below w.heap.size w w'∧(zAm l ctx n≠0→u=.slice none 0 0):=by
 by_cases hc:zAm l ctx n=0
 ·obtain⟨h1,h2,h3⟩:=zDx hc;have h40:=zCM h1;obtain⟨m,rfl,hm⟩:=zKS h3
  have K0:Hid (∀ w,Calls prog 227 #[.string (strB l),.slice p2 ctx.length q2,.int .i64 (m:Int)] w fun e w'=>e=.returned (.int .i64 0)∧w'=w):=fun w=>by
   have g:=zFC p2 q2 l ctx (m:Int) w hl;rw[hc] at g;exact g
  rw[show labL l ctx (m:Int)=zA3 l ctx m by simp[labL,hc],hc];have ha:=zJu (P:=prog) zCe l (by simp[zCe];omega);rw[← zHf] at ha
  have hlf:Hid ((zCe++l).length=6+l.length):=by show _=_;simp[zCe];omega
  have hfs:(strB (zCe++l)).size=6+l.length:=by rw[zBN,hlf.out]
  have hb:=zHL (P:=prog) (src:=9) (dst:=22) underlying9 underlying22 underlying5 (zCe++l);have HE:Hid (zA3 l ctx m=putB m 2++[UInt8.ofNat (6+l.length)]++(zCe++l)++[UInt8.ofNat ctx.length]++ctx):=zHg l ctx m;generalize zCe++l=f at *;have HR:Hid (Rd w p2 q2 ctx):=hr2;clear hr2 hc;go_enter func221,ntmps221;go_wp2_with fail;refine(K0.out _).mono ?_;rintro e w' ⟨rfl,hw⟩;subst hw;go_wp2_with fail;have K:=zIB (w.alloc (.cells #[.int .i64 0,.slice none 0 0] 129)) f ctx m hm (by rw[hlf.out];omega) h2 p2 q2 (HR.out.keep (zA _ _));rw[zB] at K;refine K.mono ?_;rintro e w1 ⟨u,rfl,ho,hbb⟩
  have hbb':Below (w.alloc (.cells #[.int .i64 0,.slice none 0 0] 129)).heap.size (w.alloc (.cells #[.int .i64 0,.slice none 0 0] 129)) w1:=by rw[zB];exact hbb
  obtain⟨hd,hf⟩:=zHE hbb;rw[hlf.out,← HE.out] at ho;obtain⟨a,cap,rfl,-⟩:=ho.rd;have hres:=yu hbb';clear hbb hbb' K ha hb;go_wp2;refine bodyPost_ret (v:=.agg #[.int .i64 0,.slice a (zA3 l ctx m).length cap]) (by simp[results,results221,go_sem,hd]) rfl ⟨_,rfl,?_,(hres.setCell (yf _) _).setCell (yf _) _,fun h=>absurd rfl h⟩;exact((ho.set (yg _) _).set (yg _) _).lower (yh _)
 ·rw[show labL l ctx n=[] by simp[labL,hc]]
  have K0:Hid (∀ w,Calls prog 227 #[.string (strB l),.slice p2 ctx.length q2,.int .i64 n] w fun e w'=>e=.returned (.int .i64 (zAm l ctx n))∧w'=w):=fun w=>zFC p2 q2 l ctx n w hl
  generalize zAm l ctx n=c at *
  have cz1:(c != 0)=true:=by rw[bne_iff_ne];exact hc
  clear hc;go_enter func221,ntmps221;go_wp2_with fail;refine(K0.out _).mono ?_;rintro e w' ⟨rfl,hw⟩;subst hw;go_wp2;exact bodyPost_ret (v:=.agg #[.int .i64 c,.slice none 0 0]) (by simp[results,results221,go_sem]) rfl ⟨_,rfl,zO _ _,(zA _ _),fun _=>rfl⟩
theorem zKa (p2:Option Addr) (q2:Nat) (l ctx:List UInt8) (n:Int) (w:World) (hr2:Rd w p2 q2 ctx) (hl:l.length≤1048576):
  Calls prog 221 #[.string (strB l),.slice p2 ctx.length q2,.int .i64 n] w fun e w'=>∃ u,e=.returned (.agg #[.int .i64 (zAm l ctx n),u])∧Own w' w.heap.size u (labL l ctx n)∧Below w.heap.size w w':=
 (zHi p2 q2 l ctx n w hr2 hl).mono fun _ _ ⟨u,h1,h2,h3,_⟩=>⟨u,h1,h2,h3⟩
theorem zIC:(Tryz.prog.info? 239).map (fun i=>(i.zero,i.size))=some (some (.agg (List.replicate 64 (Value.int .u8 0)).toArray),64):=by kernel_rfl
theorem zEI (ks:List UInt8) (x:UInt8) (xi:Int) (hx:xi=(x.toNat:Int)) (w:World) (h64:ks.length=64):
  Calls prog 230 #[.agg (ks.map u8v).toArray,.int .u8 xi] w fun e w'=>∃ u,e=.returned u∧Own w' w.heap.size u (ks.map (· ^^^ x))∧Below w.heap.size w w':=by
 subst hx;obtain⟨i0,hi,hz0,hz1,hz2⟩:=info_parts zCr;have HL:Hid (ks.length=64):=h64
 have hsz:Hid ((Tryz.prog.info? 239).map (·.size)=some (ks.map u8v).toArray.size):=by show _=_;rw[(zero_of_info zIC).2];simp[h64]
 have B:Arr (w.alloc (.cells (ks.map u8v).toArray 239)) w.heap.size 239 (ks.map u8v):=yr _ _ _;clear h64;go_enter func230,ntmps230
 go_wp2_with (first
  | (at_make;go_loud (refine wpList_make_full _ rfl (.const (.int .i64 64)) (.const (.int .i64 64)) 22 rfl w.heap.size 5 i0 (.int .u8 0) 1 underlying22 hi hz0 hz1 .i64 .i64 _ _ 64 rfl rfl rfl rfl (by rw[hz2];decide) (by unfold maxLen;decide) (by simp) ?_);intro w1 hown hgrow;replace B:=B.other hgrow (by simp))
  | refine wpList_load_row rfl 239 (.tmp 2) rfl w.heap.size rfl 239 (ks.map u8v).toArray (0,0) _ B underlying239 rfl hsz.out ?_)
 have hA1:Arr w1 (w.heap.size+1) 5 ((zs 64).map u8v):=by
  have h:=(zAT hown).arr (zAX 64);rw[zB] at h;exact h
 have BW:Below w.heap.size w w1:=(zA _ _).grown hgrow (by simp) (fun k hk=>by simp at hk);obtain⟨ys,hys⟩:∃ ys,Hid (ys=ks.map (· ^^^ x)):=⟨_,rfl⟩
 have HY:Hid (ys.length=64):=by show _=_;rw[hys.out,List.length_map];exact HL.out
 clear hown hgrow hi hz0 hz1 hz2 B hsz
 go_loopw [10] (fun i wr=>∃ j:Nat,j≤64∧i=.int .i64 j∧Arr wr (w.heap.size+1) 5 (part ys ys.length j)∧Below w.heap.size w wr)
  (fun i _=>64-(intOf i).toNat)
 case atStart=>exact⟨0,Nat.zero_le _,rfl,by rw[zJk,HY.out];simpa [zs,u8v] using hA1,BW⟩
 case round=>
  clear hA1 BW;obtain⟨j,hj,rfl,A,BW⟩:=hrel
  by_cases hjl:j<64
  ·have hjk:j<ks.length:=by rw[HL.out];exact hjl
   have hjy:j<ys.length:=by rw[HY.out];exact hjl
   have hx:(ks.map u8v).toArray[j]?=some (.int .u8 ((ks.getD j 0).toNat:Int)):=by rw[ya,zCb hjk];rfl
   have cx:=(A.cell j).trans (zMT ys j hjy);have fx:=A.frozen j;have R:=A.set j (.int .u8 (at8 ys j));rw[zK3 ys j hjy] at R
   have RB:=fun v=>Below.setCell (p:=⟨w.heap.size+1,j,none⟩) BW (yh _) v
   have hxo:=zKQ (ks.getD j 0) x
   have hay:at8 ys j=((ks.getD j 0 ^^^ x).toNat:Int):=by
    rw[zBk hjy];simp only[hys.out,List.getElem_map];rw[show ks.getD j 0=ks[j] by simp[hjk]]
   rw[hay] at R;generalize ks.getD j 0=y at *;clear A hay;go_wp2_with (refine zBP rfl 239 (.tmp 9) (.tmp 10) rfl 64 5 _ j .i64 .u8 (.int .u8 (y.toNat:Int)) rfl rfl underlying239 hjl (by kernel_rfl) underlying5 hx ?_);go_roundw
   case rel=>exact⟨j+1,by omega,by go_num,R,RB _⟩
   case measure=>simp[intOf];omega
  ·have e:j=64:=by omega
   subst e
   have e2:part ys ys.length 64=ys.map u8v:=by rw[← HY.out];exact zK2 ys
   rw[e2] at A;have ho:=A.own (yh _) (by rw[HY.out];decide);rw[HY.out] at ho;go_wp2;go_ret;exact⟨_,rfl,by rw[← hys.out];exact ho,BW⟩
theorem zHj (p p2:Option Addr) (q q2:Nat) (xs ys:List UInt8) (w:World) (hr:Rd w p q xs) (hr2:Rd w p2 q2 ys) (hl:xs.length+ys.length≤100000):
  Calls prog 214 #[.slice (some ⟨w.heap.size,0,none⟩) 2 2] (w.alloc (.cells #[.slice p xs.length q,.slice p2 ys.length q2] 22)) fun e w'=>∃ u,e=.returned u∧Own w' w.heap.size u (xs++ys)∧Below w.heap.size w w':=by
 have h:=zFK [⟨p,q,xs⟩,⟨p2,q2,ys⟩] w.heap.size 0 2 _ (zMu w ⟨p,q,xs⟩ ⟨p2,q2,ys⟩ 22 hr hr2) (by rw[zIl,List.length_append];exact hl) (by simp);rw[zIl] at h;refine h.mono ?_;rintro e w1 ⟨u,rfl,k,hb⟩;exact⟨u,rfl,k.lower (by rw[zB];omega),yu hb⟩
theorem zFj (p:Option Addr) (q:Nat) (bs:List UInt8) (w:World) (hr:Rd w p q bs) (hT:Tabs w) (hl:bs.length≤600):
  Calls prog 158 #[.slice p bs.length q] w fun e w'=>∃ a c,e=.returned (.agg #[.int .i64 0,.slice a 32 c])∧Own w' w.heap.size (.slice a 32 c) (zW bs)∧Below w.heap.size w w':=by
 have h:=zIy p q bs w hr hT;rw[show zEG bs=0 by simp[zEG,hl],show zEH bs=zW bs by simp[zEH,hl]] at h;refine h.mono ?_;rintro e w1 ⟨u,rfl,k,hb⟩;obtain⟨a,c,rfl,-⟩:=k.rd;rw[zAz] at k ⊢;exact⟨a,c,rfl,k,hb⟩
theorem zHk (p:Option Addr) (q:Nat) (key:List UInt8) (ps:List Pc) (b o cap:Nat) (w:World) (hr:Rd w p q key) (hp:Pcs w b o ps) (hT:Tabs w) (hk:key.length≤64) (hl:(flat ps).length≤536) (hn:ps.length≤1000):
  Calls prog 223 #[.slice p key.length q,.slice (some ⟨b,o,none⟩) ps.length cap] w fun e w'=>∃ u,e=.returned u∧Own w' w.heap.size u (macN key (flat ps))∧Below w.heap.size w w':=by
 have HI:Hid ((Tryz.prog.info? 5).map (·.size)=some 1):=by show _=_;obtain⟨i0,hi,hz0,hz1,hz2⟩:=info_parts zCr;rw[hi];simp[hz1]
 have HR:Hid (Rd w p q key):=hr;have HP:Hid (Pcs w b o ps):=hp;have HT:Hid (Tabs w):=hT;have HK:Hid (key.length≤64):=hk;have HL:Hid ((flat ps).length≤536):=hl;clear hr hp hT hk hl
 have hzs:Hid (∀ w,(zeroValue 239).run prog w=.ok (.agg ((zs 64).map u8v).toArray) w):=by
  rw[show(zs 64).map u8v=List.replicate 64 (Value.int .u8 0) by simp[zs,u8v]];exact(zero_of_info zIC).1
 have A0:=yr w ((zs 64).map u8v) 239;have hb0:Below w.heap.size w (w.alloc (.cells ((zs 64).map u8v).toArray 239)):=zA _ _;have HZ:Hid ((keyZ key).length=64):=zIs HK.out
 have hsz:Hid ((Tryz.prog.info? 239).map (·.size)=some ((keyZ key).map u8v).toArray.size):=by show _=_;rw[(zero_of_info zIC).2];simp[HZ.out]
 obtain⟨b1,hb1⟩:∃ b,Hid (b=zC1 key 54):=⟨_,rfl⟩;obtain⟨b2,hb2⟩:∃ b,Hid (b=zC1 key 92):=⟨_,rfl⟩;obtain⟨data,hdata⟩:∃ d,Hid (d=flat ps):=⟨_,rfl⟩
 have HE:Hid (macN key (flat ps)=zW (b2++zW (b1++data))):=by show _=_;rw[hb1.out,hb2.out,hdata.out];rfl
 have L1:Hid (b1.length=64):=by show _=_;rw[hb1.out];exact zDX _ HK.out
 have L2:Hid (b2.length=64):=by show _=_;rw[hb2.out];exact zDX _ HK.out
 have C1:Hid (∀ w,Calls prog 230 #[.agg ((keyZ key).map u8v).toArray,.int .u8 54] w fun e w'=>∃ u,e=.returned u∧Own w' w.heap.size u b1∧Below w.heap.size w w'):=fun w=>by rw[hb1.out,zFg];exact zEI (keyZ key) 54 _ rfl _ HZ.out
 have C2:Hid (∀ w,Calls prog 230 #[.agg ((keyZ key).map u8v).toArray,.int .u8 92] w fun e w'=>∃ u,e=.returned u∧Own w' w.heap.size u b2∧Below w.heap.size w w'):=fun w=>by rw[hb2.out,zFg];exact zEI (keyZ key) 92 _ rfl _ HZ.out
 have CJ:Hid (∀ w,Pcs w b o ps→Calls prog 214 #[.slice (some ⟨b,o,none⟩) ps.length cap] w fun e w'=>∃ u,e=.returned u∧Own w' w.heap.size u data∧Below w.heap.size w w'):=fun w h=>by rw[hdata.out];exact zFK ps b o cap w h (by have:=HL.out;omega) hn
 have HD:Hid (data.length≤536):=by show _≤_;rw[hdata.out];exact HL.out
 have hkl:key.length≤64:=HK.out;clear hb1 hb2 hdata;go_enter func223,ntmps223
 go_wp2_with (first
  | refine zY rfl 239 rfl _ hzs.out w.heap.size rfl ?_
  | (refine wpList_copy_splice rfl (.tmp 8) (.tmp 9) 22 22 rfl 5 underlying22 HI.out _ _ _ _ _ _ rfl rfl w.heap.size 0 ((zs 64).map u8v) 239 A0 (key.map u8v) (by rw[List.length_map];exact(Nat.min_eq_left (by omega)).symm) (fun hp=>⟨rfl,(HR.out.keep hb0).addr (by simpa using hp)⟩) (by simp[zAX];omega) (by intro u hu;obtain⟨n,-,rfl⟩:=List.mem_map.1 hu;rfl) w.heap.size w hb0 (yf _) ?_;intro w2 hA2 hb2;replace hA2:=zIt hA2))
 refine(CJ.out _ (HP.out.keep hb2)).mono ?_;rintro e w3 ⟨u3,rfl,k3,hb3⟩;obtain⟨p3,q3,rfl,rd3⟩:=k3.rd;have A:=hA2.stay hb3;have BW:=yn hb2 hb3;clear k3 hb3 hb2 hA2 A0 hb0;go_wp2_with (refine wpList_load_row rfl 239 (.tmp 5) rfl w.heap.size rfl 239 ((keyZ key).map u8v).toArray (0,0) _ A underlying239 rfl hsz.out ?_);refine(C1.out _).mono ?_;rintro e w4 ⟨u4,rfl,k4,hb4⟩;obtain⟨p4,q4,rfl,rd4⟩:=k4.rd;replace A:=A.stay hb4;replace BW:=yn BW hb4;replace rd3:=rd3.keep hb4;clear k4 hb4;go_wp2_with fail;refine(zHj p4 p3 q4 q3 b1 data _ rd4 rd3 (by have:=L1.out;have:=HD.out;omega)).mono ?_;rintro e w5 ⟨u5,rfl,k5,hb5⟩;obtain⟨p5,q5,rfl,rd5⟩:=k5.rd;replace A:=A.stay hb5;replace BW:=yn BW hb5;clear k5 hb5 rd3 rd4
 have HX1:Hid ((b1++data).length≤600):=by show _≤_;have:=L1.out;have:=HD.out;rw[List.length_append];omega
 generalize b1++data=x1 at *;go_wp2_with fail;refine(zFj p5 q5 x1 _ rd5 (HT.out.keep BW) HX1.out).mono ?_;rintro e w6 ⟨p6,q6,rfl,k6,hb6⟩;replace A:=A.stay hb6;replace BW:=yn BW hb6;have HD1:Hid ((zW x1).length=32):=zAz _;generalize zW x1=d1 at *;have rd6:=Rd.own k6;have hf:=zAk 0 p6 32 q6;clear k6 hb6 rd5;go_wp2_with (refine wpList_load_row rfl 239 (.tmp 5) rfl w.heap.size rfl 239 ((keyZ key).map u8v).toArray (0,0) _ A underlying239 rfl hsz.out ?_);refine(C2.out _).mono ?_;rintro e w7 ⟨u7,rfl,k7,hb7⟩;obtain⟨p7,q7,rfl,rd7⟩:=k7.rd;replace BW:=yn BW hb7;replace rd6:=rd6.keep hb7;clear k7 hb7 A hf;go_wp2_with fail;have K7:=zHj p7 p6 q7 q6 b2 d1 _ rd7 rd6 (by have:=L2.out;have:=HD1.out;omega);rw[HD1.out] at K7;refine K7.mono ?_;rintro e w8 ⟨u8,rfl,k8,hb8⟩;obtain⟨p8,q8,rfl,rd8⟩:=k8.rd;replace BW:=yn BW hb8;clear k8 hb8 rd6 rd7 K7
 have HX2:Hid ((b2++d1).length≤600):=by show _≤_;have:=L2.out;have:=HD1.out;rw[List.length_append];omega
 generalize b2++d1=x2 at *;go_wp2_with fail;refine(zFj p8 q8 x2 _ rd8 (HT.out.keep BW) HX2.out).mono ?_;rintro e w9 ⟨p9,q9,rfl,k9,hb9⟩;have hz:=BW.size;replace BW:=yn BW hb9;have hf:=zAk 0 p9 32 q9;go_wp2;go_ret;exact⟨_,rfl,by rw[HE.out];exact k9.lower hz,BW⟩
end Go.Proofs.YtiabacnmmojfjaaGreatDoor
