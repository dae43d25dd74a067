import Derived.Test.YtbaldmmbphbinaaGreatDoorJoint13
import Derived.Test.YtbaldmmbphbinaaGreatDoorJoint10
import Derived.Test.YtbaldmmbphbinaaGreatDoorJoint1
set_option maxHeartbeats 2000000
set_option maxRecDepth 4000
namespace Go.Proofs.YtbaldmmbphbinaaGreatDoor
open Go.ChangeShapes Go.WideShapes Go.ChangeAt Go.RowKit
def Tabs (w:World):Prop:=
 (∃ t fr,w.heap[0]?=some (.cells (startN.list.map u32v).toArray t fr))∧(∃ t fr,w.heap[1]?=some (.cells (keysN.map u32v).toArray t fr))
theorem zHH {w:World} {g:Nat} {o:Obj} (h:w.heap[g]?=some o):g<w.heap.size:=(Array.getElem?_eq_some_iff.1 h).1
theorem Tabs.keep {w w':World} (h:Tabs w) (hb:Below w.heap.size w w'):Tabs w':=by
 obtain⟨⟨t,fr,h1⟩,⟨t',fr',h2⟩⟩:=h;exact⟨⟨t,fr,(hb.block _ (zHH h1)).trans h1⟩,⟨t',fr',(hb.block _ (zHH h2)).trans h2⟩⟩
theorem Tabs.key {w:World} (h:Tabs w) {i:Nat} (hi:i<64):w.cell? ⟨1,i,none⟩=some (.int .u32 (keysN.getD i 0:Nat)):=by
 obtain⟨-,⟨t,fr,h2⟩⟩:=h;have hl:i<keysN.length:=hi;rw[cell_of_row w _ i _ t fr h2];simp[u32v,hl]
theorem zJE (s:S8) (bs:List UInt8):zCI s bs=addS s (zAK (zAJ bs) s 64):=rfl
theorem zJF (s t:S8):addS s t=addS t s:=by simp[addS,Nat.add_comm]
theorem zJG (s t:S8):(s.list.map u32v).toArray.size=t.u32.size:=rfl
theorem zFK (s:S8):s.u32.all (·.oneCell')=true:=by simp[S8.u32];exact⟨rfl,rfl,rfl,rfl,rfl,rfl,rfl,rfl⟩
theorem zFL:(Tryz.prog.info? 173).map (fun i=>(i.zero,i.size))=some (some (.agg (List.replicate 8 (Value.int .u32 0)).toArray),8):=by kernel_rfl
theorem zEc (st:S8) (b o cap:Nat) (bs:List UInt8) (w:World) (hr:Rd w (some ⟨b,o,none⟩) cap bs) (h64:bs.length=64) (hT:Tabs w) (hst:st.ok):
  Calls Tryz.prog 139 #[.agg st.u32,.slice (some ⟨b,o,none⟩) 64 cap] w fun e w'=>e=.returned (.agg (zCI st bs).u32)∧Below w.heap.size w w':=by
 have hs8:Hid (∀ s:S8,(Tryz.prog.info? 173).map (·.size)=some s.u32.size):=by intro s;rw[(zero_of_info zFL).2];rfl
 have HR:Hid (Rd w (some ⟨b,o,none⟩) cap bs):=hr;have HT:Hid (Tabs w):=hT;have HL:Hid (bs.length=64):=h64;have HO:Hid st.ok:=hst;clear hr h64 hT hst
 show Calls Tryz.prog 139 #[.agg #[.int .u32 (st.a:Int),.int .u32 (st.b:Int),.int .u32 (st.c:Int),.int .u32 (st.d:Int),.int .u32 (st.e:Int),.int .u32 (st.f:Int),.int .u32 (st.g:Int),.int .u32 (st.h:Int)],.slice (some ⟨b,o,none⟩) 64 cap] w _
 go_enter Tryz.func139,Tryz.ntmps139;go_wp2_with fail;have BX:Below w.heap.size w (((w.alloc (.cells (st.list.map u32v).toArray 173)).alloc (.cells (List.replicate 8 (Value.int .u32 0)).toArray 173)).alloc (.cells (st.list.map u32v).toArray 173)):=Below.mk (Below.mk (zA _ _) _) _;refine(zKE b o cap bs _ (HR.out.keep BX) HL.out).mono ?_;rintro e w1 ⟨rfl,hb1⟩;have X2:Arr w1 w.heap.size 173 (st.list.map u32v):=(((Arr.new w (st.list.map u32v) 173).old _ _).old _ _).stay hb1
 have X4:Arr w1 (w.heap.size+1) 173 (List.replicate 8 (Value.int .u32 0)):=by
  have h:=Arr.new (w.alloc (.cells (st.list.map u32v).toArray 173)) (List.replicate 8 (Value.int .u32 0)) 173;rw[zD] at h;exact(h.old _ _).stay hb1
 have X5:Arr w1 (w.heap.size+1+1) 173 (st.list.map u32v):=by
  have h:=Arr.new ((w.alloc (.cells (st.list.map u32v).toArray 173)).alloc (.cells (List.replicate 8 (Value.int .u32 0)).toArray 173)) (st.list.map u32v) 173;rw[zD,zD] at h;exact h.stay hb1
 have BW:Below w.heap.size w w1:=Below.step BX hb1;have HB:Hid (zCI st bs=addS st (zAK (zAJ bs) st 64)):=zJE _ _;have hwl:Hid ((zAJ bs).length=64):=zAl _;clear hb1 BX HR HL;generalize zAJ bs=ws at *
 have hix:∀ j,j<64→(ws.map u32v)[j]?=some (.int .u32 (ws.getD j 0:Nat)):=fun j hj=>by have:=hwl.out;simp[u32v,show j<ws.length by omega]
 go_wp2
 go_loopw [13] (fun i wr=>∃ j:Nat,j≤64∧i=.int .i64 j∧Arr wr (w.heap.size+1+1) 173 ((zAK ws st j).list.map u32v)∧Arr wr w.heap.size 173 (st.list.map u32v)∧Arr wr (w.heap.size+1) 173 (List.replicate 8 (Value.int .u32 0))∧Below w.heap.size w wr)
  (fun i _=>64-(intOf i).toNat)
 case atStart=>exact⟨0,Nat.zero_le _,rfl,X5,X2,X4,BW⟩
 case round=>
  clear X2 X4 X5 BW;obtain⟨j,hj,rfl,D,B,C,BW⟩:=hrel
  by_cases hjl:j<64
  ·have hstep:Hid (zAK ws st (j+1)=zBM (zAK ws st j) (ws.getD j 0) (keysN.getD j 0)):=zDl _ _ _;have hokr:Hid ((zAK ws st j).ok):=zCZ ws HO.out j;have cK:∀ s:HW wr,s.w.cell? ⟨1,j,none⟩=some (.int .u32 (keysN.getD j 0:Nat)):=HW.at ((HT.out.keep BW).key hjl)
   have hx:(ws.map u32v).toArray[j]?=some (.int .u32 (ws.getD j 0:Nat)):=by rw[List.getElem?_toArray];exact hix j hjl
   clear hix;generalize ws.getD j 0=wd at *;generalize zAK ws st j=R at *;generalize keysN.getD j 0=kd at *;have hne:=HW.some wr;go_wp2_with (refine zAv rfl 202 (.tmp 12) (.tmp 13) rfl 64 171 _ j .i64 .u32 (.int .u32 (wd:Nat)) rfl rfl Tryz.underlying202 hjl (by kernel_rfl) Tryz.underlying171 hx ?_);clear hx;refine zBK (C:=fun w'=>∃ s:HW wr,w'=s.w) 6 rfl rfl rfl (by kernel_rfl) (by kernel_rfl) (by kernel_rfl) (by kernel_rfl) ⟨⟨wr.drew,(Below.refl _ _).drew⟩,rfl⟩ ?_;intro Z hZ;simp only[List.take_succ_cons,List.take_zero];refine zBJ rfl 173 (.tmp 5) rfl (w.heap.size+1+1) rfl 173 R.u32 (0,0) _ (fun w' h=>by obtain⟨s,rfl⟩:=h;exact D.stay s.h) Tryz.underlying173 rfl (hs8.out R) ?_
   go_simp
   repeat (go_big_quiet_step ((go_at_call 164;exact Calls.stay (zLl R wd kd _ hokr.out))))
   refine wpQuiet_nil (hZ _ ?_);rintro w' ⟨s,rfl⟩ K hK;refine wp_store_row 173 (.tmp 5) (.tmp 22) rfl (w.heap.size+1+1) (zBM R wd kd).u32 rfl rfl 173 _ (D.stay s.h) (hs8.out _) (zJG _ _) (zFK _) (hK _ _ ?_);clear cK hne;go_wp2;go_roundw
   case rel=>
    exact⟨j+1,by omega,by go_num,by rw[hstep.out];exact(D.stay s.h).row ((zBM R wd kd).list.map u32v),(B.stay s.h).rowOther (by omega) _,(C.stay s.h).rowOther (by omega) _,Below.row (Below.step BW s.h) (by omega) _⟩
   case measure=>simp[intOf];omega
  ·have e:j=64:=by omega
   subst e;have hokr:Hid ((zAK ws st 64).ok):=zCZ ws HO.out 64;generalize zAK ws st 64=R at *;clear hjl hj hix hwl;have hsS:Hid ((Tryz.prog.info? 173).map (·.size)=some (st.list.map u32v).toArray.size):=hs8.out st;go_wp2_with (refine wpList_load_row rfl 173 (.tmp 2) rfl w.heap.size rfl 173 (st.list.map u32v).toArray (0,0) _ B Tryz.underlying173 rfl hsS.out ?_)
   go_loopw [25] (fun i wr=>∃ j:Nat,j≤8∧i=.int .i64 j∧Arr wr (w.heap.size+1+1) 173 (addV u32v R st j)∧Arr wr (w.heap.size+1) 173 (List.replicate 8 (Value.int .u32 0))∧Below w.heap.size w wr)
    (fun i _=>8-(intOf i).toNat)
   case atStart=>exact⟨0,Nat.zero_le _,rfl,by rw[zI7];exact D,C,BW⟩
   case round=>
    clear D B C BW hsS;obtain⟨j,hj,rfl,D,C,BW⟩:=hrel
    by_cases hjl:j<8
    ·have hx:(st.list.map u32v).toArray[j]?=some (.int .u32 (st.list.getD j 0:Nat)):=by rw[List.getElem?_toArray];exact zD1 u32v st hjl
     have cS:=(D.cell j).trans (zI8 u32v R st hjl);have fS:=D.frozen j;have bS:=(S8.words HO.out).getD j;have bR:=(S8.words hokr.out).getD j;have RS:=D.set j (u32v ((R.list.getD j 0+st.list.getD j 0) % 4294967296));rw[zHC u32v R st hjl] at RS;have RC:=C.setOther (a:=⟨w.heap.size+1+1,j,none⟩) (by show w.heap.size+1≠w.heap.size+1+1;omega)
     have RB:=fun v=>Below.setCell (p:=⟨w.heap.size+1+1,j,none⟩) BW (by show w.heap.size≤w.heap.size+1+1;omega) v
     unfold u32v at cS RS;generalize st.list.getD j 0=x at *;generalize R.list.getD j 0=y at *;clear D C BW;go_wp2_with (refine zAv rfl 173 (.tmp 24) (.tmp 25) rfl 8 171 _ j .i64 .u32 (.int .u32 (x:Nat)) rfl rfl Tryz.underlying173 hjl (by kernel_rfl) Tryz.underlying171 hx ?_);clear hx;go_roundw
     case rel=>
      have E:(((y:Int)+(x:Int)) % 4294967296)=(((y+x) % 4294967296:Nat):Int):=by omega
      rw[E];exact⟨j+1,by omega,by go_num,RS,RC _,RB _⟩
     case measure=>simp[intOf];omega
    ·have e:j=8:=by omega
     subst e;rw[zHB,zJF,← HB.out] at D;have hsR:Hid ((Tryz.prog.info? 173).map (·.size)=some ((zCI st bs).list.map u32v).toArray.size):=hs8.out (zCI st bs);clear HB hokr hj hjl;obtain⟨S,hS⟩:∃ S,S=zCI st bs:=⟨_,rfl⟩;rw[← hS] at D hsR;have HS:Hid (S=zCI st bs):=hS;clear hS
     go_wp2_with (first
      | refine wpList_load_row rfl 173 (.tmp 5) rfl (w.heap.size+1+1) rfl 173 (S.list.map u32v).toArray (0,0) _ D Tryz.underlying173 rfl hsR.out ?_
      | refine wpList_store_row rfl 173 (.tmp 4) (.tmp 36) rfl (w.heap.size+1) (S.list.map u32v).toArray rfl rfl 173 (List.replicate 8 (Value.int .u32 0)).toArray C hsR.out rfl (zFK S) ?_)
     exact bodyPost_ret (v:=.agg S.u32) (results_cell_row Tryz.results139 _ _ (w.heap.size+1) 173 _ (0,0) _ rfl (C.row (S.list.map u32v)) Tryz.underlying173 rfl hsR.out) rfl ⟨by rw[HS.out],Below.row BW (Nat.le_succ _) _⟩
theorem put4 (x:Nat):putB x 4=[UInt8.ofNat (x / 16777216 % 256),UInt8.ofNat (x / 65536 % 256),UInt8.ofNat (x / 256 % 256),UInt8.ofNat (x / 1 % 256)]:=rfl
theorem zHI (v:Nat) (h:v<256):u8v (UInt8.ofNat v)=.int .u8 (v:Int):=by
 unfold u8v;rw[UInt8.toNat_ofNat',Nat.mod_eq_of_lt h]
theorem zLw (w:World) (x:Nat) (h:x<4294967296) (t:TypeId) (a b c d:Int) (ha:a=(x:Int) / 16777216) (hb:b=((x:Int) / 65536) % 256) (hc:c=((x:Int) / 256) % 256) (hd:d=(x:Int) % 256):
  Rd (w.alloc (.cells #[.int .u8 a,.int .u8 b,.int .u8 c,.int .u8 d] t)) (some ⟨w.heap.size,0,none⟩) 4 (putB x 4):=by
 have hA:=Arr.new w [.int .u8 a,.int .u8 b,.int .u8 c,.int .u8 d] t;refine⟨by rw[zZ];exact Nat.le_refl _,by unfold maxLen;decide,fun e=>by simp at e,fun _=>⟨_,_,rfl,fun i hi=>?_⟩⟩;rw[zZ] at hi;rw[Nat.zero_add,hA.cell,← zBg (by rw[zZ];exact hi),put4]
 have e1:u8v (UInt8.ofNat (x / 16777216 % 256))=.int .u8 a:=by rw[zHI _ (by omega),ha];congr 1;omega
 have e2:u8v (UInt8.ofNat (x / 65536 % 256))=.int .u8 b:=by rw[zHI _ (by omega),hb];congr 1
 have e3:u8v (UInt8.ofNat (x / 256 % 256))=.int .u8 c:=by rw[zHI _ (by omega),hc];congr 1
 have e4:u8v (UInt8.ofNat (x / 1 % 256))=.int .u8 d:=by rw[zHI _ (by omega),hd];congr 1;omega
 simp only[List.map_cons,List.map_nil,e1,e2,e3,e4]
theorem zEd (st:S8) (w:World) (hst:st.ok):
  Calls Tryz.prog 140 #[.agg st.u32] w fun e w'=>∃ u,e=.returned u∧Own w' w.heap.size u (zDd st)∧Below w.heap.size w w':=by
 obtain⟨i0,hi,hz0,hz1,hz2⟩:=info_parts zDq
 have hs8:Hid ((Tryz.prog.info? 173).map (·.size)=some (st.list.map u32v).toArray.size):=by show _=_;rw[(zero_of_info zFL).2];rfl
 have HO:Hid st.ok:=hst;clear hst;have B:Arr (w.alloc (.cells (st.list.map u32v).toArray 173)) w.heap.size 173 (st.list.map u32v):=Arr.new _ _ _
 show Calls Tryz.prog 140 #[.agg #[.int .u32 (st.a:Int),.int .u32 (st.b:Int),.int .u32 (st.c:Int),.int .u32 (st.d:Int),.int .u32 (st.e:Int),.int .u32 (st.f:Int),.int .u32 (st.g:Int),.int .u32 (st.h:Int)]] w _
 go_enter Tryz.func140,Tryz.ntmps140
 go_wp2_with (first
  | (at_make;refine wpList_make_own _ rfl (.const (.int .i64 0)) (.const (.int .i64 32)) 22 rfl w.heap.size 5 i0 (.int .u8 0) 1 Tryz.underlying22 hi hz0 hz1 .i64 .i64 _ 32 rfl rfl rfl (by rw[hz2];decide) (by unfold maxLen;decide) (by simp) ?_;intro w1 hown hgrow;replace B:=B.other hgrow (by simp))
  | refine wpList_load_row rfl 173 (.tmp 1) rfl w.heap.size rfl 173 (st.list.map u32v).toArray (0,0) _ B Tryz.underlying173 rfl hs8.out ?_
  | go_in)
 have BW:Below w.heap.size w w1:=(zA _ _).grown hgrow (by simp) (fun k hk=>by simp at hk);rw[zD] at hown;clear hgrow hz0 hz1 hz2 hi B
 go_loopw [3,8] (fun v i wr=>∃ j:Nat,j≤8∧i=.int .i64 j∧Own wr w.heap.size v (takeB st.list j)∧Below w.heap.size w wr)
  (fun _ i _=>8-(intOf i).toNat)
 case atStart=>exact⟨0,Nat.zero_le _,rfl,hown,BW⟩
 case round=>
  clear hown BW;obtain⟨j,hj,rfl,ho,BW⟩:=hrel;obtain⟨a6,c6,rfl,-⟩:=ho.rd;have hlen:Hid ((takeB st.list j).length=4*j):=zF0 st hj;rw[hlen.out] at ho ⊢
  by_cases hjl:j<8
  ·have hx:(st.list.map u32v).toArray[j]?=some (.int .u32 (st.list.getD j 0:Nat)):=by rw[List.getElem?_toArray];exact zD1 u32v st hjl
   have bS:=(S8.words HO.out).getD j;have TS:Hid (takeB st.list j++putB (st.list.getD j 0) 4=takeB st.list (j+1)):=zEt st hjl;generalize st.list.getD j 0=x at *
   have ho2:=fun o=>ho.stay (zA wr o)
   go_wp2_with (first
    | refine zAv rfl 173 (.tmp 7) (.tmp 8) rfl 8 171 _ j .i64 .u32 (.int .u32 (x:Nat)) rfl rfl Tryz.underlying173 hjl (by kernel_rfl) Tryz.underlying171 hx ?_
    | (at_builtin;go_loud (refine zG rfl (.tmp 11) (.tmp 23) rfl w.heap.size _ (takeB st.list j) rfl (ho2 _) _ 4 (putB x 4) rfl (zLw wr x bS _ _ _ _ _ (by omega) (by omega) (by omega) (by omega)) (by rw[hlen.out,zZ];omega) (by have:=BW.size;simp;omega) ?_);intro v8 w8 ho8 hg8)
    | go_in)
   have BW8:=(Below.mk BW _).grown hg8 (by have:=BW.size;simp;omega) (fun k hk=>ho.ge k hk);rw[TS.out] at ho8;clear ho ho2 hg8 hx TS;go_roundw
   case rel=>exact⟨j+1,by omega,by go_num,ho8,BW8⟩
   case measure=>simp[intOf];omega
  ·have e:j=8:=by omega
   subst e;go_wp2;go_ret;exact⟨_,rfl,by rw[← zF1];exact ho,BW⟩
def zDB (bs:List UInt8):Int:=if bs.length≤600 then 0 else 2
def zDC (bs:List UInt8):List UInt8:=if bs.length≤600 then zX bs else []
theorem zHJ (p:Option Addr) (q:Nat) (bs:List UInt8) (w:World) (hr:Rd w p q bs) (hT:Tabs w):
  Calls Tryz.prog 119 #[.slice p bs.length q] w fun e w'=>∃ u,e=.returned (.agg #[.int .i64 (zDB bs),u])∧Own w' w.heap.size u (zDC bs)∧Below w.heap.size w w':=by
 by_cases h:bs.length≤600
 ·rw[show zDB bs=0 by simp[zDB,h],show zDC bs=zX bs by simp[zDC,h]]
  have hs8:Hid (∀ s:S8,(Tryz.prog.info? 173).map (·.size)=some (s.list.map u32v).toArray.size):=by intro s;rw[(zero_of_info zFL).2];rfl
  have hzs:Hid (∀ w,(zeroValue 173).run Tryz.prog w=.ok (.agg (List.replicate 8 (Value.int .u32 0)).toArray) w):=(zero_of_info zFL).1;have HT:Hid (Tabs w):=hT;obtain⟨t0,fr0,hG⟩:=(hT.keep (zA w (.cells #[.int .i64 0,.slice none 0 0] 126))).1;have C1:=Arr.new w [.int .i64 0,.slice none 0 0] 126;have D1:=Arr.new (w.alloc (.cells #[.int .i64 0,.slice none 0 0] 126)) (List.replicate 8 (Value.int .u32 0)) 173;rw[zD] at D1;have C2:=(C1.old _ (.cells (List.replicate 8 (Value.int .u32 0)).toArray 173)).rowOther (g:=w.heap.size) (k:=w.heap.size+1) (by omega) (startN.list.map u32v).toArray;have D2:=D1.row (startN.list.map u32v);have BX:Below w.heap.size w (((w.alloc (.cells #[.int .i64 0,.slice none 0 0] 126)).alloc (.cells (List.replicate 8 (Value.int .u32 0)).toArray 173)).setRow (w.heap.size+1) (startN.list.map u32v).toArray):=Below.row (Below.mk (zA _ _) _) (by omega) _;clear hT;go_enter Tryz.func119,Tryz.ntmps119
  go_wp2_with (first
   | refine wpList_load_row rfl 173 (.global 0) rfl 0 rfl t0 (startN.list.map u32v).toArray fr0 _ hG Tryz.underlying173 rfl (hs8.out startN) ?_
   | refine zS rfl 173 rfl _ hzs.out (w.heap.size+1) (zD _ _) ?_
   | refine wpList_store_row rfl 173 (.tmp 3) (.tmp 10) rfl (w.heap.size+1) (startN.list.map u32v).toArray rfl rfl 173 (List.replicate 8 (Value.int .u32 0)).toArray D1 (hs8.out startN) rfl (zFK startN) ?_)
  refine(zKG p q bs _ (hr.keep BX) h).mono ?_;rintro e w3 ⟨u,rfl,hu,hb3⟩;replace C2:=C2.stay hb3;replace D2:=D2.stay hb3;have BW:Below w.heap.size w w3:=Below.step BX hb3;rw[size_setRow,zD,zD] at hu;clear BX hb3 D1 C1 hr hG;have hn:Hid ((padN bs).length=64*((bs.length+72) / 64)):=zEu bs
  have hn1:1≤(bs.length+72) / 64:=by omega
  have hn2:(bs.length+72) / 64≤11:=by omega
  obtain⟨a5,c5,rfl,hrd5⟩:=hu.rd;obtain⟨b5,o5,rfl,-⟩:=hrd5.2.2.2 (by rw[hn.out];omega)
  have hc1:64*((bs.length+72) / 64)≤c5:=by have:=hrd5.1;rw[hn.out] at this;exact this
  have hc2:c5≤2 ^ 63-1:=hrd5.2.1;clear hrd5;rw[hn.out] at hu ⊢;have HD:Hid (zX bs=zDd (zAL (padN bs) ((bs.length+72) / 64))):=rfl;generalize (bs.length+72) / 64=n at *;clear h;go_wp2
  go_loopw [5] (fun i wr=>∃ k:Nat,k≤n∧i=.int .i64 (64*(k:Int))∧Arr wr (w.heap.size+1) 173 ((zAL (padN bs) k).list.map u32v)∧Arr wr w.heap.size 126 [.int .i64 0,.slice none 0 0]∧Own wr (w.heap.size+1+1) (.slice (some ⟨b5,o5,none⟩) (64*n) c5) (padN bs)∧Below w.heap.size w wr)
   (fun i _=>64*n-(intOf i).toNat)
  case atStart=>exact⟨0,Nat.zero_le _,rfl,D2,C2,hu,BW⟩
  case round=>
   clear D2 C2 hu BW;obtain⟨k,hk,rfl,D,C,hu,BW⟩:=hrel
   by_cases hlt:k<n
   ·have hrd:Rd wr (some ⟨b5,o5,none⟩) c5 (padN bs):=by have h:=hu;rw[← hn.out] at h;exact Rd.own h
    have hcut:Hid (Rd wr (some ⟨b5,o5+64*k,none⟩) (c5-64*k) (((padN bs).drop (64*k)).take 64)):=hrd.cut (64*k) 64 (c5-64*k) (by rw[hn.out];omega) (by omega) (by have:=hrd.2.1;omega)
    have h64:Hid ((((padN bs).drop (64*k)).take 64).length=64):=by show _=_;have:=hn.out;simp;omega
    have HB:Hid (zAL (padN bs) (k+1)=zCI (zAL (padN bs) k) (((padN bs).drop (64*k)).take 64)):=zDk _ _;have hok:Hid ((zAL (padN bs) k).ok):=zCa (padN bs) k;have hTr:Hid (Tabs wr):=HT.out.keep BW;generalize zAL (padN bs) k=st at *;generalize ((padN bs).drop (64*k)).take 64=blk at *;have hne:=HW.some wr
    have hwk:IntKind.i64.wrap (64*(k:Int)+64)=64*(k:Int)+64:=by rw[IntKind.wrap_i64];omega
    have hi1:(64*(k:Int)).toNat=64*k:=by omega
    have hi2:(64*(k:Int)+64).toNat=64*k+64:=by omega
    clear hrd;go_wp2;refine zBK (C:=fun w'=>∃ s:HW wr,w'=s.w) 7 rfl rfl rfl (by kernel_rfl) (by kernel_rfl) (by kernel_rfl) (by kernel_rfl) ⟨⟨wr.drew,(Below.refl _ _).drew⟩,rfl⟩ ?_;intro Z hZ;simp only[List.take_succ_cons,List.take_zero];refine zBJ rfl 173 (.tmp 3) rfl (w.heap.size+1) rfl 173 st.u32 (0,0) _ (fun w' h=>by obtain⟨s,rfl⟩:=h;exact D.stay s.h) Tryz.underlying173 rfl (hs8.out st) ?_
    go_simp
    repeat (go_big_quiet_step ((go_at_call 139;exact Calls.stay (zEc st b5 (o5+64*k) (c5-64*k) blk _ (hcut.out.keep (HW.h _)) h64.out (hTr.out.keep (HW.h _)) hok.out))))
    refine wpQuiet_nil (hZ _ ?_);rintro w' ⟨s,rfl⟩ K hK;refine wp_store_row 173 (.tmp 3) (.tmp 25) rfl (w.heap.size+1) (zCI st blk).u32 rfl rfl 173 _ (D.stay s.h) (hs8.out _) (zJG _ _) (zFK _) (hK _ _ ?_);clear hne hwk hi1 hi2;go_wp2;go_roundw
    case rel=>
     exact⟨k+1,hlt,by go_num,by rw[HB.out];exact(D.stay s.h).row ((zCI st blk).list.map u32v),(C.stay s.h).rowOther (by omega) _,(hu.stay s.h).row (fun k hk=>by have:=hu.ge k hk;omega) _,Below.row (Below.step BW s.h) (by omega) _⟩
    case measure=>simp[intOf];omega
   ·have e:k=n:=by omega
    subst e;have hok:Hid ((zAL (padN bs) k).ok):=zCa (padN bs) k;generalize zAL (padN bs) k=st at *;clear hu hk hlt;have hsS:=hs8.out st;go_wp2_with (refine wpList_load_row rfl 173 (.tmp 3) rfl (w.heap.size+1) rfl 173 (st.list.map u32v).toArray (0,0) _ D Tryz.underlying173 rfl hsS ?_);refine(zEd st _ hok.out).mono ?_;rintro e w7 ⟨u7,rfl,ho,hb7⟩;obtain⟨a7,c7,rfl,-⟩:=ho.rd;replace C:=C.stay hb7;have h0:=C.cell 0;have h1:=C.cell 1;simp at h0 h1;have f0:=C.frozen;have zz:=C.lt;replace BW:=Below.step BW hb7
    have hge:Hid (w.heap.size<wr.heap.size):=by have:=D.lt;show _<_;omega
    rw[zEk] at *;go_wp2;refine bodyPost_ret (v:=.agg #[.int .i64 0,.slice a7 32 c7]) (by simp[results,Tryz.results119,go_sem,h0,h1]) rfl ⟨_,rfl,?_,(BW.setCell (Nat.le_refl _) _).setCell (Nat.le_refl _) _⟩;rw[HD.out];exact((ho.set hge.out _).set hge.out _).lower (Nat.le_of_lt hge.out)
 ·rw[show zDB bs=2 by simp[zDB,h],show zDC bs=[] by simp[zDC,h]];go_enter Tryz.func119,Tryz.ntmps119;go_wp2;exact bodyPost_ret (v:=.agg #[.int .i64 2,.slice none 0 0]) (by simp[results,Tryz.results119,go_sem]) rfl ⟨_,rfl,zAA _ _,zA _ _⟩
theorem zGk:(Tryz.prog.info? 222).map (fun i=>(i.zero,i.size))=some (some (.agg (List.replicate 64 (Value.int .u8 0)).toArray),64):=by kernel_rfl
theorem zDD (ks:List UInt8) (x:UInt8) (xi:Int) (hx:xi=(x.toNat:Int)) (w:World) (h64:ks.length=64):
  Calls Tryz.prog 183 #[.agg (ks.map u8v).toArray,.int .u8 xi] w fun e w'=>∃ u,e=.returned u∧Own w' w.heap.size u (ks.map (· ^^^ x))∧Below w.heap.size w w':=by
 subst hx;obtain⟨i0,hi,hz0,hz1,hz2⟩:=info_parts zDq;have HL:Hid (ks.length=64):=h64
 have hsz:Hid ((Tryz.prog.info? 222).map (·.size)=some (ks.map u8v).toArray.size):=by show _=_;rw[(zero_of_info zGk).2];simp[h64]
 have B:Arr (w.alloc (.cells (ks.map u8v).toArray 222)) w.heap.size 222 (ks.map u8v):=Arr.new _ _ _;clear h64;go_enter Tryz.func183,Tryz.ntmps183
 go_wp2_with (first
  | (at_make;go_loud (refine wpList_make_full _ rfl (.const (.int .i64 64)) (.const (.int .i64 64)) 22 rfl w.heap.size 5 i0 (.int .u8 0) 1 Tryz.underlying22 hi hz0 hz1 .i64 .i64 _ _ 64 rfl rfl rfl rfl (by rw[hz2];decide) (by unfold maxLen;decide) (by simp) ?_);intro w1 hown hgrow;replace B:=B.other hgrow (by simp))
  | refine wpList_load_row rfl 222 (.tmp 2) rfl w.heap.size rfl 222 (ks.map u8v).toArray (0,0) _ B Tryz.underlying222 rfl hsz.out ?_)
 have hA1:Arr w1 (w.heap.size+1) 5 ((zs 64).map u8v):=by
  have h:=(zAT hown).arr (zA3 64);rw[zD] at h;exact h
 have BW:Below w.heap.size w w1:=(zA _ _).grown hgrow (by simp) (fun k hk=>by simp at hk);obtain⟨ys,hys⟩:∃ ys,Hid (ys=ks.map (· ^^^ x)):=⟨_,rfl⟩
 have HY:Hid (ys.length=64):=by show _=_;rw[hys.out,List.length_map];exact HL.out
 clear hown hgrow hi hz0 hz1 hz2 B hsz
 go_loopw [10] (fun i wr=>∃ j:Nat,j≤64∧i=.int .i64 j∧Arr wr (w.heap.size+1) 5 (part ys ys.length j)∧Below w.heap.size w wr)
  (fun i _=>64-(intOf i).toNat)
 case atStart=>exact⟨0,Nat.zero_le _,rfl,by rw[zIY,HY.out];simpa [zs,u8v] using hA1,BW⟩
 case round=>
  clear hA1 BW;obtain⟨j,hj,rfl,A,BW⟩:=hrel
  by_cases hjl:j<64
  ·have hjk:j<ks.length:=by rw[HL.out];exact hjl
   have hjy:j<ys.length:=by rw[HY.out];exact hjl
   have hx:(ks.map u8v).toArray[j]?=some (.int .u8 ((ks.getD j 0).toNat:Int)):=by rw[List.getElem?_toArray,zBg hjk];rfl
   have cx:=(A.cell j).trans (zLX ys j hjy);have fx:=A.frozen j;have R:=A.set j (.int .u8 (at8 ys j));rw[zJ4 ys j hjy] at R
   have RB:=fun v=>Below.setCell (p:=⟨w.heap.size+1,j,none⟩) BW (Nat.le_succ _) v
   have hxo:=zCR (ks.getD j 0) x
   have hay:at8 ys j=((ks.getD j 0 ^^^ x).toNat:Int):=by
    rw[zA8 hjy];simp only[hys.out,List.getElem_map];rw[show ks.getD j 0=ks[j] by simp[hjk]]
   rw[hay] at R;generalize ks.getD j 0=y at *;clear A hay;go_wp2_with (refine zAv rfl 222 (.tmp 9) (.tmp 10) rfl 64 5 _ j .i64 .u8 (.int .u8 (y.toNat:Int)) rfl rfl Tryz.underlying222 hjl (by kernel_rfl) Tryz.underlying5 hx ?_);go_roundw
   case rel=>exact⟨j+1,by omega,by go_num,R,RB _⟩
   case measure=>simp[intOf];omega
  ·have e:j=64:=by omega
   subst e
   have e2:part ys ys.length 64=ys.map u8v:=by rw[← HY.out];exact zJ3 ys
   rw[e2] at A;have ho:=A.own (Nat.le_succ _) (by rw[HY.out];decide);rw[HY.out] at ho;go_wp2;go_ret;exact⟨_,rfl,by rw[← hys.out];exact ho,BW⟩
theorem zF8 (p p2:Option Addr) (q q2:Nat) (xs ys:List UInt8) (w:World) (hr:Rd w p q xs) (hr2:Rd w p2 q2 ys) (hl:xs.length+ys.length≤100000):
  Calls Tryz.prog 120 #[.slice (some ⟨w.heap.size,0,none⟩) 2 2] (w.alloc (.cells #[.slice p xs.length q,.slice p2 ys.length q2] 22)) fun e w'=>∃ u,e=.returned u∧Own w' w.heap.size u (xs++ys)∧Below w.heap.size w w':=by
 have h:=zCh [⟨p,q,xs⟩,⟨p2,q2,ys⟩] w.heap.size 0 2 _ (zGh w ⟨p,q,xs⟩ ⟨p2,q2,ys⟩ 22 hr hr2) (by rw[zD0,List.length_append];exact hl) (by simp);rw[zD0] at h;refine h.mono ?_;rintro e w1 ⟨u,rfl,k,hb⟩;exact⟨u,rfl,k.lower (by rw[zD];omega),Below.res hb⟩
theorem zDE (p:Option Addr) (q:Nat) (bs:List UInt8) (w:World) (hr:Rd w p q bs) (hT:Tabs w) (hl:bs.length≤600):
  Calls Tryz.prog 119 #[.slice p bs.length q] w fun e w'=>∃ a c,e=.returned (.agg #[.int .i64 0,.slice a 32 c])∧Own w' w.heap.size (.slice a 32 c) (zX bs)∧Below w.heap.size w w':=by
 have h:=zHJ p q bs w hr hT;rw[show zDB bs=0 by simp[zDB,hl],show zDC bs=zX bs by simp[zDC,hl]] at h;refine h.mono ?_;rintro e w1 ⟨u,rfl,k,hb⟩;obtain⟨a,c,rfl,-⟩:=k.rd;rw[zAZ] at k ⊢;exact⟨a,c,rfl,k,hb⟩
theorem zF9 (p:Option Addr) (q:Nat) (key:List UInt8) (ps:List Pc) (b o cap:Nat) (w:World) (hr:Rd w p q key) (hp:Pcs w b o ps) (hT:Tabs w) (hk:key.length≤64) (hl:(flat ps).length≤536) (hn:ps.length≤1000):
  Calls Tryz.prog 165 #[.slice p key.length q,.slice (some ⟨b,o,none⟩) ps.length cap] w fun e w'=>∃ u,e=.returned u∧Own w' w.heap.size u (macN key (flat ps))∧Below w.heap.size w w':=by
 have HI:Hid ((Tryz.prog.info? 5).map (·.size)=some 1):=by show _=_;obtain⟨i0,hi,hz0,hz1,hz2⟩:=info_parts zDq;rw[hi];simp[hz1]
 have HR:Hid (Rd w p q key):=hr;have HP:Hid (Pcs w b o ps):=hp;have HT:Hid (Tabs w):=hT;have HK:Hid (key.length≤64):=hk;have HL:Hid ((flat ps).length≤536):=hl;clear hr hp hT hk hl
 have hzs:Hid (∀ w,(zeroValue 222).run Tryz.prog w=.ok (.agg ((zs 64).map u8v).toArray) w):=by
  rw[show(zs 64).map u8v=List.replicate 64 (Value.int .u8 0) by simp[zs,u8v]];exact(zero_of_info zGk).1
 have A0:=Arr.new w ((zs 64).map u8v) 222;have hb0:Below w.heap.size w (w.alloc (.cells ((zs 64).map u8v).toArray 222)):=zA _ _;have HZ:Hid ((keyZ key).length=64):=zHD HK.out
 have hsz:Hid ((Tryz.prog.info? 222).map (·.size)=some ((keyZ key).map u8v).toArray.size):=by show _=_;rw[(zero_of_info zGk).2];simp[HZ.out]
 obtain⟨b1,hb1⟩:∃ b,Hid (b=zCF key 54):=⟨_,rfl⟩;obtain⟨b2,hb2⟩:∃ b,Hid (b=zCF key 92):=⟨_,rfl⟩;obtain⟨data,hdata⟩:∃ d,Hid (d=flat ps):=⟨_,rfl⟩
 have HE:Hid (macN key (flat ps)=zX (b2++zX (b1++data))):=by show _=_;rw[hb1.out,hb2.out,hdata.out];rfl
 have L1:Hid (b1.length=64):=by show _=_;rw[hb1.out];exact zCb _ HK.out
 have L2:Hid (b2.length=64):=by show _=_;rw[hb2.out];exact zCb _ HK.out
 have C1:Hid (∀ w,Calls Tryz.prog 183 #[.agg ((keyZ key).map u8v).toArray,.int .u8 54] w fun e w'=>∃ u,e=.returned u∧Own w' w.heap.size u b1∧Below w.heap.size w w'):=fun w=>by rw[hb1.out,zEF];exact zDD (keyZ key) 54 _ rfl _ HZ.out
 have C2:Hid (∀ w,Calls Tryz.prog 183 #[.agg ((keyZ key).map u8v).toArray,.int .u8 92] w fun e w'=>∃ u,e=.returned u∧Own w' w.heap.size u b2∧Below w.heap.size w w'):=fun w=>by rw[hb2.out,zEF];exact zDD (keyZ key) 92 _ rfl _ HZ.out
 have CJ:Hid (∀ w,Pcs w b o ps→Calls Tryz.prog 120 #[.slice (some ⟨b,o,none⟩) ps.length cap] w fun e w'=>∃ u,e=.returned u∧Own w' w.heap.size u data∧Below w.heap.size w w'):=fun w h=>by rw[hdata.out];exact zCh ps b o cap w h (by have:=HL.out;omega) hn
 have HD:Hid (data.length≤536):=by show _≤_;rw[hdata.out];exact HL.out
 have hkl:key.length≤64:=HK.out;clear hb1 hb2 hdata;go_enter Tryz.func165,Tryz.ntmps165
 go_wp2_with (first
  | refine zS rfl 222 rfl _ hzs.out w.heap.size rfl ?_
  | (refine wpList_copy_splice rfl (.tmp 8) (.tmp 9) 22 22 rfl 5 Tryz.underlying22 HI.out _ _ _ _ _ _ rfl rfl w.heap.size 0 ((zs 64).map u8v) 222 A0 (key.map u8v) (by rw[List.length_map];exact(Nat.min_eq_left (by omega)).symm) (fun hp=>⟨rfl,(HR.out.keep hb0).addr (by simpa using hp)⟩) (by simp[zA3];omega) (by intro u hu;obtain⟨n,-,rfl⟩:=List.mem_map.1 hu;rfl) w.heap.size w hb0 (Nat.le_refl _) ?_;intro w2 hA2 hb2;replace hA2:=zHE hA2))
 refine(CJ.out _ (HP.out.keep hb2)).mono ?_;rintro e w3 ⟨u3,rfl,k3,hb3⟩;obtain⟨p3,q3,rfl,rd3⟩:=k3.rd;have A:=hA2.stay hb3;have BW:=Below.step hb2 hb3;clear k3 hb3 hb2 hA2 A0 hb0;go_wp2_with (refine wpList_load_row rfl 222 (.tmp 5) rfl w.heap.size rfl 222 ((keyZ key).map u8v).toArray (0,0) _ A Tryz.underlying222 rfl hsz.out ?_);refine(C1.out _).mono ?_;rintro e w4 ⟨u4,rfl,k4,hb4⟩;obtain⟨p4,q4,rfl,rd4⟩:=k4.rd;replace A:=A.stay hb4;replace BW:=Below.step BW hb4;replace rd3:=rd3.keep hb4;clear k4 hb4;go_wp2_with fail;refine(zF8 p4 p3 q4 q3 b1 data _ rd4 rd3 (by have:=L1.out;have:=HD.out;omega)).mono ?_;rintro e w5 ⟨u5,rfl,k5,hb5⟩;obtain⟨p5,q5,rfl,rd5⟩:=k5.rd;replace A:=A.stay hb5;replace BW:=Below.step BW hb5;clear k5 hb5 rd3 rd4
 have HX1:Hid ((b1++data).length≤600):=by show _≤_;have:=L1.out;have:=HD.out;rw[List.length_append];omega
 generalize b1++data=x1 at *;go_wp2_with fail;refine(zDE p5 q5 x1 _ rd5 (HT.out.keep BW) HX1.out).mono ?_;rintro e w6 ⟨p6,q6,rfl,k6,hb6⟩;replace A:=A.stay hb6;replace BW:=Below.step BW hb6;have HD1:Hid ((zX x1).length=32):=zAZ _;generalize zX x1=d1 at *;have rd6:=Rd.own k6;have hf:=zBf 0 p6 32 q6;clear k6 hb6 rd5;go_wp2_with (refine wpList_load_row rfl 222 (.tmp 5) rfl w.heap.size rfl 222 ((keyZ key).map u8v).toArray (0,0) _ A Tryz.underlying222 rfl hsz.out ?_);refine(C2.out _).mono ?_;rintro e w7 ⟨u7,rfl,k7,hb7⟩;obtain⟨p7,q7,rfl,rd7⟩:=k7.rd;replace BW:=Below.step BW hb7;replace rd6:=rd6.keep hb7;clear k7 hb7 A hf;go_wp2_with fail;have K7:=zF8 p7 p6 q7 q6 b2 d1 _ rd7 rd6 (by have:=L2.out;have:=HD1.out;omega);rw[HD1.out] at K7;refine K7.mono ?_;rintro e w8 ⟨u8,rfl,k8,hb8⟩;obtain⟨p8,q8,rfl,rd8⟩:=k8.rd;replace BW:=Below.step BW hb8;clear k8 hb8 rd6 rd7 K7
 have HX2:Hid ((b2++d1).length≤600):=by show _≤_;have:=L2.out;have:=HD1.out;rw[List.length_append];omega
 generalize b2++d1=x2 at *;go_wp2_with fail;refine(zDE p8 q8 x2 _ rd8 (HT.out.keep BW) HX2.out).mono ?_;rintro e w9 ⟨p9,q9,rfl,k9,hb9⟩;have hz:=BW.size;replace BW:=Below.step BW hb9;have hf:=zBf 0 p9 32 q9;go_wp2;go_ret;exact⟨_,rfl,by rw[HE.out];exact k9.lower hz,BW⟩
end Go.Proofs.YtbaldmmbphbinaaGreatDoor
