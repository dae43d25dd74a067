import Derived.Test.YtbaldmmbphbinaaGreatDoorJoint9
import Derived.Test.YtbaldmmbphbinaaGreatDoorJoint8
import Derived.BigRegion
import Derived.Test.YtbaldmmbphbinaaGreatDoorJoint5
import Derived.Deep.RegionWith
set_option maxHeartbeats 1000000
set_option maxRecDepth 4000
namespace Go.Proofs.YtbaldmmbphbinaaGreatDoor
open Go.ChangeShapes Go.WideShapes Go.ChangeAt Go.RowKit
def zBZ (f:Nat→Value) (z:Value) (ws:List Nat):List Value:=ws.map f++List.replicate (64-ws.length) z
theorem zEC (f:Nat→Value) (z:Value) {ws:List Nat} {i:Nat} (h:i<ws.length):(zBZ f z ws)[i]?=some (f (ws.getD i 0)):=by
 unfold zBZ;rw[List.getElem?_append_left (by simpa using h)];simp[h]
theorem zB9 (f:Nat→Value) (z:Value) {ws:List Nat} {i:Nat} (h:ws.length≤i) (h2:i<64):(zBZ f z ws)[i]?=some z:=by
 unfold zBZ;rw[List.getElem?_append_right (by simpa using h),List.getElem?_replicate,if_pos (by simp;omega)]
theorem zDP (f:Nat→Value) (z:Value) (ws:List Nat) (x:Nat) (h:ws.length<64):(zBZ f z ws).set ws.length (f x)=zBZ f z (ws++[x]):=by
 unfold zBZ;rw[List.set_append_right _ _ (by simp),List.length_map,Nat.sub_self,show 64-ws.length=(64-(ws++[x]).length)+1 by simp;omega,List.replicate_succ,List.set_cons_zero,List.map_append,List.append_assoc];rfl
theorem zEp (f:Nat→Value) (z:Value) {ws:List Nat} (h:ws.length=64):zBZ f z ws=ws.map f:=by simp[zBZ,h]
theorem zHy (f:Nat→Value) (z:Value) {ws:List Nat} (h:ws.length≤64):(zBZ f z ws).length=64:=by simp[zBZ];omega
def zDg (bs:List UInt8) (k:Nat):List Nat:=(List.range k).map (zEZ bs)
theorem zDQ (bs:List UInt8) (k:Nat):(zDg bs k).length=k:=by simp[zDg]
theorem zGf (bs:List UInt8) (k:Nat):zDg bs (k+1)=zDg bs k++[zEZ bs k]:=by simp[zDg,List.range_succ]
theorem zHz (bs:List UInt8):zDg bs 16=zP bs:=rfl
theorem zBl:(Tryz.prog.info? 113).map (fun i=>(i.zero,i.size))=some (some (.agg zI.toArray),64):=by kernel_rfl
theorem zIv:Tryz.prog.built 113 []=some zI.toArray:=by kernel_rfl
theorem zH0 (b o cap:Nat) (bs:List UInt8) (w:World) (hr:Rd w (some ⟨b,o,none⟩) cap bs) (h64:bs.length=64):
  Calls Tryz.prog 88 #[.slice (some ⟨b,o,none⟩) 64 cap] w fun e w'=>e=.returned (.agg ((zAJ bs).map i64v).toArray)∧Below w.heap.size w w':=by
 have HR:Hid (Rd w (some ⟨b,o,none⟩) cap bs):=hr;have HL:Hid (bs.length=64):=h64
 have hcap:64≤cap:=by have:=hr.1;omega
 have hcm:cap≤2 ^ 63-1:=hr.2.1;have hzv:Hid (∀ w,(zeroValue 113).run Tryz.prog w=.ok (.agg zI.toArray) w):=(zero_of_info zBl).1
 have hsz:Hid ((Tryz.prog.info? 113).map (·.size)=some zI.toArray.size):=by show _=_;rw[(zero_of_info zBl).2];simp[zIj]
 clear hr h64;go_enter Tryz.func88,Tryz.ntmps88
 go_wp2_with (first
  | refine zS rfl 113 rfl _ hzv.out w.heap.size rfl ?_
  | refine zS rfl 113 rfl _ hzv.out (w.heap.size+1) (zD _ _) ?_
  | refine zD9 rfl 113 rfl _ zIv ?_
  | (refine wpList_store_row rfl 113 (.tmp 3) (.tmp 10) rfl (w.heap.size+1) zI.toArray (by rfl) (by rfl) 113 zI.toArray (heap_alloc2_new _ _ _) hsz.out rfl (by kernel_rfl) ?_))
 go_loopw [4] (fun i wr=>∃ k:Nat,k≤16∧i=.int .i64 k∧Arr wr (w.heap.size+1) 113 (zBZ i64v (.int .i64 0) (zDg bs k))∧Arr wr w.heap.size 113 zI∧Below w.heap.size w wr)
  (fun i _=>16-(intOf i).toNat)
 case atStart=>
  have h1:=Arr.new w zI 113;have h2:=Arr.new (w.alloc (.cells zI.toArray 113)) zI 113;rw[zD] at h2;exact⟨0,Nat.zero_le _,rfl,h2.row zI,(h1.old _ _).rowOther (by omega) _,Below.row (Below.mk (zA _ _) _) (Nat.le_succ _) _⟩
 case round=>
  obtain⟨k,hk,rfl,hs,ho,hbel⟩:=hrel
  by_cases hlt:k<16
  ·have hcx:wr.cell? ⟨w.heap.size+1,k,none⟩=some (.int .i64 0):=by rw[hs.cell];exact zB9 _ _ (by rw[zDQ];exact Nat.le_refl _) (by omega)
   have hfx:=hs.frozen k;have hrd:=(HR.out.keep hbel).cut (4*k) 4 (cap-4*k) (by rw[HL.out];omega) (by omega) (by have:=HR.out.2.1;omega);have R:=hs.set k (i64v (zEZ bs k));have e1:=zDP i64v (.int .i64 0) (zDg bs k) (zEZ bs k) (by rw[zDQ];omega);rw[zDQ] at e1;rw[e1,← zGf] at R;have RO:=ho.setOther (a:=⟨w.heap.size+1,k,none⟩) (by show w.heap.size≠w.heap.size+1;omega) (i64v (zEZ bs k));have RB:=Below.setCell (p:=⟨w.heap.size+1,k,none⟩) hbel (Nat.le_succ _) (i64v (zEZ bs k))
   have HN:Hid (((bs.drop (4*k)).take 4).length=4):=by show _=_;have:=HL.out;simp;omega
   clear hs ho e1 HR;go_wp2_with fail;refine(zLi _ _ 4 _ _ hrd HN.out (by decide)).mono ?_;rintro e w2 ⟨rfl,rfl⟩;rw[show getB ((bs.drop (4*k)).take 4)=zEZ bs k from rfl];go_wp2;go_roundw
   case rel=>exact⟨k+1,by omega,by go_num,R,RO,RB⟩
   case measure=>simp[intOf];omega
  ·have e:k=16:=by omega
   subst e;rw[zHz] at hs;clear HR HL hcap hcm;go_wp2;clear hlt hk
   go_loopw [5] (fun i wr=>∃ k:Nat,16≤k∧k≤64∧i=.int .i64 k∧Arr wr (w.heap.size+1) 113 (zBZ i64v (.int .i64 0) (zAR (zP bs) (k-16)))∧Arr wr w.heap.size 113 zI∧Below w.heap.size w wr)
    (fun i _=>64-(intOf i).toNat)
   case atStart=>exact⟨16,by omega,by omega,rfl,hs,ho,hbel⟩
   case round=>
    clear hs ho hbel;obtain⟨k,hk0,hk,rfl,hs,ho,hbel⟩:=hrel
    have hlen:Hid ((zAR (zP bs) (k-16)).length=k):=by show _=_;rw[zD7,zA9];omega
    have hok:=zE8 (zDL bs) (k-16)
    by_cases hlt:k<64
    ·have hcx:wr.cell? ⟨w.heap.size+1,k,none⟩=some (.int .i64 0):=by rw[hs.cell];exact zB9 _ _ (Nat.le_of_eq hlen.out) hlt
     have hfx:=hs.frozen k
     have cell:∀ d,0<d→d≤16→wr.cell? ⟨w.heap.size+1,k-d,none⟩=some (.int .i64 ((zAR (zP bs) (k-16)).getD (k-d) 0:Nat)):=fun d h1 h2=>by
      rw[hs.cell];exact zEC _ _ (by rw[hlen.out];omega)
     have c15:=cell 15 (by decide) (by decide);have c2:=cell 2 (by decide) (by decide);have c7:=cell 7 (by decide) (by decide);have c16:=cell 16 (by decide) (by decide)
     have i15:((k:Int)-15).toNat=k-15:=by omega
     have i2:((k:Int)-2).toNat=k-2:=by omega
     have i7:((k:Int)-7).toNat=k-7:=by omega
     have i16:((k:Int)-16).toNat=k-16:=by omega
     have b15:=hok.getD (k-15);have b2:=hok.getD (k-2);have b7:=hok.getD (k-7);have b16:=hok.getD (k-16)
     have hnext:Hid (zD6 (zAR (zP bs) (k-16))=(sh2 ((zAR (zP bs) (k-16)).getD (k-2) 0) 17 19 10+(zAR (zP bs) (k-16)).getD (k-7) 0+sh2 ((zAR (zP bs) (k-16)).getD (k-15) 0) 7 18 3+(zAR (zP bs) (k-16)).getD (k-16) 0) % 4294967296):=by
      show _=_
      rw[zD6,hlen.out]
     have hset:=zDP i64v (.int .i64 0) (zAR (zP bs) (k-16)) (zD6 (zAR (zP bs) (k-16))) (by rw[hlen.out];exact hlt);rw[hlen.out,show zAR (zP bs) (k-16)++[zD6 (zAR (zP bs) (k-16))]=zAR (zP bs) (k+1-16) by rw[show k+1-16=(k-16)+1 by omega];rfl] at hset;have R:=hs.set k (i64v (zD6 (zAR (zP bs) (k-16))));rw[hset,hnext.out] at R;have RO:=ho.setOther (a:=⟨w.heap.size+1,k,none⟩) (by show w.heap.size≠w.heap.size+1;omega)
     have RB:=fun v=>Below.setCell (p:=⟨w.heap.size+1,k,none⟩) hbel (Nat.le_succ _) v
     clear hset hnext hs ho cell hok hlen;generalize (zAR (zP bs) (k-16)).getD (k-15) 0=x at *;generalize (zAR (zP bs) (k-16)).getD (k-2) 0=y at *;generalize (zAR (zP bs) (k-16)).getD (k-7) 0=m at *;generalize (zAR (zP bs) (k-16)).getD (k-16) 0=n at *;have x1:=zAp (zW x 7 b15 (by decide)) (zW x 18 b15 (by decide))
     have x2:bits .xor .i64 ((rotN x 7 ^^^ rotN x 18:Nat):Int) ((x:Int) / 8)=((sh2 x 7 18 3:Nat):Int):=by
      rw[show((x:Int) / 8)=((x / 2 ^ 3:Nat):Int) by omega];exact zAp (zAY (zW x 7 b15 (by decide)) (zW x 18 b15 (by decide))) (by omega)
     have y1:=zAp (zW y 17 b2 (by decide)) (zW y 19 b2 (by decide))
     have y2:bits .xor .i64 ((rotN y 17 ^^^ rotN y 19:Nat):Int) ((y:Int) / 1024)=((sh2 y 17 19 10:Nat):Int):=by
      rw[show((y:Int) / 1024)=((y / 2 ^ 10:Nat):Int) by omega];exact zAp (zAY (zW y 17 b2 (by decide)) (zW y 19 b2 (by decide))) (by omega)
     have s1:((sh2 x 7 18 3:Nat):Int)≤4294967295:=by have:=zLG (i:=7) (j:=18) (k:=3) b15 (by decide) (by decide);omega
     have s2:((sh2 y 17 19 10:Nat):Int)≤4294967295:=by have:=zLG (i:=17) (j:=19) (k:=10) b2 (by decide) (by decide);omega
     go_wp2_with fail;refine(zBD x 7 _ rfl _ b15 (by decide) (by decide)).mono ?_;rintro r w2 ⟨rfl,rfl⟩;go_wp2_with fail;refine(zBD x 18 _ rfl _ b15 (by decide) (by decide)).mono ?_;rintro r w2 ⟨rfl,rfl⟩;go_wp2_with fail;refine(zBD y 17 _ rfl _ b2 (by decide) (by decide)).mono ?_;rintro r w2 ⟨rfl,rfl⟩;go_wp2_with fail;refine(zBD y 19 _ rfl _ b2 (by decide) (by decide)).mono ?_;rintro r w2 ⟨rfl,rfl⟩;go_wp2
     go_region
     go_wp2;go_roundw
     case rel=>
      (repeat apply Exists.intro)
      refine⟨?_,rfl⟩
      have E:((((sh2 y 17 19 10:Nat):Int)+(m:Int)+((sh2 x 7 18 3:Nat):Int)+(n:Int)) % 4294967296)=(((sh2 y 17 19 10+m+sh2 x 7 18 3+n) % 4294967296:Nat):Int):=by omega
      rw[E];exact⟨k+1,by omega,by omega,by go_num,R,RO _,Below.drew (RB _)⟩
     case measure=>simp[intOf];omega
    ·have e:k=64:=by omega
     subst e;rw[show zAR (zP bs) (64-16)=zAJ bs from rfl,zEp _ _ (zAl bs)] at hs
     have hsz2:Hid ((Tryz.prog.info? 113).map (·.size)=some ((zAJ bs).map i64v).toArray.size):=by show _=_;rw[(zero_of_info zBl).2];simp[zAl]
     go_wp2_with (first
      | refine wpList_load_row rfl 113 (.tmp 3) rfl (w.heap.size+1) rfl 113 _ (0,0) _ hs Tryz.underlying113 rfl hsz2.out ?_
      | refine wpList_store_row rfl 113 (.tmp 2) (.tmp 69) rfl w.heap.size ((zAJ bs).map i64v).toArray rfl rfl 113 zI.toArray ho hsz2.out (by simp[zIj,zAl]) (by simp[i64v];intros;rfl) ?_)
     exact bodyPost_ret (v:=.agg ((zAJ bs).map i64v).toArray) (results_cell_row Tryz.results88 _ _ w.heap.size 113 _ (0,0) _ rfl (ho.row _) Tryz.underlying113 rfl hsz2.out) rfl ⟨rfl,Below.row hbel (Nat.le_refl _) _⟩
def accN (bs:List UInt8) (k j:Nat):Nat:=getB (((bs.take k).drop (4*j)).take 4)
def accW (bs:List UInt8) (k:Nat):List Value:=(List.range 64).map (fun j=>u32v (accN bs k j))
theorem zFH (bs:List UInt8) (k:Nat):(accW bs k).length=64:=by simp[accW]
theorem zDR (bs:List UInt8) (k:Nat) {j:Nat} (h:j<64):(accW bs k)[j]?=some (.int .u32 (accN bs k j:Nat)):=by simp[accW,u32v,h]
theorem zH1 (bs:List UInt8) (k j:Nat) (hk:k<bs.length) (h:j≠k / 4):accN bs (k+1) j=accN bs k j:=by
 unfold accN
 congr 1
 by_cases h1:k<4*j
 ·rw[List.drop_eq_nil_of_le (by simp;omega),List.drop_eq_nil_of_le (by simp;omega)]
 ·have h2:4*j+4≤k:=by omega
  rw[List.take_succ_eq_append_getElem hk,List.drop_append_of_le_length (by simp;omega),List.take_append_of_le_length (by simp;omega)]
theorem zIw (bs:List UInt8) (k:Nat) (hk:k<bs.length):((accN bs (k+1) (k / 4):Nat):Int)=(accN bs k (k / 4):Int)*256+at8 bs k:=by
 unfold accN;have e1:((bs.take k).drop (4*(k / 4))++[bs[k]]).take 4=(bs.take k).drop (4*(k / 4))++[bs[k]]:=List.take_of_length_le (by simp;omega);have e2:((bs.take k).drop (4*(k / 4))).take 4=(bs.take k).drop (4*(k / 4)):=List.take_of_length_le (by simp;omega);rw[List.take_succ_eq_append_getElem hk,List.drop_append_of_le_length (by simp;omega),e1,e2,zFj,zA8 hk];omega
theorem zLm (bs:List UInt8) (k:Nat):accN bs k (k / 4)<16777216:=by
 unfold accN;refine Nat.lt_of_lt_of_le (zGa _) (Nat.le_trans (Nat.pow_le_pow_right (by decide) (show _≤3 by simp;omega)) (by decide))
theorem zKC (bs:List UInt8) (k:Nat) (hk:k<bs.length):(accW bs k).set (k / 4) (.int .u32 ((accN bs k (k / 4):Int)*256+at8 bs k))=accW bs (k+1):=by
 rw[← zIw bs k hk];apply List.ext_getElem?;intro i;rw[List.getElem?_set]
 by_cases h:k / 4=i
 ·subst h
  by_cases h2:k / 4<64
  ·rw[zDR bs (k+1) h2];simp[zFH,h2]
  ·simp[accW,h2]
 ·rw[if_neg h]
  by_cases h2:i<64
  ·rw[zDR bs k h2,zDR bs (k+1) h2,zH1 bs k i hk (fun e=>h e.symm)]
  ·simp[accW,h2]
theorem zIx (bs:List UInt8):accW bs 0=zU:=by
 apply List.ext_getElem?;intro i
 by_cases h:i<64
 ·rw[zDR bs 0 h,zU,List.getElem?_replicate,if_pos h];simp[accN,getB]
 ·rw[List.getElem?_eq_none (by rw[zFH];omega),List.getElem?_eq_none (by rw[zLH];omega)]
theorem zKD (bs:List UInt8) (hl:bs.length=64):accW bs 64=zBZ u32v (.int .u32 0) (zP bs):=by
 apply List.ext_getElem?;intro i
 by_cases h:i<64
 ·rw[zDR bs 64 h]
  by_cases h2:i<16
  ·rw[zEC _ _ (by rw[zA9];exact h2)];simp[u32v,accN,zP,zEZ,h2,List.take_of_length_le (Nat.le_of_eq hl)]
  ·rw[zB9 _ _ (by rw[zA9];omega) h]
   have e:accN bs 64 i=0:=by
    unfold accN;rw[List.drop_eq_nil_of_le (by simp;omega)];rfl
   rw[e];rfl
 ·rw[List.getElem?_eq_none (by rw[zFH];omega),List.getElem?_eq_none (by rw[zHy _ _ (by rw[zA9];omega)];omega)]
theorem zG8:(Tryz.prog.info? 202).map (fun i=>(i.zero,i.size))=some (some (.agg zU.toArray),64):=by kernel_rfl
theorem zC7 (x i j k:Nat) (m n o:Int) (hm:m=i) (hn:n=j) (ho:o=k) (w:World) (hx:x<4294967296) (hi:i≤31) (hj:j≤31) (hk:k≤31):
  Calls Tryz.prog 181 #[.int .u32 x,.int .i64 m,.int .i64 n,.int .i64 o] w fun e w'=>e=.returned (.int .u32 (sh2 x i j k:Nat))∧∃ n,w'=w.drewN n:=by
 subst hm hn ho;exact zFF x i j k w hx hi hj hk
theorem zKE (b o cap:Nat) (bs:List UInt8) (w:World) (hr:Rd w (some ⟨b,o,none⟩) cap bs) (h64:bs.length=64):
  Calls Tryz.prog 163 #[.slice (some ⟨b,o,none⟩) 64 cap] w fun e w'=>e=.returned (.agg ((zAJ bs).map u32v).toArray)∧Below w.heap.size w w':=by
 have HR:Hid (Rd w (some ⟨b,o,none⟩) cap bs):=hr;have HL:Hid (bs.length=64):=h64
 have hcap:64≤cap:=by have:=hr.1;omega
 have hzv:Hid (∀ w,(zeroValue 202).run Tryz.prog w=.ok (.agg zU.toArray) w):=(zero_of_info zG8).1;clear hr h64;go_enter Tryz.func163,Tryz.ntmps163
 go_wp2_with (first
  | refine zS rfl 202 rfl _ hzv.out w.heap.size rfl ?_
  | refine zS rfl 202 rfl _ hzv.out (w.heap.size+1) (zD _ _) ?_)
 go_loopw [9] (fun i wr=>∃ k:Nat,k≤64∧i=.int .i64 k∧Arr wr (w.heap.size+1) 202 (accW bs k)∧Arr wr w.heap.size 202 zU∧Below w.heap.size w wr)
  (fun i _=>64-(intOf i).toNat)
 case atStart=>
  have h1:=Arr.new w zU 202;have h2:=Arr.new (w.alloc (.cells zU.toArray 202)) zU 202;rw[zD] at h2;exact⟨0,Nat.zero_le _,rfl,by rw[zIx];exact h2,h1.old _ _,Below.mk (zA _ _) _⟩
 case round=>
  obtain⟨k,hk,rfl,hs,ho,hbel⟩:=hrel
  by_cases hlt:k<64
  ·have hll:k<bs.length:=by rw[HL.out];exact hlt
   have hcx:=(hs.cell (k / 4)).trans (zDR bs k (by omega));have hfx:=hs.frozen (k / 4)
   have hix:((k:Int) / 4).toNat=k / 4:=by omega
   obtain⟨b',o',ea,hc⟩:=HR.out.2.2.2 (by omega);simp at ea;obtain⟨rfl,rfl⟩:=ea;have hcy:wr.cell? ⟨b,o+k,none⟩=some (.int .u8 (at8 bs k)):=(hbel.cell (World.block_lt_of_cell? w _ (hc k hll))).trans (hc k hll);have h0:=zDb bs k;have h1:=zDc bs k;have hg1:=zLm bs k;have hor:=zLY _ _ hg1 h0 h1
   have hg2:(accN bs k (k / 4):Int)≤16777215:=by omega
   have R:=hs.set (k / 4) (.int .u32 ((accN bs k (k / 4):Int)*256+at8 bs k));rw[zKC bs k hll] at R;have RO:=ho.setOther (a:=⟨w.heap.size+1,k / 4,none⟩) (by show w.heap.size≠w.heap.size+1;omega) (.int .u32 ((accN bs k (k / 4):Int)*256+at8 bs k));have RB:=Below.setCell (p:=⟨w.heap.size+1,k / 4,none⟩) hbel (Nat.le_succ _) (.int .u32 ((accN bs k (k / 4):Int)*256+at8 bs k));generalize accN bs k (k / 4)=m at *;generalize at8 bs k=b8 at *;clear hc hs ho HR hg1;go_wp2;go_roundw
   case rel=>exact⟨k+1,by omega,by go_num,R,RO,RB⟩
   case measure=>simp[intOf];omega
  ·have e:k=64:=by omega
   subst e;rw[zKD bs HL.out] at hs;clear HR HL hcap;go_wp2;clear hlt hk
   go_loopw [6] (fun i wr=>∃ k:Nat,16≤k∧k≤64∧i=.int .i64 k∧Arr wr (w.heap.size+1) 202 (zBZ u32v (.int .u32 0) (zAR (zP bs) (k-16)))∧Arr wr w.heap.size 202 zU∧Below w.heap.size w wr)
    (fun i _=>64-(intOf i).toNat)
   case atStart=>exact⟨16,by omega,by omega,rfl,hs,ho,hbel⟩
   case round=>
    clear hs ho hbel;obtain⟨k,hk0,hk,rfl,hs,ho,hbel⟩:=hrel
    have hlen:Hid ((zAR (zP bs) (k-16)).length=k):=by show _=_;rw[zD7,zA9];omega
    have hok:=zE8 (zDL bs) (k-16)
    by_cases hlt:k<64
    ·have hcx:wr.cell? ⟨w.heap.size+1,k,none⟩=some (.int .u32 0):=by rw[hs.cell];exact zB9 _ _ (Nat.le_of_eq hlen.out) hlt
     have hfx:=hs.frozen k
     have cell:∀ d,0<d→d≤16→wr.cell? ⟨w.heap.size+1,k-d,none⟩=some (.int .u32 ((zAR (zP bs) (k-16)).getD (k-d) 0:Nat)):=fun d h1 h2=>by
      rw[hs.cell];exact zEC _ _ (by rw[hlen.out];omega)
     have c15:=cell 15 (by decide) (by decide);have c2:=cell 2 (by decide) (by decide);have c7:=cell 7 (by decide) (by decide);have c16:=cell 16 (by decide) (by decide)
     have i15:((k:Int)-15).toNat=k-15:=by omega
     have i2:((k:Int)-2).toNat=k-2:=by omega
     have i7:((k:Int)-7).toNat=k-7:=by omega
     have i16:((k:Int)-16).toNat=k-16:=by omega
     have b15:=hok.getD (k-15);have b2:=hok.getD (k-2)
     have hnext:Hid (zD6 (zAR (zP bs) (k-16))=(sh2 ((zAR (zP bs) (k-16)).getD (k-2) 0) 17 19 10+(zAR (zP bs) (k-16)).getD (k-7) 0+sh2 ((zAR (zP bs) (k-16)).getD (k-15) 0) 7 18 3+(zAR (zP bs) (k-16)).getD (k-16) 0) % 4294967296):=by
      show _=_
      rw[zD6,hlen.out]
     have hset:=zDP u32v (.int .u32 0) (zAR (zP bs) (k-16)) (zD6 (zAR (zP bs) (k-16))) (by rw[hlen.out];exact hlt);rw[hlen.out,show zAR (zP bs) (k-16)++[zD6 (zAR (zP bs) (k-16))]=zAR (zP bs) (k+1-16) by rw[show k+1-16=(k-16)+1 by omega];rfl] at hset;have R:=hs.set k (u32v (zD6 (zAR (zP bs) (k-16))));rw[hset,hnext.out] at R;have RO:=ho.setOther (a:=⟨w.heap.size+1,k,none⟩) (by show w.heap.size≠w.heap.size+1;omega)
     have RB:=fun v=>Below.setCell (p:=⟨w.heap.size+1,k,none⟩) hbel (Nat.le_succ _) v
     clear hset hnext hs ho cell hok hlen;generalize (zAR (zP bs) (k-16)).getD (k-15) 0=x at *;generalize (zAR (zP bs) (k-16)).getD (k-2) 0=y at *;generalize (zAR (zP bs) (k-16)).getD (k-7) 0=m at *;generalize (zAR (zP bs) (k-16)).getD (k-16) 0=n at *
     have g2:(0:Int)≤(k:Int)-2:=by omega
     have l2:(k:Int)-2<64:=by omega
     have g7:(0:Int)≤(k:Int)-7:=by omega
     have l7:(k:Int)-7<64:=by omega
     have g15:(0:Int)≤(k:Int)-15:=by omega
     have l15:(k:Int)-15<64:=by omega
     have g16:(0:Int)≤(k:Int)-16:=by omega
     have l16:(k:Int)-16<64:=by omega
     have v2:IntKind.i64.wrap ((k:Int)-2)=(k:Int)-2:=by rw[IntKind.wrap_i64];omega
     have v7:IntKind.i64.wrap ((k:Int)-7)=(k:Int)-7:=by rw[IntKind.wrap_i64];omega
     have v15:IntKind.i64.wrap ((k:Int)-15)=(k:Int)-15:=by rw[IntKind.wrap_i64];omega
     have v16:IntKind.i64.wrap ((k:Int)-16)=(k:Int)-16:=by rw[IntKind.wrap_i64];omega
     have gk:(k:Int)<64:=by omega
     go_wp2;refine zCp (C:=fun w'=>∃ n,w'=wr.drewN n) 23 rfl rfl rfl (by kernel_rfl) (by kernel_rfl) (by kernel_rfl) (by kernel_rfl) ⟨1,rfl⟩ ?_;simp only[List.take_succ_cons,List.take_zero]
     repeat (go_big_quiet_step ((first | (go_at_call_of 181 (Value.int .u32 (y:Int));exact Calls.quiet_of (zC7 y 17 19 10 _ _ _ rfl rfl rfl _ b2 (by decide) (by decide) (by decide))) | (go_at_call_of 181 (Value.int .u32 (x:Int));exact Calls.quiet_of (zC7 x 7 18 3 _ _ _ rfl rfl rfl _ b15 (by decide) (by decide) (by decide))))))
     refine wpQuiet_nil ?_;rintro w' ⟨nq,rfl⟩ K hK;go_wp2;go_roundw
     case rel=>
      (repeat apply Exists.intro)
      refine⟨?_,rfl⟩
      have E:((((sh2 y 17 19 10:Nat):Int)+(m:Int)+((sh2 x 7 18 3:Nat):Int)+(n:Int)) % 4294967296)=(((sh2 y 17 19 10+m+sh2 x 7 18 3+n) % 4294967296:Nat):Int):=by omega
      rw[E];exact⟨k+1,by omega,by omega,by go_num,R,RO _,by first | exact RB _ | exact below_drewN (RB _) _ | exact⟨(RB _).os,(RB _).tape,(RB _).output,(RB _).size,(RB _).block⟩⟩
     case measure=>simp[intOf];omega
    ·have e:k=64:=by omega
     subst e;rw[show zAR (zP bs) (64-16)=zAJ bs from rfl,zEp _ _ (zAl bs)] at hs
     have hsz2:Hid ((Tryz.prog.info? 202).map (·.size)=some ((zAJ bs).map u32v).toArray.size):=by show _=_;rw[(zero_of_info zG8).2];simp[zAl]
     go_wp2_with (first
      | refine wpList_load_row rfl 202 (.tmp 3) rfl (w.heap.size+1) rfl 202 _ (0,0) _ hs Tryz.underlying202 rfl hsz2.out ?_
      | refine wpList_store_row rfl 202 (.tmp 2) (.tmp 53) rfl w.heap.size ((zAJ bs).map u32v).toArray rfl rfl 202 zU.toArray ho hsz2.out (by simp[zLH,zAl]) (by simp[u32v];intros;rfl) ?_)
     exact bodyPost_ret (v:=.agg ((zAJ bs).map u32v).toArray) (results_cell_row Tryz.results163 _ _ w.heap.size 202 _ (0,0) _ rfl (ho.row _) Tryz.underlying202 rfl hsz2.out) rfl ⟨rfl,Below.row hbel (Nat.le_refl _) _⟩
end Go.Proofs.YtbaldmmbphbinaaGreatDoor
