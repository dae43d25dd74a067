import Derived.Test.YtiabacnmmojfjaaGreatDoorJoint11
import Derived.Test.YtiabacnmmojfjaaGreatDoorJoint7
import Derived.BigRegion
import Derived.Test.YtiabacnmmojfjaaGreatDoorJoint4
import Derived.Deep.RegionWith
set_option maxHeartbeats 1000000
set_option maxRecDepth 4000
open Go.Proofs.Tryz
namespace Go.Proofs.YtiabacnmmojfjaaGreatDoor
open Go.ChangeShapes Go.WideShapes Go.ChangeAt Go.RowKit
def zCK (f:Nat→Value) (z:Value) (ws:List Nat):List Value:=ws.map f++List.replicate (64-ws.length) z
theorem zFa (f:Nat→Value) (z:Value) {ws:List Nat} {i:Nat} (h:i<ws.length):(zCK f z ws)[i]?=some (f (ws.getD i 0)):=by
 unfold zCK;rw[List.getElem?_append_left (by simpa using h)];simp[h]
theorem zCs (f:Nat→Value) (z:Value) {ws:List Nat} {i:Nat} (h:ws.length≤i) (h2:i<64):(zCK f z ws)[i]?=some z:=by
 unfold zCK;rw[List.getElem?_append_right (by simpa using h),List.getElem?_replicate,if_pos (by simp;omega)]
theorem zEf (f:Nat→Value) (z:Value) (ws:List Nat) (x:Nat) (h:ws.length<64):(zCK f z ws).set ws.length (f x)=zCK f z (ws++[x]):=by
 unfold zCK;rw[List.set_append_right _ _ (by simp),List.length_map,Nat.sub_self,show 64-ws.length=(64-(ws++[x]).length)+1 by simp;omega,List.replicate_succ,List.set_cons_zero,List.map_append,List.append_assoc];rfl
theorem zGQ (f:Nat→Value) (z:Value) {ws:List Nat} (h:ws.length=64):zCK f z ws=ws.map f:=by simp[zCK,h]
theorem zJM (f:Nat→Value) (z:Value) {ws:List Nat} (h:ws.length≤64):(zCK f z ws).length=64:=by simp[zCK];omega
def zE3 (bs:List UInt8) (k:Nat):List Nat:=(List.range k).map (zF3 bs)
theorem zEg (bs:List UInt8) (k:Nat):(zE3 bs k).length=k:=by simp[zE3]
theorem zH7 (bs:List UInt8) (k:Nat):zE3 bs (k+1)=zE3 bs k++[zF3 bs k]:=by simp[zE3,List.range_succ]
theorem zJN (bs:List UInt8):zE3 bs 16=zR bs:=rfl
theorem zCW:(Tryz.prog.info? 177).map (fun i=>(i.zero,i.size))=some (some (.agg zI.toArray),64):=by kernel_rfl
theorem zKA:Tryz.prog.built 177 []=some zI.toArray:=by kernel_rfl
theorem zJO (b o cap:Nat) (bs:List UInt8) (w:World) (hr:Rd w (some ⟨b,o,none⟩) cap bs) (h64:bs.length=64):
  Calls prog 170 #[.slice (some ⟨b,o,none⟩) 64 cap] w fun e w'=>e=.returned (.agg ((zAg bs).map i64v).toArray)∧Below w.heap.size w w':=by
 have HR:Hid (Rd w (some ⟨b,o,none⟩) cap bs):=hr;have HL:Hid (bs.length=64):=h64
 have hcap:64≤cap:=by have:=hr.1;omega
 have hcm:cap≤2 ^ 63-1:=hr.2.1;have hzv:Hid (∀ w,(zeroValue 177).run prog w=.ok (.agg zI.toArray) w):=(zero_of_info zCW).1
 have hsz:Hid ((Tryz.prog.info? 177).map (·.size)=some zI.toArray.size):=by show _=_;rw[(zero_of_info zCW).2];simp[zJx]
 clear hr h64;go_enter func170,ntmps170
 go_wp2_with (first
  | refine zY rfl 177 rfl _ hzv.out w.heap.size rfl ?_
  | refine zY rfl 177 rfl _ hzv.out (w.heap.size+1) (zB _ _) ?_
  | refine zFV rfl 177 rfl _ zKA ?_
  | (refine wpList_store_row rfl 177 (.tmp 3) (.tmp 10) rfl (w.heap.size+1) zI.toArray (by rfl) (by rfl) 177 zI.toArray (heap_alloc2_new _ _ _) hsz.out rfl (by kernel_rfl) ?_))
 go_loopw [4] (fun i wr=>∃ k:Nat,k≤16∧i=.int .i64 k∧Arr wr (w.heap.size+1) 177 (zCK i64v (.int .i64 0) (zE3 bs k))∧Arr wr w.heap.size 177 zI∧Below w.heap.size w wr)
  (fun i _=>16-(intOf i).toNat)
 case atStart=>
  have h1:=yr w zI 177;have h2:=yr (w.alloc (.cells zI.toArray 177)) zI 177;rw[zB] at h2;exact⟨0,Nat.zero_le _,rfl,h2.row zI,(h1.old _ _).rowOther (by omega) _,Below.row (yt (zA _ _) _) (yh _) _⟩
 case round=>
  obtain⟨k,hk,rfl,hs,ho,hbel⟩:=hrel
  by_cases hlt:k<16
  ·have hcx:wr.cell? ⟨w.heap.size+1,k,none⟩=some (.int .i64 0):=by rw[hs.cell];exact zCs _ _ (by rw[zEg];exact yf _) (by omega)
   have hfx:=hs.frozen k;have hrd:=(HR.out.keep hbel).cut (4*k) 4 (cap-4*k) (by rw[HL.out];omega) (by omega) (by have:=HR.out.2.1;omega);have R:=hs.set k (i64v (zF3 bs k));have e1:=zEf i64v (.int .i64 0) (zE3 bs k) (zF3 bs k) (by rw[zEg];omega);rw[zEg] at e1;rw[e1,← zH7] at R;have RO:=ho.setOther (a:=⟨w.heap.size+1,k,none⟩) (by show w.heap.size≠w.heap.size+1;omega) (i64v (zF3 bs k));have RB:=Below.setCell (p:=⟨w.heap.size+1,k,none⟩) hbel (yh _) (i64v (zF3 bs k))
   have HN:Hid (((bs.drop (4*k)).take 4).length=4):=by show _=_;have:=HL.out;simp;omega
   clear hs ho e1 HR;go_wp2_with fail;refine(zH4 _ _ 4 _ _ hrd HN.out (by decide)).mono ?_;rintro e w2 ⟨rfl,rfl⟩;rw[show getB ((bs.drop (4*k)).take 4)=zF3 bs k from rfl];go_wp2;go_roundw
   case rel=>exact⟨k+1,by omega,by go_num,R,RO,RB⟩
   case measure=>simp[intOf];omega
  ·have e:k=16:=by omega
   subst e;rw[zJN] at hs;clear HR HL hcap hcm;go_wp2;clear hlt hk
   go_loopw [5] (fun i wr=>∃ k:Nat,16≤k∧k≤64∧i=.int .i64 k∧Arr wr (w.heap.size+1) 177 (zCK i64v (.int .i64 0) (zAn (zR bs) (k-16)))∧Arr wr w.heap.size 177 zI∧Below w.heap.size w wr)
    (fun i _=>64-(intOf i).toNat)
   case atStart=>exact⟨16,by omega,by omega,rfl,hs,ho,hbel⟩
   case round=>
    clear hs ho hbel;obtain⟨k,hk0,hk,rfl,hs,ho,hbel⟩:=hrel
    have hlen:Hid ((zAn (zR bs) (k-16)).length=k):=by show _=_;rw[zFU,zBn];omega
    have hok:=zGh (zEX bs) (k-16)
    by_cases hlt:k<64
    ·have hcx:wr.cell? ⟨w.heap.size+1,k,none⟩=some (.int .i64 0):=by rw[hs.cell];exact zCs _ _ (Nat.le_of_eq hlen.out) hlt
     have hfx:=hs.frozen k
     have cell:∀ d,0<d→d≤16→wr.cell? ⟨w.heap.size+1,k-d,none⟩=some (.int .i64 ((zAn (zR bs) (k-16)).getD (k-d) 0:Nat)):=fun d h1 h2=>by
      rw[hs.cell];exact zFa _ _ (by rw[hlen.out];omega)
     have c15:=cell 15 (by decide) (by decide);have c2:=cell 2 (by decide) (by decide);have c7:=cell 7 (by decide) (by decide);have c16:=cell 16 (by decide) (by decide)
     have i15:((k:Int)-15).toNat=k-15:=by omega
     have i2:((k:Int)-2).toNat=k-2:=by omega
     have i7:((k:Int)-7).toNat=k-7:=by omega
     have i16:((k:Int)-16).toNat=k-16:=by omega
     have b15:=hok.getD (k-15);have b2:=hok.getD (k-2);have b7:=hok.getD (k-7);have b16:=hok.getD (k-16)
     have hnext:Hid (zFT (zAn (zR bs) (k-16))=(sh2 ((zAn (zR bs) (k-16)).getD (k-2) 0) 17 19 10+(zAn (zR bs) (k-16)).getD (k-7) 0+sh2 ((zAn (zR bs) (k-16)).getD (k-15) 0) 7 18 3+(zAn (zR bs) (k-16)).getD (k-16) 0) % 4294967296):=by
      show _=_
      rw[zFT,hlen.out]
     have hset:=zEf i64v (.int .i64 0) (zAn (zR bs) (k-16)) (zFT (zAn (zR bs) (k-16))) (by rw[hlen.out];exact hlt);rw[hlen.out,show zAn (zR bs) (k-16)++[zFT (zAn (zR bs) (k-16))]=zAn (zR bs) (k+1-16) by rw[show k+1-16=(k-16)+1 by omega];rfl] at hset;have R:=hs.set k (i64v (zFT (zAn (zR bs) (k-16))));rw[hset,hnext.out] at R;have RO:=ho.setOther (a:=⟨w.heap.size+1,k,none⟩) (by show w.heap.size≠w.heap.size+1;omega)
     have RB:=fun v=>Below.setCell (p:=⟨w.heap.size+1,k,none⟩) hbel (yh _) v
     clear hset hnext hs ho cell hok hlen;generalize (zAn (zR bs) (k-16)).getD (k-15) 0=x at *;generalize (zAn (zR bs) (k-16)).getD (k-2) 0=y at *;generalize (zAn (zR bs) (k-16)).getD (k-7) 0=m at *;generalize (zAn (zR bs) (k-16)).getD (k-16) 0=n at *;have x1:=zBB (zAD x 7 b15 (by decide)) (zAD x 18 b15 (by decide))
     have x2:bits .xor .i64 ((rotN x 7 ^^^ rotN x 18:Nat):Int) ((x:Int) / 8)=((sh2 x 7 18 3:Nat):Int):=by
      rw[show((x:Int) / 8)=((x / 2 ^ 3:Nat):Int) by omega];exact zBB (zAy (zAD x 7 b15 (by decide)) (zAD x 18 b15 (by decide))) (by omega)
     have y1:=zBB (zAD y 17 b2 (by decide)) (zAD y 19 b2 (by decide))
     have y2:bits .xor .i64 ((rotN y 17 ^^^ rotN y 19:Nat):Int) ((y:Int) / 1024)=((sh2 y 17 19 10:Nat):Int):=by
      rw[show((y:Int) / 1024)=((y / 2 ^ 10:Nat):Int) by omega];exact zBB (zAy (zAD y 17 b2 (by decide)) (zAD y 19 b2 (by decide))) (by omega)
     have s1:((sh2 x 7 18 3:Nat):Int)≤4294967295:=by have:=zMD (i:=7) (j:=18) (k:=3) b15 (by decide) (by decide);omega
     have s2:((sh2 y 17 19 10:Nat):Int)≤4294967295:=by have:=zMD (i:=17) (j:=19) (k:=10) b2 (by decide) (by decide);omega
     go_wp2_with fail;refine(zBv x 7 _ rfl _ b15 (by decide) (by decide)).mono ?_;rintro r w2 ⟨rfl,rfl⟩;go_wp2_with fail;refine(zBv x 18 _ rfl _ b15 (by decide) (by decide)).mono ?_;rintro r w2 ⟨rfl,rfl⟩;go_wp2_with fail;refine(zBv y 17 _ rfl _ b2 (by decide) (by decide)).mono ?_;rintro r w2 ⟨rfl,rfl⟩;go_wp2_with fail;refine(zBv y 19 _ rfl _ b2 (by decide) (by decide)).mono ?_;rintro r w2 ⟨rfl,rfl⟩;go_wp2
     go_region
     go_wp2;go_roundw
     case rel=>
      (repeat apply Exists.intro)
      refine⟨?_,rfl⟩
      have E:((((sh2 y 17 19 10:Nat):Int)+(m:Int)+((sh2 x 7 18 3:Nat):Int)+(n:Int)) % 4294967296)=(((sh2 y 17 19 10+m+sh2 x 7 18 3+n) % 4294967296:Nat):Int):=by omega
      rw[E];exact⟨k+1,by omega,by omega,by go_num,R,RO _,Below.drew (RB _)⟩
     case measure=>simp[intOf];omega
    ·have e:k=64:=by omega
     subst e;rw[show zAn (zR bs) (64-16)=zAg bs from rfl,zGQ _ _ (zA8 bs)] at hs
     have hsz2:Hid ((Tryz.prog.info? 177).map (·.size)=some ((zAg bs).map i64v).toArray.size):=by show _=_;rw[(zero_of_info zCW).2];simp[zA8]
     go_wp2_with (first
      | refine wpList_load_row rfl 177 (.tmp 3) rfl (w.heap.size+1) rfl 177 _ (0,0) _ hs underlying177 rfl hsz2.out ?_
      | refine wpList_store_row rfl 177 (.tmp 2) (.tmp 69) rfl w.heap.size ((zAg bs).map i64v).toArray rfl rfl 177 zI.toArray ho hsz2.out (by simp[zJx,zA8]) (by simp[i64v];intros;rfl) ?_)
     exact bodyPost_ret (v:=.agg ((zAg bs).map i64v).toArray) (results_cell_row results170 _ _ w.heap.size 177 _ (0,0) _ rfl (ho.row _) underlying177 rfl hsz2.out) rfl ⟨rfl,Below.row hbel (yf _) _⟩
def accN (bs:List UInt8) (k j:Nat):Nat:=getB (((bs.take k).drop (4*j)).take 4)
def accW (bs:List UInt8) (k:Nat):List Value:=(List.range 64).map (fun j=>u32v (accN bs k j))
theorem zGq (bs:List UInt8) (k:Nat):(accW bs k).length=64:=by simp[accW]
theorem zEh (bs:List UInt8) (k:Nat) {j:Nat} (h:j<64):(accW bs k)[j]?=some (.int .u32 (accN bs k j:Nat)):=by simp[accW,u32v,h]
theorem zJP (bs:List UInt8) (k j:Nat) (hk:k<bs.length) (h:j≠k / 4):accN bs (k+1) j=accN bs k j:=by
 unfold accN
 congr 1
 by_cases h1:k<4*j
 ·rw[List.drop_eq_nil_of_le (by simp;omega),List.drop_eq_nil_of_le (by simp;omega)]
 ·have h2:4*j+4≤k:=by omega
  rw[List.take_succ_eq_append_getElem hk,List.drop_append_of_le_length (by simp;omega),List.take_append_of_le_length (by simp;omega)]
theorem zKB (bs:List UInt8) (k:Nat) (hk:k<bs.length):((accN bs (k+1) (k / 4):Nat):Int)=(accN bs k (k / 4):Int)*256+at8 bs k:=by
 unfold accN;have e1:((bs.take k).drop (4*(k / 4))++[bs[k]]).take 4=(bs.take k).drop (4*(k / 4))++[bs[k]]:=List.take_of_length_le (by simp;omega);have e2:((bs.take k).drop (4*(k / 4))).take 4=(bs.take k).drop (4*(k / 4)):=List.take_of_length_le (by simp;omega);rw[List.take_succ_eq_append_getElem hk,List.drop_append_of_le_length (by simp;omega),e1,e2,zHG,zBk hk];omega
theorem zMr (bs:List UInt8) (k:Nat):accN bs k (k / 4)<16777216:=by
 unfold accN;refine Nat.lt_of_lt_of_le (zH1 _) (yi (Nat.pow_le_pow_right (by decide) (show _≤3 by simp;omega)) (by decide))
theorem zLG (bs:List UInt8) (k:Nat) (hk:k<bs.length):(accW bs k).set (k / 4) (.int .u32 ((accN bs k (k / 4):Int)*256+at8 bs k))=accW bs (k+1):=by
 rw[← zKB bs k hk];apply List.ext_getElem?;intro i;rw[List.getElem?_set]
 by_cases h:k / 4=i
 ·subst h
  by_cases h2:k / 4<64
  ·rw[zEh bs (k+1) h2];simp[zGq,h2]
  ·simp[accW,h2]
 ·rw[if_neg h]
  by_cases h2:i<64
  ·rw[zEh bs k h2,zEh bs (k+1) h2,zJP bs k i hk (fun e=>h e.symm)]
  ·simp[accW,h2]
theorem zKC (bs:List UInt8):accW bs 0=zU:=by
 apply List.ext_getElem?;intro i
 by_cases h:i<64
 ·rw[zEh bs 0 h,zU,List.getElem?_replicate,if_pos h];simp[accN,getB]
 ·rw[List.getElem?_eq_none (by rw[zGq];omega),List.getElem?_eq_none (by rw[zMG];omega)]
theorem zLH (bs:List UInt8) (hl:bs.length=64):accW bs 64=zCK u32v (.int .u32 0) (zR bs):=by
 apply List.ext_getElem?;intro i
 by_cases h:i<64
 ·rw[zEh bs 64 h]
  by_cases h2:i<16
  ·rw[zFa _ _ (by rw[zBn];exact h2)];simp[u32v,accN,zR,zF3,h2,List.take_of_length_le (Nat.le_of_eq hl)]
  ·rw[zCs _ _ (by rw[zBn];omega) h]
   have e:accN bs 64 i=0:=by
    unfold accN;rw[List.drop_eq_nil_of_le (by simp;omega)];rfl
   rw[e];rfl
 ·rw[List.getElem?_eq_none (by rw[zGq];omega),List.getElem?_eq_none (by rw[zJM _ _ (by rw[zBn];omega)];omega)]
theorem zIk:(Tryz.prog.info? 223).map (fun i=>(i.zero,i.size))=some (some (.agg zU.toArray),64):=by kernel_rfl
theorem zEA (x i j k:Nat) (m n o:Int) (hm:m=i) (hn:n=j) (ho:o=k) (w:World) (hx:x<4294967296) (hi:i≤31) (hj:j≤31) (hk:k≤31):
  Calls prog 224 #[.int .u32 x,.int .i64 m,.int .i64 n,.int .i64 o] w fun e w'=>e=.returned (.int .u32 (sh2 x i j k:Nat))∧∃ n,w'=w.drewN n:=by
 subst hm hn ho;exact zGo x i j k w hx hi hj hk
theorem zLI (b o cap:Nat) (bs:List UInt8) (w:World) (hr:Rd w (some ⟨b,o,none⟩) cap bs) (h64:bs.length=64):
  Calls prog 216 #[.slice (some ⟨b,o,none⟩) 64 cap] w fun e w'=>e=.returned (.agg ((zAg bs).map u32v).toArray)∧Below w.heap.size w w':=by
 have HR:Hid (Rd w (some ⟨b,o,none⟩) cap bs):=hr;have HL:Hid (bs.length=64):=h64
 have hcap:64≤cap:=by have:=hr.1;omega
 have hzv:Hid (∀ w,(zeroValue 223).run prog w=.ok (.agg zU.toArray) w):=(zero_of_info zIk).1;clear hr h64;go_enter func216,ntmps216
 go_wp2_with (first
  | refine zY rfl 223 rfl _ hzv.out w.heap.size rfl ?_
  | refine zY rfl 223 rfl _ hzv.out (w.heap.size+1) (zB _ _) ?_)
 go_loopw [9] (fun i wr=>∃ k:Nat,k≤64∧i=.int .i64 k∧Arr wr (w.heap.size+1) 223 (accW bs k)∧Arr wr w.heap.size 223 zU∧Below w.heap.size w wr)
  (fun i _=>64-(intOf i).toNat)
 case atStart=>
  have h1:=yr w zU 223;have h2:=yr (w.alloc (.cells zU.toArray 223)) zU 223;rw[zB] at h2;exact⟨0,Nat.zero_le _,rfl,by rw[zKC];exact h2,h1.old _ _,yt (zA _ _) _⟩
 case round=>
  obtain⟨k,hk,rfl,hs,ho,hbel⟩:=hrel
  by_cases hlt:k<64
  ·have hll:k<bs.length:=by rw[HL.out];exact hlt
   have hcx:=(hs.cell (k / 4)).trans (zEh bs k (by omega));have hfx:=hs.frozen (k / 4)
   have hix:((k:Int) / 4).toNat=k / 4:=by omega
   obtain⟨b',o',ea,hc⟩:=HR.out.2.2.2 (by omega);simp at ea;obtain⟨rfl,rfl⟩:=ea;have hcy:wr.cell? ⟨b,o+k,none⟩=some (.int .u8 (at8 bs k)):=(hbel.cell (World.block_lt_of_cell? w _ (hc k hll))).trans (hc k hll);have h0:=zDj bs k;have h1:=zDk bs k;have hg1:=zMr bs k;have hor:=zMU _ _ hg1 h0 h1
   have hg2:(accN bs k (k / 4):Int)≤16777215:=by omega
   have R:=hs.set (k / 4) (.int .u32 ((accN bs k (k / 4):Int)*256+at8 bs k));rw[zLG bs k hll] at R;have RO:=ho.setOther (a:=⟨w.heap.size+1,k / 4,none⟩) (by show w.heap.size≠w.heap.size+1;omega) (.int .u32 ((accN bs k (k / 4):Int)*256+at8 bs k));have RB:=Below.setCell (p:=⟨w.heap.size+1,k / 4,none⟩) hbel (yh _) (.int .u32 ((accN bs k (k / 4):Int)*256+at8 bs k));generalize accN bs k (k / 4)=m at *;generalize at8 bs k=b8 at *;clear hc hs ho HR hg1;go_wp2;go_roundw
   case rel=>exact⟨k+1,by omega,by go_num,R,RO,RB⟩
   case measure=>simp[intOf];omega
  ·have e:k=64:=by omega
   subst e;rw[zLH bs HL.out] at hs;clear HR HL hcap;go_wp2;clear hlt hk
   go_loopw [6] (fun i wr=>∃ k:Nat,16≤k∧k≤64∧i=.int .i64 k∧Arr wr (w.heap.size+1) 223 (zCK u32v (.int .u32 0) (zAn (zR bs) (k-16)))∧Arr wr w.heap.size 223 zU∧Below w.heap.size w wr)
    (fun i _=>64-(intOf i).toNat)
   case atStart=>exact⟨16,by omega,by omega,rfl,hs,ho,hbel⟩
   case round=>
    clear hs ho hbel;obtain⟨k,hk0,hk,rfl,hs,ho,hbel⟩:=hrel
    have hlen:Hid ((zAn (zR bs) (k-16)).length=k):=by show _=_;rw[zFU,zBn];omega
    have hok:=zGh (zEX bs) (k-16)
    by_cases hlt:k<64
    ·have hcx:wr.cell? ⟨w.heap.size+1,k,none⟩=some (.int .u32 0):=by rw[hs.cell];exact zCs _ _ (Nat.le_of_eq hlen.out) hlt
     have hfx:=hs.frozen k
     have cell:∀ d,0<d→d≤16→wr.cell? ⟨w.heap.size+1,k-d,none⟩=some (.int .u32 ((zAn (zR bs) (k-16)).getD (k-d) 0:Nat)):=fun d h1 h2=>by
      rw[hs.cell];exact zFa _ _ (by rw[hlen.out];omega)
     have c15:=cell 15 (by decide) (by decide);have c2:=cell 2 (by decide) (by decide);have c7:=cell 7 (by decide) (by decide);have c16:=cell 16 (by decide) (by decide)
     have i15:((k:Int)-15).toNat=k-15:=by omega
     have i2:((k:Int)-2).toNat=k-2:=by omega
     have i7:((k:Int)-7).toNat=k-7:=by omega
     have i16:((k:Int)-16).toNat=k-16:=by omega
     have b15:=hok.getD (k-15);have b2:=hok.getD (k-2)
     have hnext:Hid (zFT (zAn (zR bs) (k-16))=(sh2 ((zAn (zR bs) (k-16)).getD (k-2) 0) 17 19 10+(zAn (zR bs) (k-16)).getD (k-7) 0+sh2 ((zAn (zR bs) (k-16)).getD (k-15) 0) 7 18 3+(zAn (zR bs) (k-16)).getD (k-16) 0) % 4294967296):=by
      show _=_
      rw[zFT,hlen.out]
     have hset:=zEf u32v (.int .u32 0) (zAn (zR bs) (k-16)) (zFT (zAn (zR bs) (k-16))) (by rw[hlen.out];exact hlt);rw[hlen.out,show zAn (zR bs) (k-16)++[zFT (zAn (zR bs) (k-16))]=zAn (zR bs) (k+1-16) by rw[show k+1-16=(k-16)+1 by omega];rfl] at hset;have R:=hs.set k (u32v (zFT (zAn (zR bs) (k-16))));rw[hset,hnext.out] at R;have RO:=ho.setOther (a:=⟨w.heap.size+1,k,none⟩) (by show w.heap.size≠w.heap.size+1;omega)
     have RB:=fun v=>Below.setCell (p:=⟨w.heap.size+1,k,none⟩) hbel (yh _) v
     clear hset hnext hs ho cell hok hlen;generalize (zAn (zR bs) (k-16)).getD (k-15) 0=x at *;generalize (zAn (zR bs) (k-16)).getD (k-2) 0=y at *;generalize (zAn (zR bs) (k-16)).getD (k-7) 0=m at *;generalize (zAn (zR bs) (k-16)).getD (k-16) 0=n at *
     have g2:(0:Int)≤(k:Int)-2:=by omega
     have l2:(k:Int)-2<64:=by omega
     have g7:(0:Int)≤(k:Int)-7:=by omega
     have l7:(k:Int)-7<64:=by omega
     have g15:(0:Int)≤(k:Int)-15:=by omega
     have l15:(k:Int)-15<64:=by omega
     have g16:(0:Int)≤(k:Int)-16:=by omega
     have l16:(k:Int)-16<64:=by omega
     have v2:IntKind.i64.wrap ((k:Int)-2)=(k:Int)-2:=by rw[IntKind.wrap_i64];omega
     have v7:IntKind.i64.wrap ((k:Int)-7)=(k:Int)-7:=by rw[IntKind.wrap_i64];omega
     have v15:IntKind.i64.wrap ((k:Int)-15)=(k:Int)-15:=by rw[IntKind.wrap_i64];omega
     have v16:IntKind.i64.wrap ((k:Int)-16)=(k:Int)-16:=by rw[IntKind.wrap_i64];omega
     have gk:(k:Int)<64:=by omega
     go_wp2;refine zDn (C:=fun w'=>∃ n,w'=wr.drewN n) 23 rfl rfl rfl (by kernel_rfl) (by kernel_rfl) (by kernel_rfl) (by kernel_rfl) ⟨1,rfl⟩ ?_;simp only[List.take_succ_cons,List.take_zero]
     repeat (go_big_quiet_step ((first | (go_at_call_of 224 (Value.int .u32 (y:Int));exact Calls.quiet_of (zEA y 17 19 10 _ _ _ rfl rfl rfl _ b2 (by decide) (by decide) (by decide))) | (go_at_call_of 224 (Value.int .u32 (x:Int));exact Calls.quiet_of (zEA x 7 18 3 _ _ _ rfl rfl rfl _ b15 (by decide) (by decide) (by decide))))))
     refine wpQuiet_nil ?_;rintro w' ⟨nq,rfl⟩ K hK;go_wp2;go_roundw
     case rel=>
      (repeat apply Exists.intro)
      refine⟨?_,rfl⟩
      have E:((((sh2 y 17 19 10:Nat):Int)+(m:Int)+((sh2 x 7 18 3:Nat):Int)+(n:Int)) % 4294967296)=(((sh2 y 17 19 10+m+sh2 x 7 18 3+n) % 4294967296:Nat):Int):=by omega
      rw[E];exact⟨k+1,by omega,by omega,by go_num,R,RO _,by first | exact RB _ | exact below_drewN (RB _) _ | exact⟨(RB _).os,(RB _).tape,(RB _).output,(RB _).size,(RB _).block⟩⟩
     case measure=>simp[intOf];omega
    ·have e:k=64:=by omega
     subst e;rw[show zAn (zR bs) (64-16)=zAg bs from rfl,zGQ _ _ (zA8 bs)] at hs
     have hsz2:Hid ((Tryz.prog.info? 223).map (·.size)=some ((zAg bs).map u32v).toArray.size):=by show _=_;rw[(zero_of_info zIk).2];simp[zA8]
     go_wp2_with (first
      | refine wpList_load_row rfl 223 (.tmp 3) rfl (w.heap.size+1) rfl 223 _ (0,0) _ hs underlying223 rfl hsz2.out ?_
      | refine wpList_store_row rfl 223 (.tmp 2) (.tmp 53) rfl w.heap.size ((zAg bs).map u32v).toArray rfl rfl 223 zU.toArray ho hsz2.out (by simp[zMG,zA8]) (by simp[u32v];intros;rfl) ?_)
     exact bodyPost_ret (v:=.agg ((zAg bs).map u32v).toArray) (results_cell_row results216 _ _ w.heap.size 223 _ (0,0) _ rfl (ho.row _) underlying223 rfl hsz2.out) rfl ⟨rfl,Below.row hbel (yf _) _⟩
end Go.Proofs.YtiabacnmmojfjaaGreatDoor
