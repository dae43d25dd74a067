import Derived.Test.YtiabacnmmojfjabGreatDoorJoint7
import Derived.Test.YtiabacnmmojfjabGreatDoorJoint4
import Derived.Test.YtiabacnmmojfjabGreatDoorJoint9
import Derived.Test.YtiabacnmmojfjabGreatDoorRound
import Derived.Test.YtiabacnmmojfjabGreatDoorJoint3
import Derived.Test.YtiabacnmmojfjabGreatDoorJoint6
import Derived.Deep.AppendLies
import Derived.BigRegion
import Derived.Deep.RegionWith
set_option maxHeartbeats 1000000
set_option maxRecDepth 4000
open Go.Proofs.Tryz
namespace Go.Proofs.YtiabacnmmojfjabGreatDoor
open Go.ChangeShapes Go.WideShapes Go.ChangeAt Go.RowKit
abbrev BlkD:=List UInt8
theorem zNK {w:World} {a:BlkD} {vs:List Value} (h:bytC.rep w a vs):∃ p q,vs=[.slice p a.length q]∧Rd w p q a:=h
theorem zGZ {w:World} {B:Nat} {a:BlkD} {v:Value} (o:Own w B v a):bytC.own w B a [v] v.ownBlock.toList:=⟨v,rfl,o,rfl⟩
theorem zKc:(Tryz.prog.info? 22).map (fun i=>(i.zero,i.size,i.bytes))=some (some (.slice none 0 0),1,24):=by kernel_rfl
abbrev zBw:=Int×zZ
def secretsResultC:Cod zBw:=zB2 (intC .i64) secretsC
theorem zEi {w:World} {a:zBw} {vs:List Value} (h:secretsResultC.rep w a vs):∃ p2_1 q2_1 p2_2 q2_2 p2_3 q2_3 p2_4 q2_4,vs=[.int .i64 a.1,.slice p2_1 a.2.1.length q2_1,.slice p2_2 a.2.2.1.length q2_2,.slice p2_3 a.2.2.2.1.length q2_3,.slice p2_4 a.2.2.2.2.length q2_4]∧Rd w p2_1 q2_1 a.2.1∧Rd w p2_2 q2_2 a.2.2.1∧Rd w p2_3 q2_3 a.2.2.2.1∧Rd w p2_4 q2_4 a.2.2.2.2:=by
 obtain⟨us0,ts0,rfl,h0,h1⟩:=h;have e0:us0=[Value.int .i64 _]:=h0;subst e0;obtain⟨p2_1,q2_1,p2_2,q2_2,p2_3,q2_3,p2_4,q2_4,rfl,r2_1,r2_2,r2_3,r2_4⟩:=zAK h1;exact⟨p2_1,q2_1,p2_2,q2_2,p2_3,q2_3,p2_4,q2_4,rfl,r2_1,r2_2,r2_3,r2_4⟩
def isW (v:Int):Bool:=inB v 0 4294967295
def zN9 (l:List Int) (word key:Int):Bool:=l.all isW&&isW word&&isW key
def s8 (l:List Int):S8:=⟨(atI l 0).toNat,(atI l 1).toNat,(atI l 2).toNat,(atI l 3).toNat,(atI l 4).toNat,(atI l 5).toNat,(atI l 6).toNat,(atI l 7).toNat⟩
def zOh (l:List Int) (word key:Int):Int:=if l.length=8 then (if zN9 l word key then 0 else 3) else 1
def zOi (l:List Int) (word key:Int):List Int:=if l.length=8 then (if zN9 l word key then (zCA (s8 l) word.toNat key.toNat).list.map Int.ofNat else []) else []
theorem zKd (s:S8) (word key:Nat) (w:World) (h:s.ok) (hw:word<4294967296) (hk:key<4294967296):
  Calls prog 136 #[.agg s.i64,.int .i64 word,.int .i64 key] w fun r w'=>r=.returned (.agg (zCA s word key).i64)∧Below w.heap.size w w':=
 zKX s.a s.b s.c s.d s.e s.f s.g s.h word key w h.1 h.2.1 h.2.2.1 h.2.2.2.1 h.2.2.2.2.1 h.2.2.2.2.2.1 h.2.2.2.2.2.2.1 h.2.2.2.2.2.2.2 hw hk
theorem zNL (s:S8) (word key:Nat) (w:World) (h:s.ok):
  Calls prog 203 #[.agg s.u32,.int .u32 word,.int .u32 key] w fun r w'=>r=.returned (.agg (zCA s word key).u32)∧Below w.heap.size w w':=
 zNH s.a s.b s.c s.d s.e s.f s.g s.h word key w h.1 h.2.1 h.2.2.1 h.2.2.2.2.1 h.2.2.2.2.2.1 h.2.2.2.2.2.2.1
theorem S8.words {s:S8} (h:s.ok):Words s.list:=by
 intro x hx;simp only[S8.list,List.mem_cons,List.not_mem_nil,or_false] at hx;obtain⟨h1,h2,h3,h4,h5,h6,h7,h8⟩:=h
 rcases hx with rfl | rfl | rfl | rfl | rfl | rfl | rfl | rfl <;> assumption
def zCN (f:Nat→Value) (z:Value) (ws:List Nat):List Value:=ws.map f++List.replicate (64-ws.length) z
theorem zFp (f:Nat→Value) (z:Value) {ws:List Nat} {i:Nat} (h:i<ws.length):(zCN f z ws)[i]?=some (f (ws.getD i 0)):=by
 unfold zCN;rw[List.getElem?_append_left (by simpa using h)];simp[h]
theorem zCu (f:Nat→Value) (z:Value) {ws:List Nat} {i:Nat} (h:ws.length≤i) (h2:i<64):(zCN f z ws)[i]?=some z:=by
 unfold zCN;rw[List.getElem?_append_right (by simpa using h),List.getElem?_replicate,if_pos (by simp;omega)]
theorem zEj (f:Nat→Value) (z:Value) (ws:List Nat) (x:Nat) (h:ws.length<64):(zCN f z ws).set ws.length (f x)=zCN f z (ws++[x]):=by
 unfold zCN;rw[List.set_append_right _ _ (by simp),List.length_map,Nat.sub_self,show 64-ws.length=(64-(ws++[x]).length)+1 by simp;omega,List.replicate_succ,List.set_cons_zero,List.map_append,List.append_assoc];rfl
theorem zGa (f:Nat→Value) (z:Value) {ws:List Nat} (h:ws.length=64):zCN f z ws=ws.map f:=by simp[zCN,h]
theorem zJl (f:Nat→Value) (z:Value) {ws:List Nat} (h:ws.length≤64):(zCN f z ws).length=64:=by simp[zCN];omega
def zE9 (bs:List UInt8) (k:Nat):List Nat:=(List.range k).map (zGD bs)
theorem zEk (bs:List UInt8) (k:Nat):(zE9 bs k).length=k:=by simp[zE9]
theorem zIP (bs:List UInt8) (k:Nat):zE9 bs (k+1)=zE9 bs k++[zGD bs k]:=by simp[zE9,List.range_succ]
theorem zJm (bs:List UInt8):zE9 bs 16=zP bs:=rfl
theorem zCY:(Tryz.prog.info? 153).map (fun i=>(i.zero,i.size))=some (some (.agg zI.toArray),64):=by kernel_rfl
theorem zKe:Tryz.prog.built 153 []=some zI.toArray:=by kernel_rfl
theorem zJn (b o cap:Nat) (bs:List UInt8) (w:World) (hr:Rd w (some ⟨b,o,none⟩) cap bs) (h64:bs.length=64):
  Calls prog 135 #[.slice (some ⟨b,o,none⟩) 64 cap] w fun e w'=>e=.returned (.agg ((zAh bs).map i64v).toArray)∧Below w.heap.size w w':=by
 have HR:Hid (Rd w (some ⟨b,o,none⟩) cap bs):=hr;have HL:Hid (bs.length=64):=h64
 have hcap:64≤cap:=by have:=hr.1;omega
 have hcm:cap≤2 ^ 63-1:=hr.2.1;have hzv:Hid (∀ w,(zeroValue 153).run prog w=.ok (.agg zI.toArray) w):=(zero_of_info zCY).1
 have hsz:Hid ((Tryz.prog.info? 153).map (·.size)=some zI.toArray.size):=by show _=_;rw[(zero_of_info zCY).2];simp[zKM]
 clear hr h64;go_enter func135,ntmps135
 go_wp2_with (first
  | refine zT rfl 153 rfl _ hzv.out w.heap.size rfl ?_
  | refine zT rfl 153 rfl _ hzv.out (w.heap.size+1) (zB _ _) ?_
  | refine zFe rfl 153 rfl _ zKe ?_
  | (refine wpList_store_row rfl 153 (.tmp 3) (.tmp 10) rfl (w.heap.size+1) zI.toArray (by rfl) (by rfl) 153 zI.toArray (heap_alloc2_new _ _ _) hsz.out rfl (by kernel_rfl) ?_))
 go_loopw [4] (fun i wr=>∃ k:Nat,k≤16∧i=.int .i64 k∧Arr wr (w.heap.size+1) 153 (zCN i64v (.int .i64 0) (zE9 bs k))∧Arr wr w.heap.size 153 zI∧Below w.heap.size w wr)
  (fun i _=>16-(intOf i).toNat)
 case atStart=>
  have h1:=yp w zI 153;have h2:=yp (w.alloc (.cells zI.toArray 153)) zI 153;rw[zB] at h2;exact⟨0,Nat.zero_le _,rfl,h2.row zI,(h1.old _ _).rowOther (by omega) _,Below.row (yr (zA _ _) _) (yh _) _⟩
 case round=>
  obtain⟨k,hk,rfl,hs,ho,hbel⟩:=hrel
  by_cases hlt:k<16
  ·have hcx:wr.cell? ⟨w.heap.size+1,k,none⟩=some (.int .i64 0):=by rw[hs.cell];exact zCu _ _ (by rw[zEk];exact yf _) (by omega)
   have hfx:=hs.frozen k;have hrd:=(HR.out.keep hbel).cut (4*k) 4 (cap-4*k) (by rw[HL.out];omega) (by omega) (by have:=HR.out.2.1;omega);have R:=hs.set k (i64v (zGD bs k));have e1:=zEj i64v (.int .i64 0) (zE9 bs k) (zGD bs k) (by rw[zEk];omega);rw[zEk] at e1;rw[e1,← zIP] at R;have RO:=ho.setOther (a:=⟨w.heap.size+1,k,none⟩) (by show w.heap.size≠w.heap.size+1;omega) (i64v (zGD bs k));have RB:=Below.setCell (p:=⟨w.heap.size+1,k,none⟩) hbel (yh _) (i64v (zGD bs k))
   have HN:Hid (((bs.drop (4*k)).take 4).length=4):=by show _=_;have:=HL.out;simp;omega
   clear hs ho e1 HR;go_wp2_with fail;refine(zIL _ _ 4 _ _ hrd HN.out (by decide)).mono ?_;rintro e w2 ⟨rfl,rfl⟩;rw[show getB ((bs.drop (4*k)).take 4)=zGD bs k from rfl];go_wp2;go_roundw
   case rel=>exact⟨k+1,by omega,by go_num,R,RO,RB⟩
   case measure=>simp[intOf];omega
  ·have e:k=16:=by omega
   subst e;rw[zJm] at hs;clear HR HL hcap hcm;go_wp2;clear hlt hk
   go_loopw [5] (fun i wr=>∃ k:Nat,16≤k∧k≤64∧i=.int .i64 k∧Arr wr (w.heap.size+1) 153 (zCN i64v (.int .i64 0) (zAn (zP bs) (k-16)))∧Arr wr w.heap.size 153 zI∧Below w.heap.size w wr)
    (fun i _=>64-(intOf i).toNat)
   case atStart=>exact⟨16,by omega,by omega,rfl,hs,ho,hbel⟩
   case round=>
    clear hs ho hbel;obtain⟨k,hk0,hk,rfl,hs,ho,hbel⟩:=hrel
    have hlen:Hid ((zAn (zP bs) (k-16)).length=k):=by show _=_;rw[zFd,zBm];omega
    have hok:=zGq (zEc bs) (k-16)
    by_cases hlt:k<64
    ·have hcx:wr.cell? ⟨w.heap.size+1,k,none⟩=some (.int .i64 0):=by rw[hs.cell];exact zCu _ _ (Nat.le_of_eq hlen.out) hlt
     have hfx:=hs.frozen k
     have cell:∀ d,0<d→d≤16→wr.cell? ⟨w.heap.size+1,k-d,none⟩=some (.int .i64 ((zAn (zP bs) (k-16)).getD (k-d) 0:Nat)):=fun d h1 h2=>by
      rw[hs.cell];exact zFp _ _ (by rw[hlen.out];omega)
     have c15:=cell 15 (by decide) (by decide);have c2:=cell 2 (by decide) (by decide);have c7:=cell 7 (by decide) (by decide);have c16:=cell 16 (by decide) (by decide)
     have i15:((k:Int)-15).toNat=k-15:=by omega
     have i2:((k:Int)-2).toNat=k-2:=by omega
     have i7:((k:Int)-7).toNat=k-7:=by omega
     have i16:((k:Int)-16).toNat=k-16:=by omega
     have b15:=hok.getD (k-15);have b2:=hok.getD (k-2);have b7:=hok.getD (k-7);have b16:=hok.getD (k-16)
     have hnext:Hid (zFc (zAn (zP bs) (k-16))=(sh2 ((zAn (zP bs) (k-16)).getD (k-2) 0) 17 19 10+(zAn (zP bs) (k-16)).getD (k-7) 0+sh2 ((zAn (zP bs) (k-16)).getD (k-15) 0) 7 18 3+(zAn (zP bs) (k-16)).getD (k-16) 0) % 4294967296):=by
      show _=_
      rw[zFc,hlen.out]
     have hset:=zEj i64v (.int .i64 0) (zAn (zP bs) (k-16)) (zFc (zAn (zP bs) (k-16))) (by rw[hlen.out];exact hlt);rw[hlen.out,show zAn (zP bs) (k-16)++[zFc (zAn (zP bs) (k-16))]=zAn (zP bs) (k+1-16) by rw[show k+1-16=(k-16)+1 by omega];rfl] at hset;have R:=hs.set k (i64v (zFc (zAn (zP bs) (k-16))));rw[hset,hnext.out] at R;have RO:=ho.setOther (a:=⟨w.heap.size+1,k,none⟩) (by show w.heap.size≠w.heap.size+1;omega)
     have RB:=fun v=>Below.setCell (p:=⟨w.heap.size+1,k,none⟩) hbel (yh _) v
     clear hset hnext hs ho cell hok hlen;generalize (zAn (zP bs) (k-16)).getD (k-15) 0=x at *;generalize (zAn (zP bs) (k-16)).getD (k-2) 0=y at *;generalize (zAn (zP bs) (k-16)).getD (k-7) 0=m at *;generalize (zAn (zP bs) (k-16)).getD (k-16) 0=n at *;have x1:=zBA (zY x 7 b15 (by decide)) (zY x 18 b15 (by decide))
     have x2:bits .xor .i64 ((rotN x 7 ^^^ rotN x 18:Nat):Int) ((x:Int) / 8)=((sh2 x 7 18 3:Nat):Int):=by
      rw[show((x:Int) / 8)=((x / 2 ^ 3:Nat):Int) by omega];exact zBA (zAy (zY x 7 b15 (by decide)) (zY x 18 b15 (by decide))) (by omega)
     have y1:=zBA (zY y 17 b2 (by decide)) (zY y 19 b2 (by decide))
     have y2:bits .xor .i64 ((rotN y 17 ^^^ rotN y 19:Nat):Int) ((y:Int) / 1024)=((sh2 y 17 19 10:Nat):Int):=by
      rw[show((y:Int) / 1024)=((y / 2 ^ 10:Nat):Int) by omega];exact zBA (zAy (zY y 17 b2 (by decide)) (zY y 19 b2 (by decide))) (by omega)
     have s1:((sh2 x 7 18 3:Nat):Int)≤4294967295:=by have:=zMk (i:=7) (j:=18) (k:=3) b15 (by decide) (by decide);omega
     have s2:((sh2 y 17 19 10:Nat):Int)≤4294967295:=by have:=zMk (i:=17) (j:=19) (k:=10) b2 (by decide) (by decide);omega
     go_wp2_with fail;refine(zBu x 7 _ rfl _ b15 (by decide) (by decide)).mono ?_;rintro r w2 ⟨rfl,rfl⟩;go_wp2_with fail;refine(zBu x 18 _ rfl _ b15 (by decide) (by decide)).mono ?_;rintro r w2 ⟨rfl,rfl⟩;go_wp2_with fail;refine(zBu y 17 _ rfl _ b2 (by decide) (by decide)).mono ?_;rintro r w2 ⟨rfl,rfl⟩;go_wp2_with fail;refine(zBu y 19 _ rfl _ b2 (by decide) (by decide)).mono ?_;rintro r w2 ⟨rfl,rfl⟩;go_wp2
     go_region
     go_wp2;go_roundw
     case rel=>
      (repeat apply Exists.intro)
      refine⟨?_,rfl⟩
      have E:((((sh2 y 17 19 10:Nat):Int)+(m:Int)+((sh2 x 7 18 3:Nat):Int)+(n:Int)) % 4294967296)=(((sh2 y 17 19 10+m+sh2 x 7 18 3+n) % 4294967296:Nat):Int):=by omega
      rw[E];exact⟨k+1,by omega,by omega,by go_num,R,RO _,Below.drew (RB _)⟩
     case measure=>simp[intOf];omega
    ·have e:k=64:=by omega
     subst e;rw[show zAn (zP bs) (64-16)=zAh bs from rfl,zGa _ _ (zA7 bs)] at hs
     have hsz2:Hid ((Tryz.prog.info? 153).map (·.size)=some ((zAh bs).map i64v).toArray.size):=by show _=_;rw[(zero_of_info zCY).2];simp[zA7]
     go_wp2_with (first
      | refine wpList_load_row rfl 153 (.tmp 3) rfl (w.heap.size+1) rfl 153 _ (0,0) _ hs underlying153 rfl hsz2.out ?_
      | refine wpList_store_row rfl 153 (.tmp 2) (.tmp 69) rfl w.heap.size ((zAh bs).map i64v).toArray rfl rfl 153 zI.toArray ho hsz2.out (by simp[zKM,zA7]) (by simp[i64v];intros;rfl) ?_)
     exact bodyPost_ret (v:=.agg ((zAh bs).map i64v).toArray) (results_cell_row results135 _ _ w.heap.size 153 _ (0,0) _ rfl (ho.row _) underlying153 rfl hsz2.out) rfl ⟨rfl,Below.row hbel (yf _) _⟩
def accN (bs:List UInt8) (k j:Nat):Nat:=getB (((bs.take k).drop (4*j)).take 4)
def accW (bs:List UInt8) (k:Nat):List Value:=(List.range 64).map (fun j=>u32v (accN bs k j))
theorem zG3 (bs:List UInt8) (k:Nat):(accW bs k).length=64:=by simp[accW]
theorem zEl (bs:List UInt8) (k:Nat) {j:Nat} (h:j<64):(accW bs k)[j]?=some (.int .u32 (accN bs k j:Nat)):=by simp[accW,u32v,h]
theorem zJo (bs:List UInt8) (k j:Nat) (hk:k<bs.length) (h:j≠k / 4):accN bs (k+1) j=accN bs k j:=by
 unfold accN
 congr 1
 by_cases h1:k<4*j
 ·rw[List.drop_eq_nil_of_le (by simp;omega),List.drop_eq_nil_of_le (by simp;omega)]
 ·have h2:4*j+4≤k:=by omega
  rw[List.take_succ_eq_append_getElem hk,List.drop_append_of_le_length (by simp;omega),List.take_append_of_le_length (by simp;omega)]
theorem zKf (bs:List UInt8) (k:Nat) (hk:k<bs.length):((accN bs (k+1) (k / 4):Nat):Int)=(accN bs k (k / 4):Int)*256+at8 bs k:=by
 unfold accN;have e1:((bs.take k).drop (4*(k / 4))++[bs[k]]).take 4=(bs.take k).drop (4*(k / 4))++[bs[k]]:=List.take_of_length_le (by simp;omega);have e2:((bs.take k).drop (4*(k / 4))).take 4=(bs.take k).drop (4*(k / 4)):=List.take_of_length_le (by simp;omega);rw[List.take_succ_eq_append_getElem hk,List.drop_append_of_le_length (by simp;omega),e1,e2,zHW,zBQ hk];omega
theorem zNM (bs:List UInt8) (k:Nat):accN bs k (k / 4)<16777216:=by
 unfold accN;refine Nat.lt_of_lt_of_le (zIG _) (yi (Nat.pow_le_pow_right (by decide) (show _≤3 by simp;omega)) (by decide))
theorem zLk (bs:List UInt8) (k:Nat) (hk:k<bs.length):(accW bs k).set (k / 4) (.int .u32 ((accN bs k (k / 4):Int)*256+at8 bs k))=accW bs (k+1):=by
 rw[← zKf bs k hk];apply List.ext_getElem?;intro i;rw[List.getElem?_set]
 by_cases h:k / 4=i
 ·subst h
  by_cases h2:k / 4<64
  ·rw[zEl bs (k+1) h2];simp[zG3,h2]
  ·simp[accW,h2]
 ·rw[if_neg h]
  by_cases h2:i<64
  ·rw[zEl bs k h2,zEl bs (k+1) h2,zJo bs k i hk (fun e=>h e.symm)]
  ·simp[accW,h2]
theorem zKg (bs:List UInt8):accW bs 0=zU:=by
 apply List.ext_getElem?;intro i
 by_cases h:i<64
 ·rw[zEl bs 0 h,zU,List.getElem?_replicate,if_pos h];simp[accN,getB]
 ·rw[List.getElem?_eq_none (by rw[zG3];omega),List.getElem?_eq_none (by rw[zMn];omega)]
theorem zLl (bs:List UInt8) (hl:bs.length=64):accW bs 64=zCN u32v (.int .u32 0) (zP bs):=by
 apply List.ext_getElem?;intro i
 by_cases h:i<64
 ·rw[zEl bs 64 h]
  by_cases h2:i<16
  ·rw[zFp _ _ (by rw[zBm];exact h2)];simp[u32v,accN,zP,zGD,h2,List.take_of_length_le (Nat.le_of_eq hl)]
  ·rw[zCu _ _ (by rw[zBm];omega) h]
   have e:accN bs 64 i=0:=by
    unfold accN;rw[List.drop_eq_nil_of_le (by simp;omega)];rfl
   rw[e];rfl
 ·rw[List.getElem?_eq_none (by rw[zG3];omega),List.getElem?_eq_none (by rw[zJl _ _ (by rw[zBm];omega)];omega)]
theorem zI4:(Tryz.prog.info? 212).map (fun i=>(i.zero,i.size))=some (some (.agg zU.toArray),64):=by kernel_rfl
theorem zEI (x i j k:Nat) (m n o:Int) (hm:m=i) (hn:n=j) (ho:o=k) (w:World) (hx:x<4294967296) (hi:i≤31) (hj:j≤31) (hk:k≤31):
  Calls prog 211 #[.int .u32 x,.int .i64 m,.int .i64 n,.int .i64 o] w fun e w'=>e=.returned (.int .u32 (sh2 x i j k:Nat))∧∃ n,w'=w.drewN n:=by
 subst hm hn ho;exact zGy x i j k w hx hi hj hk
theorem zLm (b o cap:Nat) (bs:List UInt8) (w:World) (hr:Rd w (some ⟨b,o,none⟩) cap bs) (h64:bs.length=64):
  Calls prog 202 #[.slice (some ⟨b,o,none⟩) 64 cap] w fun e w'=>e=.returned (.agg ((zAh bs).map u32v).toArray)∧Below w.heap.size w w':=by
 have HR:Hid (Rd w (some ⟨b,o,none⟩) cap bs):=hr;have HL:Hid (bs.length=64):=h64
 have hcap:64≤cap:=by have:=hr.1;omega
 have hzv:Hid (∀ w,(zeroValue 212).run prog w=.ok (.agg zU.toArray) w):=(zero_of_info zI4).1;clear hr h64;go_enter func202,ntmps202
 go_wp2_with (first
  | refine zT rfl 212 rfl _ hzv.out w.heap.size rfl ?_
  | refine zT rfl 212 rfl _ hzv.out (w.heap.size+1) (zB _ _) ?_)
 go_loopw [9] (fun i wr=>∃ k:Nat,k≤64∧i=.int .i64 k∧Arr wr (w.heap.size+1) 212 (accW bs k)∧Arr wr w.heap.size 212 zU∧Below w.heap.size w wr)
  (fun i _=>64-(intOf i).toNat)
 case atStart=>
  have h1:=yp w zU 212;have h2:=yp (w.alloc (.cells zU.toArray 212)) zU 212;rw[zB] at h2;exact⟨0,Nat.zero_le _,rfl,by rw[zKg];exact h2,h1.old _ _,yr (zA _ _) _⟩
 case round=>
  obtain⟨k,hk,rfl,hs,ho,hbel⟩:=hrel
  by_cases hlt:k<64
  ·have hll:k<bs.length:=by rw[HL.out];exact hlt
   have hcx:=(hs.cell (k / 4)).trans (zEl bs k (by omega));have hfx:=hs.frozen (k / 4)
   have hix:((k:Int) / 4).toNat=k / 4:=by omega
   obtain⟨b',o',ea,hc⟩:=HR.out.2.2.2 (by omega);simp at ea;obtain⟨rfl,rfl⟩:=ea;have hcy:wr.cell? ⟨b,o+k,none⟩=some (.int .u8 (at8 bs k)):=(hbel.cell (World.block_lt_of_cell? w _ (hc k hll))).trans (hc k hll);have h0:=zE1 bs k;have h1:=zE2 bs k;have hg1:=zNM bs k;have hor:=zMz _ _ hg1 h0 h1
   have hg2:(accN bs k (k / 4):Int)≤16777215:=by omega
   have R:=hs.set (k / 4) (.int .u32 ((accN bs k (k / 4):Int)*256+at8 bs k));rw[zLk bs k hll] at R;have RO:=ho.setOther (a:=⟨w.heap.size+1,k / 4,none⟩) (by show w.heap.size≠w.heap.size+1;omega) (.int .u32 ((accN bs k (k / 4):Int)*256+at8 bs k));have RB:=Below.setCell (p:=⟨w.heap.size+1,k / 4,none⟩) hbel (yh _) (.int .u32 ((accN bs k (k / 4):Int)*256+at8 bs k));generalize accN bs k (k / 4)=m at *;generalize at8 bs k=b8 at *;clear hc hs ho HR hg1;go_wp2;go_roundw
   case rel=>exact⟨k+1,by omega,by go_num,R,RO,RB⟩
   case measure=>simp[intOf];omega
  ·have e:k=64:=by omega
   subst e;rw[zLl bs HL.out] at hs;clear HR HL hcap;go_wp2;clear hlt hk
   go_loopw [6] (fun i wr=>∃ k:Nat,16≤k∧k≤64∧i=.int .i64 k∧Arr wr (w.heap.size+1) 212 (zCN u32v (.int .u32 0) (zAn (zP bs) (k-16)))∧Arr wr w.heap.size 212 zU∧Below w.heap.size w wr)
    (fun i _=>64-(intOf i).toNat)
   case atStart=>exact⟨16,by omega,by omega,rfl,hs,ho,hbel⟩
   case round=>
    clear hs ho hbel;obtain⟨k,hk0,hk,rfl,hs,ho,hbel⟩:=hrel
    have hlen:Hid ((zAn (zP bs) (k-16)).length=k):=by show _=_;rw[zFd,zBm];omega
    have hok:=zGq (zEc bs) (k-16)
    by_cases hlt:k<64
    ·have hcx:wr.cell? ⟨w.heap.size+1,k,none⟩=some (.int .u32 0):=by rw[hs.cell];exact zCu _ _ (Nat.le_of_eq hlen.out) hlt
     have hfx:=hs.frozen k
     have cell:∀ d,0<d→d≤16→wr.cell? ⟨w.heap.size+1,k-d,none⟩=some (.int .u32 ((zAn (zP bs) (k-16)).getD (k-d) 0:Nat)):=fun d h1 h2=>by
      rw[hs.cell];exact zFp _ _ (by rw[hlen.out];omega)
     have c15:=cell 15 (by decide) (by decide);have c2:=cell 2 (by decide) (by decide);have c7:=cell 7 (by decide) (by decide);have c16:=cell 16 (by decide) (by decide)
     have i15:((k:Int)-15).toNat=k-15:=by omega
     have i2:((k:Int)-2).toNat=k-2:=by omega
     have i7:((k:Int)-7).toNat=k-7:=by omega
     have i16:((k:Int)-16).toNat=k-16:=by omega
     have b15:=hok.getD (k-15);have b2:=hok.getD (k-2)
     have hnext:Hid (zFc (zAn (zP bs) (k-16))=(sh2 ((zAn (zP bs) (k-16)).getD (k-2) 0) 17 19 10+(zAn (zP bs) (k-16)).getD (k-7) 0+sh2 ((zAn (zP bs) (k-16)).getD (k-15) 0) 7 18 3+(zAn (zP bs) (k-16)).getD (k-16) 0) % 4294967296):=by
      show _=_
      rw[zFc,hlen.out]
     have hset:=zEj u32v (.int .u32 0) (zAn (zP bs) (k-16)) (zFc (zAn (zP bs) (k-16))) (by rw[hlen.out];exact hlt);rw[hlen.out,show zAn (zP bs) (k-16)++[zFc (zAn (zP bs) (k-16))]=zAn (zP bs) (k+1-16) by rw[show k+1-16=(k-16)+1 by omega];rfl] at hset;have R:=hs.set k (u32v (zFc (zAn (zP bs) (k-16))));rw[hset,hnext.out] at R;have RO:=ho.setOther (a:=⟨w.heap.size+1,k,none⟩) (by show w.heap.size≠w.heap.size+1;omega)
     have RB:=fun v=>Below.setCell (p:=⟨w.heap.size+1,k,none⟩) hbel (yh _) v
     clear hset hnext hs ho cell hok hlen;generalize (zAn (zP bs) (k-16)).getD (k-15) 0=x at *;generalize (zAn (zP bs) (k-16)).getD (k-2) 0=y at *;generalize (zAn (zP bs) (k-16)).getD (k-7) 0=m at *;generalize (zAn (zP bs) (k-16)).getD (k-16) 0=n at *
     have g2:(0:Int)≤(k:Int)-2:=by omega
     have l2:(k:Int)-2<64:=by omega
     have g7:(0:Int)≤(k:Int)-7:=by omega
     have l7:(k:Int)-7<64:=by omega
     have g15:(0:Int)≤(k:Int)-15:=by omega
     have l15:(k:Int)-15<64:=by omega
     have g16:(0:Int)≤(k:Int)-16:=by omega
     have l16:(k:Int)-16<64:=by omega
     have v2:IntKind.i64.wrap ((k:Int)-2)=(k:Int)-2:=by rw[IntKind.wrap_i64];omega
     have v7:IntKind.i64.wrap ((k:Int)-7)=(k:Int)-7:=by rw[IntKind.wrap_i64];omega
     have v15:IntKind.i64.wrap ((k:Int)-15)=(k:Int)-15:=by rw[IntKind.wrap_i64];omega
     have v16:IntKind.i64.wrap ((k:Int)-16)=(k:Int)-16:=by rw[IntKind.wrap_i64];omega
     have gk:(k:Int)<64:=by omega
     go_wp2;refine zDq (C:=fun w'=>∃ n,w'=wr.drewN n) 23 rfl rfl rfl (by kernel_rfl) (by kernel_rfl) (by kernel_rfl) (by kernel_rfl) ⟨1,rfl⟩ ?_;simp only[List.take_succ_cons,List.take_zero]
     repeat (go_big_quiet_step ((first | (go_at_call_of 211 (Value.int .u32 (y:Int));exact Calls.quiet_of (zEI y 17 19 10 _ _ _ rfl rfl rfl _ b2 (by decide) (by decide) (by decide))) | (go_at_call_of 211 (Value.int .u32 (x:Int));exact Calls.quiet_of (zEI x 7 18 3 _ _ _ rfl rfl rfl _ b15 (by decide) (by decide) (by decide))))))
     refine wpQuiet_nil ?_;rintro w' ⟨nq,rfl⟩ K hK;go_wp2;go_roundw
     case rel=>
      (repeat apply Exists.intro)
      refine⟨?_,rfl⟩
      have E:((((sh2 y 17 19 10:Nat):Int)+(m:Int)+((sh2 x 7 18 3:Nat):Int)+(n:Int)) % 4294967296)=(((sh2 y 17 19 10+m+sh2 x 7 18 3+n) % 4294967296:Nat):Int):=by omega
      rw[E];exact⟨k+1,by omega,by omega,by go_num,R,RO _,by first | exact RB _ | exact below_drewN (RB _) _ | exact⟨(RB _).os,(RB _).tape,(RB _).output,(RB _).size,(RB _).block⟩⟩
     case measure=>simp[intOf];omega
    ·have e:k=64:=by omega
     subst e;rw[show zAn (zP bs) (64-16)=zAh bs from rfl,zGa _ _ (zA7 bs)] at hs
     have hsz2:Hid ((Tryz.prog.info? 212).map (·.size)=some ((zAh bs).map u32v).toArray.size):=by show _=_;rw[(zero_of_info zI4).2];simp[zA7]
     go_wp2_with (first
      | refine wpList_load_row rfl 212 (.tmp 3) rfl (w.heap.size+1) rfl 212 _ (0,0) _ hs underlying212 rfl hsz2.out ?_
      | refine wpList_store_row rfl 212 (.tmp 2) (.tmp 53) rfl w.heap.size ((zAh bs).map u32v).toArray rfl rfl 212 zU.toArray ho hsz2.out (by simp[zMn,zA7]) (by simp[u32v];intros;rfl) ?_)
     exact bodyPost_ret (v:=.agg ((zAh bs).map u32v).toArray) (results_cell_row results202 _ _ w.heap.size 212 _ (0,0) _ rfl (ho.row _) underlying212 rfl hsz2.out) rfl ⟨rfl,Below.row hbel (yf _) _⟩
end Go.Proofs.YtiabacnmmojfjabGreatDoor
