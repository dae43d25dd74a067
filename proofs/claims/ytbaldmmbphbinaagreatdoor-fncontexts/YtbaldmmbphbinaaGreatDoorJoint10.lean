import Derived.Test.YtbaldmmbphbinaaGreatDoorJoint9
import Derived.Test.YtbaldmmbphbinaaGreatDoorJoint8
import Derived.Test.YtbaldmmbphbinaaGreatDoorJoint3
import Derived.Laws.AppendOwnNone
import Derived.Test.YtbaldmmbphbinaaGreatDoorJoint2
import Derived.Laws.CopyOwn
set_option maxHeartbeats 1000000
set_option maxRecDepth 4000
namespace Go.Proofs.YtbaldmmbphbinaaGreatDoor
open Go.ChangeShapes Go.WideShapes Go.ChangeAt Go.RowKit
theorem zLo (b:Nat) (p:Option Addr) (q:Nat) (cs:List UInt8) (t:Int) (w:World) (hs:Src w b p q cs t) (ht:0≤t) (ht2:t≤800000000):
    Calls Tryz.prog 59 #[.pointer (some ⟨b,0,none⟩)] w fun e w'=>∃ (u:Value) (bs:List UInt8) (t':Int),e=.returned u∧bs.length≤32∧t≤t'∧t'≤t+1000∧Own w' w.heap.size u bs∧Src w' b p q cs t'∧w.grownBy w' (some b):=by
  go_enter Tryz.func59,Tryz.ntmps59;go_wp2_with fail;refine(zAc b p q cs t w.heap.size [32,32,32,32,32,32,31,0] 8 _ (hs.keep (zA _ _)) ht (by omega) rfl (by decide) (by decide) (by have:=hs.lt;omega) (zBQ _ _ _ [32,32,32,32,32,32,31,0] rfl)).mono ?_;rintro e w5 ⟨k,hk,rfl,hs5,hg5⟩
  have hR:Hid (0≤k∧k≤32):=by
    show _∧_
    simp only[List.mem_cons,List.not_mem_nil,or_false] at hk;omega
  clear hk;have hg:w.grownBy w5 (some b):=zB (World.grownBy_alloc _ _ _) hg5;clear hg5;go_wp2_with fail;refine(zDz b p q cs (t+1) k w5 hs5 (by omega) (by omega) hR.out.1 (by have:=hR.out.2;omega)).mono ?_;rintro e w6 ⟨u,bs,rfl,hl,ho,hs6,hg6⟩;go_wp2;go_ret;have h1:=hR.out.1;have h2:=hR.out.2;exact⟨u,bs,_,rfl,by omega,by omega,by omega,ho.lower hg.size,hs6,zB hg hg6⟩
theorem Rd.below {w:World} {a:Option Addr} {cap:Nat} {bs:List UInt8} (h:Rd w a cap bs):0<bs.length→∀ y,a=some y→y.block<w.heap.size:=fun hp y hy=>by
  obtain⟨b,o,rfl,hc⟩:=h.2.2.2 hp;simp at hy;subst hy;exact World.block_lt_of_cell? w _ (hc 0 hp)
theorem Rd.draw {w w':World} {a:Option Addr} {cap b:Nat} {bs:List UInt8} (h:Rd w a cap bs) (hg:w.grownBy w' (some b)) (hlt:0<bs.length→∀ y,a=some y→y.block<b):Rd w' a cap bs:=
  h.other hg (fun hp y hy e=>by have:=hlt hp y hy;simp at e;omega)
theorem zG {w:World} {ops:Array Oper} {rest:List Oper} {o:Oper} {a:Act} {Q:Exit→Act→World→Prop} (hgd:o.guard=none) (s x:Operand)
    (ho:o.op=.call { callee:=.builtin .append,args:=#[s,x],argTypes:=#[22,22] })
    (B:Nat) (v:Value) (xs:List UInt8) (hs:a.eval s=v) (hown:Own w B v xs) (p:Option Addr) (q:Nat) (bs:List UInt8) (hx:a.eval x=.slice p bs.length q) (hr:Rd w p q bs)
    (hl:xs.length+bs.length≤100000000) (hB:B≤w.heap.size)
    (h:∀ v' w',Own w' B v' (xs++bs)→w.grownBy w' v.ownBlock→wpList Tryz.prog ops Q rest (a.put o.dst v') w'):wpList Tryz.prog ops Q (o :: rest) a w:=by
  obtain⟨i0,hi,hz0,hz1,hz2⟩:=info_parts zDq;obtain⟨h1,h2,h3,h4⟩:=hr;cases p with
  | none=>
    have hq:=h3 rfl;subst hq;have hb:bs=[]:=List.eq_nil_of_length_eq_zero (by omega);subst hb;refine wpList_append_own_none hgd s x _ ho B _ i0 1 Tryz.underlying22 hi v xs.length _ hs hown hx ?_;exact h v w (by rw[List.append_nil];exact hown) (World.grownBy.refl _ _)
  | some ad=>
    refine wpList_append_own _ hgd s x _ ho B 5 i0 (.int .u8 0) 1 1 Tryz.underlying22 hi hz0 hz1 hz2 rfl (by decide) v xs.length (xs.map u8v) hs hown ad bs.length q (bs.map u8v) hx (by simp) ?_ (by intro u hu;obtain⟨n,-,rfl⟩:=List.mem_map.1 hu;rfl) (by unfold maxLen;omega) (by omega) hB ?_
    · intro j u hu
      have hj:j<bs.length:=by have:=(List.getElem?_eq_some_iff.1 hu).1;simpa using this
      obtain⟨b,off,e,hc⟩:=h4 (by omega);simp at e;subst e;rw[zC4,hc j hj,← hu,zBg hj]
    · intro v' w' ho' hg' _;refine h v' w' ?_ hg';unfold Own;rw[List.length_append,List.map_append];exact ho'
theorem Own.arr {w:World} {B g n:Nat} {bs:List UInt8} (h:Own w B (.slice (some ⟨g,0,none⟩) n n) bs) (hn:bs.length=n):Arr w g 5 (bs.map u8v):=by
  obtain⟨h1,h2⟩:=h;rcases h2 with ⟨e,-⟩ | ⟨g',cap,cur,e,hb,hg,hle,hm,hs,ht⟩
  · simp at e
  · simp at e;obtain⟨rfl,-,rfl⟩:=e
    have e2:cur.toList=bs.map u8v:=by
      rw[← ht,List.take_of_length_le (by simp;omega)]
    unfold Arr;rw[hg,← e2]
theorem Arr.own {w:World} {B g:Nat} {bs:List UInt8} (h:Arr w g 5 (bs.map u8v)) (hB:B≤g) (hl:bs.length≤100000000):Own w B (.slice (some ⟨g,0,none⟩) bs.length bs.length) bs:=
  ⟨by simp,.inr ⟨g,bs.length,(bs.map u8v).toArray,rfl,hB,h,Nat.le_refl _,by unfold maxLen;omega,by simp,List.take_of_length_le (by simp)⟩⟩
theorem Rd.addr {w:World} {p:Option Addr} {q:Nat} {bs:List UInt8} (h:Rd w p q bs) (hp:0<bs.length):∃ ad,p=some ad∧∀ j v,(bs.map u8v)[j]?=some v→w.cell? (ad.add j)=some v:=by
  obtain⟨b,o,rfl,hc⟩:=h.2.2.2 hp;refine⟨_,rfl,fun j v hv=>?_⟩
  have hj:j<bs.length:=by have:=(List.getElem?_eq_some_iff.1 hv).1;simpa using this
  rw[zC4,hc j hj,← hv,zBg hj]
theorem zED (w:World) (b:UInt8) (t:TypeId) (v:Int) (hv:v=b.toNat):Rd (w.alloc (.cells #[.int .u8 v] t)) (some ⟨w.heap.size,0,none⟩) 1 [b]:=by
  subst hv;refine⟨by simp,by unfold maxLen;decide,fun e=>by simp at e,fun _=>⟨w.heap.size,0,rfl,fun i hi=>?_⟩⟩
  have:i=0:=by simp at hi;omega
  subst this;rw[World.cell?_alloc_new];rfl
theorem zBz (w:World) (B:Nat) (hB:B≤w.heap.size):Own (w.alloc (.cells #[] 5)) B (.slice (some ⟨w.heap.size,0,none⟩) 0 0) []:=
  World.ownsRow_lit (base:=B) (e:=5) (size:=1) w #[] 0 hB (by unfold maxLen;decide) (by simp)
theorem zBU (p:Option Addr) (q:Nat) (bs:List UInt8) (w:World) (hr:Rd w p q bs) (hl:bs.length≤1000000):
    Calls Tryz.prog 16 #[.slice p bs.length q] w fun e w'=>∃ u,e=.returned u∧Own w' w.heap.size u bs∧Below w.heap.size w w':=by
  have hr2:=hr.keep (zA w (Obj.cells #[] 5));have ho:=zBz w w.heap.size (Nat.le_refl _);go_enter Tryz.func16,Tryz.ntmps16
  go_wp2_with (first
    | (at_builtin;refine zG rfl (.tmp 3) (.tmp 4) rfl w.heap.size _ [] rfl ho p q bs rfl hr2 (by simp;omega) (by simp) ?_;intro v' w' ho' hg')
    | go_in)
  have RB:=(zA w (Obj.cells #[] 5)).grown hg' (by simp) (fun k hk=>ho.ge k hk);go_ret;exact⟨_,rfl,ho',RB⟩
def zC8:Value→Nat
  | .slice _ n _=>n
  | _=>0
theorem zLp (p:Option Addr) (q:Nat) (bs:List UInt8) (w:World) (hr:Rd w p q bs) (hl:bs.length≤600):
    Calls Tryz.prog 87 #[.slice p bs.length q] w fun e w'=>∃ u,e=.returned u∧Own w' w.heap.size u (padN bs)∧Below w.heap.size w w':=by
  go_enter Tryz.func87,Tryz.ntmps87;go_wp2_with fail;refine(zBU p q bs _ hr (by omega)).mono ?_;rintro e w1 ⟨u,rfl,hu,hb1⟩;obtain⟨a1,c1,rfl,-⟩:=hu.rd;have hu2:=hu.stay (zA w1 (Obj.cells #[.int .u8 128] 5));have hge:=hb1.size
  go_wp2_with (first
    | (at_builtin;refine zG rfl (.tmp 5) (.tmp 6) rfl w.heap.size _ bs rfl hu2 _ 1 [128] rfl (zED w1 128 _ _ rfl) (by simp;omega) (by simp;omega) ?_;intro v2 w2 ho2 hg2)
    | go_in)
  have hB2:=(Below.mk hb1 (Obj.cells #[.int .u8 128] 5)).grown hg2 (by simp;omega) (fun k hk=>hu.ge k hk);clear hg2 hu hu2 hb1
  go_loopw [3] (fun v wr=>∃ k:Nat,k≤gap bs.length∧Own wr w.heap.size v (bs++128 :: zs k)∧Below w.heap.size w wr)
    (fun v _=>1000-zC8 v)
  case atStart=>exact⟨0,Nat.zero_le _,ho2,hB2⟩
  case round=>
    clear ho2 hB2 hge;obtain⟨k,hk,ho,hbel⟩:=hrel
    have hlen:Hid ((bs++128 :: zs k).length=bs.length+1+k):=by show _=_;simp[zA3];omega
    have hgap:gap bs.length≤63:=by unfold gap;omega
    obtain⟨a2,c2,rfl,hrd⟩:=ho.rd;rw[hlen.out] at ho ⊢;clear hrd
    by_cases hlt:k<gap bs.length
    · have hne:((((bs.length+1+k:Nat):Int) % 64) != 56)=true:=by rw[bne_iff_ne];unfold gap at hlt;omega
      have hu2:=ho.stay (zA wr (Obj.cells #[.int .u8 0] 5));have hge:=hbel.size
      go_wp2_with (first
        | (at_builtin;refine zG rfl (.tmp 12) (.tmp 13) rfl w.heap.size _ (bs++128 :: zs k) rfl hu2 _ 1 [0] rfl (zED wr 0 _ _ rfl) (by have:=hlen.out;simp at this ⊢;omega) (by simp;omega) ?_;intro v3 w3 ho3 hg3)
        | go_in)
      have hB3:=(Below.mk hbel (Obj.cells #[.int .u8 0] 5)).grown hg3 (by simp;omega) (fun k hk=>ho.ge k hk);rw[show bs++128 :: zs k++[0]=bs++128 :: zs (k+1) by simp[zs,List.replicate_succ']] at ho3
      have hl3:(bs++128 :: zs (k+1)).length=bs.length+1+(k+1):=by simp[zA3];omega
      have hm3:zC8 v3=bs.length+1+(k+1):=by obtain⟨a4,c4,e4,-⟩:=ho3.rd;rw[e4,hl3];rfl
      clear hg3 hu2 ho hlen;go_roundw
      case rel=>exact⟨k+1,hlt,ho3,hB3⟩
      case measure=>
        show 1000-zC8 v3<1000-(bs.length+1+k)
        rw[hm3];omega
    · have e:k=gap bs.length:=by omega
      have hne:((((bs.length+1+k:Nat):Int) % 64) != 56)=false:=by rw[e,bne_eq_false_iff_eq];unfold gap;omega
      subst e;go_wp2_with fail;refine(zGe _ 8 _ (by omega) (by omega) (by decide) (by decide)).mono ?_;rintro e w4 ⟨u4,rfl,hu4,hb4⟩;rw[show(((bs.length:Int)*8).toNat)=8*bs.length by omega,show(8:Int).toNat=8 from rfl] at hu4;obtain⟨a4,c4,rfl,hrd4⟩:=hu4.rd;have ho4:=ho.stay hb4;have hB4:=Below.step hbel hb4;clear hu4 hb4 hbel
      go_wp2_with (first
        | (at_builtin;refine zG rfl (.tmp 15) (.tmp 19) rfl w.heap.size _ (bs++128 :: zs (gap bs.length)) rfl ho4 a4 c4 (putB (8*bs.length) 8) rfl hrd4 (by have:=hlen.out;rw[zZ];omega) hB4.size ?_;intro v5 w5 ho5 hg5)
        | go_in)
      have hB5:=hB4.grown hg5 hB4.size (fun k hk=>ho.ge k hk);go_ret;exact⟨_,rfl,by rw[padN];rw[List.append_assoc,List.cons_append] at ho5;exact ho5,hB5⟩
theorem zIz (v n k:Nat) (h:k≤n) (hv:v<256 ^ k):putB v n=zs (n-k)++putB v k:=by
  induction n with
  | zero => have:k=0:=by omega
            subst this;rfl
  | succ n ih=>
    by_cases hk:k=n+1
    · subst hk;simp[zs]
    · have hle:k≤n:=by omega
      have h2:v<256 ^ n:=Nat.lt_of_lt_of_le hv (Nat.pow_le_pow_right (by decide) hle);rw[putB,Nat.div_eq_of_lt h2,ih hle,show n+1-k=(n-k)+1 by omega];simp[zs,List.replicate_succ]
def zBO (bs:List UInt8) (k:Nat):List UInt8:=bs++128 :: (zs (gap bs.length+8-k)++putB (8*bs.length) k)
theorem zEq (bs:List UInt8) (k:Nat) (h:k≤8):(zBO bs k).length=(bs.length+72) / 64*64:=by
  rw[← zBx,zDu];simp[zBO,zA3,zZ];omega
theorem zH2 (bs:List UInt8) (k:Nat) (h:k≤8) (hv:8*bs.length<256 ^ k):zBO bs k=padN bs:=by
  unfold zBO padN;rw[zIz _ 8 k h hv,← List.append_assoc (zs _),show zs (gap bs.length)++zs (8-k)=zs (gap bs.length+8-k) by simp[zs];omega]
theorem zH3 (bs:List UInt8) (k:Nat) (h:k<8):((zBO bs k).map u8v).set ((bs.length+72) / 64*64-1-k) (.int .u8 ((8*bs.length / 256 ^ k % 256:Nat):Int))=(zBO bs (k+1)).map u8v:=by
  have hl:=zEq bs k (by omega)
  have e0:(zBO bs k).map u8v=(bs++[128]).map u8v++zBh (8*bs.length) (gap bs.length+8) k:=by
    simp[zBO,zBh,zs,u8v]
  have e1:(zBO bs (k+1)).map u8v=(bs++[128]).map u8v++zBh (8*bs.length) (gap bs.length+8) (k+1):=by
    simp[zBO,zBh,zs,u8v]
  have hg:=zDu bs;rw[zBx] at hg;rw[e0,e1,List.set_append_right _ _ (by simp;omega),← zEh _ _ k (by omega)]
  congr 2
  simp;omega
def zCw (bs:List UInt8):List UInt8:=bs++0 :: zs (gap bs.length+8)
theorem zKF {w:World} {g:Nat} {t:TypeId} {N:Nat} {bs:List UInt8} (h:Hid (w.heap[g]?=some (.cells (splice ((zs N).map u8v) 0 (bs.map u8v)).toArray t (0,0)))) (hN:N=bs.length+9+gap bs.length):Arr w g t ((zCw bs).map u8v):=by
  have e:splice ((zs N).map u8v) 0 (bs.map u8v)=(zCw bs).map u8v:=by
    subst hN;simp only[splice,List.take_zero,List.nil_append,Nat.zero_add,List.length_map,zCw,List.map_append,zs,← List.map_drop,List.drop_replicate];rw[show bs.length+9+gap bs.length-bs.length=(gap bs.length+8)+1 by omega,List.replicate_succ]
  have h2:=h.out;rw[e] at h2;exact h2
theorem zGg (bs:List UInt8):((zCw bs).map u8v)[bs.length]?=some (.int .u8 0):=by
  simp[zCw,u8v]
theorem zFw (bs:List UInt8):((zCw bs).map u8v).set bs.length (.int .u8 128)=(zBO bs 0).map u8v:=by
  unfold zCw zBO;rw[List.map_append,List.set_append_right _ _ (by simp),List.length_map,Nat.sub_self,List.map_cons,List.set_cons_zero];simp[putB,u8v]
theorem zKG (p:Option Addr) (q:Nat) (bs:List UInt8) (w:World) (hr:Rd w p q bs) (hl:bs.length≤600):
    Calls Tryz.prog 138 #[.slice p bs.length q] w fun e w'=>∃ u,e=.returned u∧Own w' w.heap.size u (padN bs)∧Below w.heap.size w w':=by
  obtain⟨i0,hi,hz0,hz1,hz2⟩:=info_parts zDq;have HR:Hid (Rd w p q bs):=hr;clear hr;obtain⟨N,hN⟩:∃ N,Hid (N=(bs.length+72) / 64*64):=⟨_,rfl⟩
  have hN1:N≤1000:=by have:=hN.out;omega
  have hN2:bs.length+9≤N:=by have:=hN.out;omega
  have hNg:Hid (N=bs.length+9+gap bs.length):=by show _=_;rw[hN.out,← zBx,zDu]
  have hNi:Hid (((bs.length:Int)+9+63) / 64*64=(N:Int)):=by show _=_;have:=hN.out;omega
  have HI:Hid ((Tryz.prog.info? 5).map (·.size)=some 1):=by show _=_;rw[hi];simp[hz1]
  go_enter Tryz.func138,Tryz.ntmps138
  go_wp2_with (first
    | (at_make;refine wpList_make_full _ rfl (.tmp 11) (.tmp 11) 22 rfl w.heap.size 5 i0 (.int .u8 0) 1 Tryz.underlying22 hi hz0 hz1 .i64 .i64 _ _ N rfl rfl hNi.out hNi.out (by rw[hz2];omega) (by unfold maxLen;omega) (Nat.le_refl _) ?_;intro w1 hown hgrow;have hA1:=(zAT hown).arr (zA3 N);have hb1:Below w.heap.size w w1:=(Below.refl _ _).grown hgrow (Nat.le_refl _) (fun k hk=>by simp at hk);clear hown hgrow)
    | (refine wpList_copy_splice rfl (.tmp 13) (.tmp 14) 22 22 rfl 5 Tryz.underlying22 HI.out _ _ _ _ _ _ rfl rfl w.heap.size 0 ((zs N).map u8v) 5 hA1 (bs.map u8v) (by rw[List.length_map];exact(Nat.min_eq_left (by omega)).symm) (fun hp=>⟨rfl,(HR.out.keep hb1).addr (by simpa using hp)⟩) (by simp[zA3];omega) (by intro u hu;obtain⟨n,-,rfl⟩:=List.mem_map.1 hu;rfl) w.heap.size w hb1 (Nat.le_refl _) ?_;intro w2 hA2 hb2;replace hA2:=zKF hA2 hNg.out;have hcx:=(hA2.cell bs.length).trans (zGg bs);have hfx:=hA2.frozen bs.length;have hixl:(bs.length:Int)<(N:Int):=by omega)
    | go_in)
  have R0:=hA2.set bs.length (.int .u8 128);rw[zFw] at R0;have B0:=Below.setCell (p:=⟨w.heap.size,bs.length,none⟩) hb2 (Nat.le_refl _) (.int .u8 128);clear hA2 hcx hfx hb2 hA1 hb1 HR
  go_loopw [4,5] (fun c i wr=>∃ k:Nat,k≤2∧c=.int .u64 ((8*bs.length / 256 ^ k:Nat):Int)∧i=.int .i64 ((N:Int)-1-k)∧Arr wr w.heap.size 5 ((zBO bs k).map u8v)∧Below w.heap.size w wr)
    (fun c _ _=>(intOf c).toNat)
  case atStart=>exact⟨0,by decide,by simp;omega,by simp,R0,B0⟩
  case round=>
    clear R0 B0;obtain⟨k,hk,rfl,rfl,hA,hbel⟩:=hrel
    by_cases hq:0<8*bs.length / 256 ^ k
    · have hk1:k≤1:=by
        have:¬ k=2:=fun e=>by subst e;simp at hq;omega
        omega
      have hll:(zBO bs k).length=N:=by rw[zEq bs k (by omega),hN.out]
      have hcx:wr.cell? ⟨w.heap.size,N-1-k,none⟩=some (.int .u8 (at8 (zBO bs k) (N-1-k))):=by rw[hA.cell,zBg (by omega)]
      have hfx:=hA.frozen (N-1-k);have R:=hA.set (N-1-k) (.int .u8 ((8*bs.length / 256 ^ k % 256:Nat):Int));have hset:=zH3 bs k (by omega);rw[← hN.out] at hset;rw[hset] at R;have RB:=Below.setCell (p:=⟨w.heap.size,N-1-k,none⟩) hbel (Nat.le_refl _) (.int .u8 ((8*bs.length / 256 ^ k % 256:Nat):Int))
      have HV:Hid (8*bs.length / 256 ^ (k+1)=8*bs.length / 256 ^ k / 256):=by show _=_;rw[Nat.pow_succ,Nat.div_div_eq_div_mul]
      have hvk:8*bs.length / 256 ^ k≤4800:=Nat.le_trans (Nat.div_le_self _ _) (by omega)
      have hix:((N:Int)-1-k).toNat=N-1-k:=by omega
      have hge:(0:Int)≤(N:Int)-1-k:=by omega
      have hlt2:(N:Int)-1-k<N:=by omega
      clear hset hA hll;generalize at8 (zBO bs k) (N-1-k)=old at *;generalize 8*bs.length / 256 ^ k=c at *;rw[show((c % 256:Nat):Int)=(c:Int) % 256 by omega] at R RB;go_wp2;go_roundw
      case rel=>exact⟨k+1,by omega,by rw[HV.out];go_num,by go_num,R,RB⟩
      case measure=>simp[intOf];omega
    · have h0:8*bs.length / 256 ^ k=0:=Nat.eq_zero_of_not_pos hq
      have hv:8*bs.length<256 ^ k:=by
        rcases Nat.div_eq_zero_iff.1 h0 with h | h
        · exact absurd h (Nat.ne_of_gt (Nat.pow_pos (by decide)))
        · exact h
      rw[zH2 bs k (by omega) hv] at hA;rw[h0]
      have hpl:(padN bs).length=N:=by rw[zBx,hN.out]
      have RO:=Arr.own (B:=w.heap.size) hA (Nat.le_refl _) (by omega);rw[hpl] at RO;go_wp2;go_ret;exact⟨_,rfl,RO,hbel⟩
structure Pc where
  p:Option Addr
  q:Nat
  bs:List UInt8
def Pc.val (x:Pc):Value:=.slice x.p x.bs.length x.q
def Pcs (w:World) (b o:Nat) (ps:List Pc):Prop:=∀ i x,ps[i]?=some x→w.cell? ⟨b,o+i,none⟩=some x.val∧Rd w x.p x.q x.bs
theorem Pcs.keep {w w':World} {b o:Nat} {ps:List Pc} (h:Pcs w b o ps) (hb:Below w.heap.size w w'):Pcs w' b o ps:=fun i x hx=>
  ⟨(hb.cell (p:=⟨b,o+i,none⟩) (World.block_lt_of_cell? w _ (h i x hx).1)).trans (h i x hx).1,(h i x hx).2.keep hb⟩
def flat:List Pc→List UInt8
  | []=>[]
  | x :: xs=>x.bs++flat xs
theorem zEE (xs ys:List Pc):flat (xs++ys)=flat xs++flat ys:=by
  induction xs with
  | nil=>rfl
  | cons x xs ih=>simp[flat,ih]
theorem zC9 {ps:List Pc} {j:Nat} {x:Pc} (h:ps[j]?=some x):flat (ps.take (j+1))=flat (ps.take j)++x.bs:=by
  obtain⟨hj,he⟩:=List.getElem?_eq_some_iff.1 h;rw[List.take_succ_eq_append_getElem hj,zEE,he];simp[flat]
theorem zEr (ps:List Pc) (j:Nat):flat ps=flat (ps.take j)++flat (ps.drop j):=by
  rw[← zEE,List.take_append_drop]
theorem zLq (ps:List Pc) (j:Nat):(flat (ps.take j)).length≤(flat ps).length:=by
  rw[zEr ps j,List.length_append];omega
def zBe (bs:List UInt8) (k:Nat):List UInt8:=bs.take k++zs (bs.length-k)
theorem zEs (bs:List UInt8):zBe bs 0=zs bs.length:=by simp[zBe]
theorem zFx (bs:List UInt8):zBe bs bs.length=bs:=by simp[zBe,zs]
theorem zFy (bs:List UInt8) (k:Nat) (h:k≤bs.length):(zBe bs k).length=bs.length:=by simp[zBe,zA3];omega
theorem zDh (bs:List UInt8) (k:Nat) (cs:List UInt8) (h:k+cs.length≤bs.length) (hc:(bs.drop k).take cs.length=cs):
    splice ((zBe bs k).map u8v) k (cs.map u8v)=(zBe bs (k+cs.length)).map u8v:=by
  have hl:((bs.take k).map u8v).length=k:=by simp;omega
  have e:bs.take (k+cs.length)=bs.take k++cs:=by rw[List.take_add,hc]
  unfold splice zBe;rw[e,List.map_append,List.map_append,List.map_append,List.take_append_of_le_length (by omega),List.take_of_length_le (by omega),List.drop_append,hl,List.length_map,List.drop_of_length_le (by omega),List.nil_append,List.append_assoc,show k+cs.length-k=cs.length by omega,← List.map_drop]
  congr 3
  simp[zs];omega
theorem zDS {ps:List Pc} {j:Nat} {x:Pc} (h:ps[j]?=some x):(flat (ps.take j)).length+x.bs.length≤(flat ps).length∧((flat ps).drop (flat (ps.take j)).length).take x.bs.length=x.bs:=by
  have h1:=zEr ps (j+1);rw[zC9 h,List.append_assoc] at h1;constructor
  · rw[h1];simp
  · rw[h1,List.drop_left,List.take_left]
theorem zGh (w:World) (x y:Pc) (t:TypeId) (hx:Rd w x.p x.q x.bs) (hy:Rd w y.p y.q y.bs):Pcs (w.alloc (.cells #[x.val,y.val] t)) w.heap.size 0 [x,y]:=by
  have hA:=Arr.new w [x.val,y.val] t;intro i z hz;rw[Nat.zero_add,hA.cell]
  match i,hz with
  | 0,hz=>simp at hz;subst hz;exact⟨rfl,hx.keep (zA _ _)⟩
  | 1,hz=>simp at hz;subst hz;exact⟨rfl,hy.keep (zA _ _)⟩
  | i+2,hz=>simp at hz
theorem zD0 (x y:Pc):flat [x,y]=x.bs++y.bs:=by simp[flat]
theorem zLr (w:World) (x:Pc) (t:TypeId) (hx:Rd w x.p x.q x.bs):Pcs (w.alloc (.cells #[x.val] t)) w.heap.size 0 [x]:=by
  have hA:=Arr.new w [x.val] t;intro i z hz;rw[Nat.zero_add,hA.cell]
  match i,hz with
  | 0,hz=>simp at hz;subst hz;exact⟨rfl,hx.keep (zA _ _)⟩
  | i+1,hz=>simp at hz
theorem zFz (w:World) (x y z:Pc) (t:TypeId) (hx:Rd w x.p x.q x.bs) (hy:Rd w y.p y.q y.bs) (hz:Rd w z.p z.q z.bs):Pcs (w.alloc (.cells #[x.val,y.val,z.val] t)) w.heap.size 0 [x,y,z]:=by
  have hA:=Arr.new w [x.val,y.val,z.val] t;intro i v hv;rw[Nat.zero_add,hA.cell]
  match i,hv with
  | 0,hv=>simp at hv;subst hv;exact⟨rfl,hx.keep (zA _ _)⟩
  | 1,hv=>simp at hv;subst hv;exact⟨rfl,hy.keep (zA _ _)⟩
  | 2,hv=>simp at hv;subst hv;exact⟨rfl,hz.keep (zA _ _)⟩
  | i+3,hv=>simp at hv
theorem zG9 (x:Pc):flat [x]=x.bs:=by simp[flat]
theorem zCg (x y z:Pc):flat [x,y,z]=x.bs++y.bs++z.bs:=by simp[flat]
theorem zCQ (w:World) (vs:List Value) (bs:List UInt8) (t:TypeId) (n:Nat) (hv:vs=bs.map u8v) (hn:bs.length=n) (hl:n≤1000):Rd (w.alloc (.cells vs.toArray t)) (some ⟨w.heap.size,0,none⟩) n bs:=by
  have hA:=Arr.new w vs t;refine⟨by omega,by unfold maxLen;omega,fun e=>by simp at e,fun _=>⟨_,_,rfl,fun i hi=>?_⟩⟩;rw[Nat.zero_add,hA.cell,hv,zBg hi]
theorem zFI (w:World) (x y z v:Pc) (t:TypeId) (hx:Rd w x.p x.q x.bs) (hy:Rd w y.p y.q y.bs) (hz:Rd w z.p z.q z.bs) (hv:Rd w v.p v.q v.bs):Pcs (w.alloc (.cells #[x.val,y.val,z.val,v.val] t)) w.heap.size 0 [x,y,z,v]:=by
  have hA:=Arr.new w [x.val,y.val,z.val,v.val] t;intro i u hu;rw[Nat.zero_add,hA.cell]
  match i,hu with
  | 0,hu=>simp at hu;subst hu;exact⟨rfl,hx.keep (zA _ _)⟩
  | 1,hu=>simp at hu;subst hu;exact⟨rfl,hy.keep (zA _ _)⟩
  | 2,hu=>simp at hu;subst hu;exact⟨rfl,hz.keep (zA _ _)⟩
  | 3,hu=>simp at hu;subst hu;exact⟨rfl,hv.keep (zA _ _)⟩
  | i+4,hu=>simp at hu
theorem zH4 (n:Nat) (h:n<256):u8v (UInt8.ofNat n)=.int .u8 (n:Int):=by
  unfold u8v;rw[UInt8.toNat_ofNat',Nat.mod_eq_of_lt h]
theorem zCh (ps:List Pc) (b o cap:Nat) (w:World) (hp:Pcs w b o ps) (hl:(flat ps).length≤100000) (hn:ps.length≤1000):
    Calls Tryz.prog 120 #[.slice (some ⟨b,o,none⟩) ps.length cap] w fun e w'=>∃ u,e=.returned u∧Own w' w.heap.size u (flat ps)∧Below w.heap.size w w':=by
  obtain⟨i0,hi,hz0,hz1,hz2⟩:=info_parts zDq
  have HI:Hid ((Tryz.prog.info? 5).map (·.size)=some 1):=by show _=_;rw[hi];simp[hz1]
  have HP:Hid (Pcs w b o ps):=hp;have HL:Hid ((flat ps).length≤100000):=hl;clear hp hl;go_enter Tryz.func120,Tryz.ntmps120;go_wp2
  go_loop [3,12] (fun n i=>∃ j:Nat,j≤ps.length∧i=.int .i64 j∧n=.int .i64 ((flat (ps.take j)).length:Nat))
    (fun _ i=>ps.length-(intOf i).toNat)
  case atStart=>exact⟨0,Nat.zero_le _,rfl,by simp[flat]⟩
  case round=>
    obtain⟨j,hj,rfl,rfl⟩:=hrel
    by_cases hlt:j<ps.length
    · obtain⟨x,hx⟩:∃ x,Hid (ps[j]?=some x):=⟨ps[j],by show _=_;simp[hlt]⟩;have hcx:=(HP.out j x hx.out).1
      have HF:Hid ((flat (ps.take (j+1))).length=(flat (ps.take j)).length+x.bs.length):=by show _=_;rw[zC9 hx.out,List.length_append]
      have hfl:(flat (ps.take (j+1))).length≤100000:=Nat.le_trans (zLq ps _) HL.out;rw[HF.out] at hfl;unfold Pc.val at hcx;generalize (flat (ps.take j)).length=m at *;go_wp2
      go_round
      case rel=>exact⟨j+1,by omega,by go_num,by rw[HF.out];go_num⟩
      case measure=>simp[intOf];omega
    · have e:j=ps.length:=by omega
      subst e;rw[List.take_length];obtain⟨fs,hfs⟩:∃ fs,Hid (fs=flat ps):=⟨_,rfl⟩;rw[← hfs.out] at HL ⊢;have hfl:fs.length≤100000:=HL.out;clear hj hlt;go_wp2_with (at_make;refine wpList_make_full _ rfl (.tmp 21) (.tmp 21) 22 rfl w.heap.size 5 i0 (.int .u8 0) 1 Tryz.underlying22 hi hz0 hz1 .i64 .i64 _ _ fs.length rfl rfl rfl rfl (by rw[hz2];omega) (by unfold maxLen;omega) (Nat.le_refl _) ?_;intro w1 hown hgrow;have hA1:=(zAT hown).arr (zA3 fs.length);have hb1:Below w.heap.size w w1:=(Below.refl _ _).grown hgrow (Nat.le_refl _) (fun k hk=>by simp at hk);clear hown hgrow)
      go_loopw [7,25] (fun n i wr=>∃ j:Nat,j≤ps.length∧i=.int .i64 j∧n=.int .i64 ((flat (ps.take j)).length:Nat)∧Arr wr w.heap.size 5 ((zBe fs (flat (ps.take j)).length).map u8v)∧Below w.heap.size w wr)
        (fun _ i _=>ps.length-(intOf i).toNat)
      case atStart=>exact⟨0,Nat.zero_le _,rfl,by simp[flat],by simp only[List.take_zero,flat,List.length_nil];rw[zEs];exact hA1,hb1⟩
      case round=>
        clear hA1 hb1;obtain⟨j,hj,rfl,rfl,A,BW⟩:=hrel
        by_cases hlt:j<ps.length
        · obtain⟨x,hx⟩:∃ x,Hid (ps[j]?=some x):=⟨ps[j],by show _=_;simp[hlt]⟩;have HP2:Hid (Pcs wr b o ps):=HP.out.keep BW;have hcx:=(HP2.out j x hx.out).1;have HR:Hid (Rd wr x.p x.q x.bs):=(HP2.out j x hx.out).2
          have HF:Hid ((flat (ps.take (j+1))).length=(flat (ps.take j)).length+x.bs.length):=by show _=_;rw[zC9 hx.out,List.length_append]
          have hfp:(flat (ps.take j)).length+x.bs.length≤fs.length:=by rw[hfs.out];exact(zDS hx.out).1
          have HC:Hid ((fs.drop (flat (ps.take j)).length).take x.bs.length=x.bs):=by show _=_;rw[hfs.out];exact(zDS hx.out).2
          have HZ:Hid ((zBe fs (flat (ps.take j)).length).length=fs.length):=zFy _ _ (by omega);unfold Pc.val at hcx;generalize (flat (ps.take j)).length=m at *;have HS:Hid (splice ((zBe fs m).map u8v) m (x.bs.map u8v)=(zBe fs (m+x.bs.length)).map u8v):=zDh fs m x.bs hfp HC.out;obtain⟨xp,xq,xb⟩:=x;simp only at *;go_wp2_with (refine wpList_copy_splice rfl (.tmp 32) (.tmp 33) 22 22 rfl 5 Tryz.underlying22 HI.out _ _ _ _ _ _ rfl rfl w.heap.size m ((zBe fs m).map u8v) 5 A (xb.map u8v) (by rw[List.length_map];exact(Nat.min_eq_left (by omega)).symm) (fun hp=>⟨by(rw[List.length_map] at hp;have hne:¬ (fs.length=m):=(by omega);simp[hne]),HR.out.addr (by simpa using hp)⟩) (by have:=HZ.out;rw[List.length_map,List.length_map];omega) (by intro u hu;obtain⟨n,-,rfl⟩:=List.mem_map.1 hu;rfl) w.heap.size w BW (Nat.le_refl _) ?_;intro w2 hA2 hb2;replace hA2:Arr w2 w.heap.size 5 ((zBe fs (m+xb.length)).map u8v):=by(have h:=hA2.out;rw[HS.out] at h;exact h))
          all_goals
            go_roundw
            case rel=>exact⟨j+1,by omega,by go_num,by rw[HF.out];go_num,by rw[HF.out];exact hA2,hb2⟩
            case measure=>simp[intOf];omega
        · have e:j=ps.length:=by omega
          subst e;rw[List.take_length,← hfs.out,zFx] at A;have RO:=Arr.own (B:=w.heap.size) A (Nat.le_refl _) (by omega);go_wp2;go_ret;exact⟨_,rfl,by rw[← hfs.out];exact RO,BW⟩
theorem zKH (ps:List Pc) (b o cap:Nat) (w:World) (hp:Pcs w b o ps) (hl:(flat ps).length≤100000) (hn:ps.length≤1000):
    Calls Tryz.prog 64 #[.slice (some ⟨b,o,none⟩) ps.length cap] w fun e w'=>∃ u,e=.returned u∧Own w' w.heap.size u (flat ps)∧Below w.heap.size w w':=by
  have HP:Hid (Pcs w b o ps):=hp;have HL:Hid ((flat ps).length≤100000):=hl;have O1:=zBz w w.heap.size (Nat.le_refl _);have BW:=zA w (.cells #[] 5);clear hp hl;go_enter Tryz.func64,Tryz.ntmps64;go_wp2
  go_loopw [3,4] (fun v i wr=>∃ j:Nat,j≤ps.length∧i=.int .i64 j∧Own wr w.heap.size v (flat (ps.take j))∧Below w.heap.size w wr)
    (fun _ i _=>ps.length-(intOf i).toNat)
  case atStart=>exact⟨0,Nat.zero_le _,rfl,O1,BW⟩
  case round=>
    clear O1 BW;obtain⟨j,hj,rfl,ho,BW⟩:=hrel;obtain⟨po,qo,rfl,-⟩:=ho.rd
    by_cases hlt:j<ps.length
    · have hI:(j:Int)<(ps.length:Int):=by omega
      obtain⟨x,hx⟩:∃ x,Hid (ps[j]?=some x):=⟨ps[j],by show _=_;simp[hlt]⟩;have HP2:Hid (Pcs wr b o ps):=HP.out.keep BW;have hcx:=(HP2.out j x hx.out).1;have HR:Hid (Rd wr x.p x.q x.bs):=(HP2.out j x hx.out).2;have HF:Hid (flat (ps.take (j+1))=flat (ps.take j)++x.bs):=zC9 hx.out
      have HT:Hid ((flat (ps.take j)).length+x.bs.length≤100000):=by have h:=(zDS hx.out).1;have:=HL.out;show _≤_;omega
      unfold Pc.val at hcx;obtain⟨xp,xq,xb⟩:=x;simp only at *;have HO:Hid (Own wr w.heap.size (.slice po (flat (ps.take j)).length qo) (flat (ps.take j))):=ho;obtain⟨fs,hfs⟩:∃ fs,Hid (fs=flat (ps.take j)):=⟨_,rfl⟩;rw[← hfs.out] at HO HF HT ⊢;clear ho;have hOw:=HO.out;go_wp2_with (at_builtin;refine zG rfl (.tmp 12) (.tmp 16) rfl w.heap.size _ fs rfl hOw xp xq xb rfl HR.out (by have:=HT.out;omega) BW.size ?_;intro v2 w2 k2 hg2);have BW2:=BW.grown hg2 BW.size (fun k hk=>hOw.ge k hk);rw[← HF.out] at k2;clear hOw HO hg2 HR HP2 hcx;go_roundw
      case rel=>exact⟨j+1,by omega,by go_num,k2,BW2⟩
      case measure=>simp[intOf];omega
    · have e:j=ps.length:=by omega
      subst e;rw[List.take_length] at ho ⊢;go_wp2;go_ret;exact⟨_,rfl,ho,BW⟩
theorem zDA (x y z v:Pc):flat [x,y,z,v]=x.bs++y.bs++z.bs++v.bs:=by simp[flat]
end Go.Proofs.YtbaldmmbphbinaaGreatDoor
