import Derived.Test.YtiabacnmmojfjaaGreatDoorJoint2
import Derived.Test.YtiabacnmmojfjaaGreatDoorJoint7
import Derived.Test.YtiabacnmmojfjaaGreatDoorJoint3
import Derived.Laws.AppendOwnNone
import Derived.Laws.CopyOwn
import Derived.Test.YtiabacnmmojfjaaGreatDoorJoint8
import Derived.Test.YtiabacnmmojfjaaGreatDoorJoint1
import Derived.Test.YtiabacnmmojfjaaGreatDoorJoint5
set_option maxHeartbeats 1000000
set_option maxRecDepth 4000
open Go.Proofs.Tryz
namespace Go.Proofs.YtiabacnmmojfjaaGreatDoor
open Go.ChangeShapes Go.WideShapes Go.ChangeAt Go.RowKit
theorem zK {w:World} {ops:Array Oper} {rest:List Oper} {o:Oper} {a:Act} {Q:Exit→Act→World→Prop} (hgd:o.guard=none) (s x:Operand)
    (ho:o.op=.call { callee:=.builtin .append,args:=#[s,x],argTypes:=#[22,22] })
    (B:Nat) (v:Value) (xs:List UInt8) (hs:a.eval s=v) (hown:Own w B v xs) (p:Option Addr) (q:Nat) (bs:List UInt8) (hx:a.eval x=.slice p bs.length q) (hr:Rd w p q bs)
    (hl:xs.length+bs.length≤100000000) (hB:B≤w.heap.size)
    (h:∀ v' w',Own w' B v' (xs++bs)→w.grownBy w' v.ownBlock→wpList prog ops Q rest (a.put o.dst v') w'):wpList prog ops Q (o :: rest) a w:=by
  obtain⟨i0,hi,hz0,hz1,hz2⟩:=info_parts zCr;obtain⟨h1,h2,h3,h4⟩:=hr;cases p with
  | none=>
    have hq:=h3 rfl;subst hq;have hb:bs=[]:=List.eq_nil_of_length_eq_zero (by omega);subst hb;refine wpList_append_own_none hgd s x _ ho B _ i0 1 underlying22 hi v xs.length _ hs hown hx ?_;exact h v w (by rw[List.append_nil];exact hown) (World.grownBy.refl _ _)
  | some ad=>
    refine wpList_append_own _ hgd s x _ ho B 5 i0 (.int .u8 0) 1 1 underlying22 hi hz0 hz1 hz2 rfl (by decide) v xs.length (xs.map u8v) hs hown ad bs.length q (bs.map u8v) hx (by simp) ?_ (by intro u hu;obtain⟨n,-,rfl⟩:=List.mem_map.1 hu;rfl) (by unfold maxLen;omega) (by omega) hB ?_
    · intro j u hu
      have hj:j<bs.length:=by have:=(List.getElem?_eq_some_iff.1 hu).1;simpa using this
      obtain⟨b,off,e,hc⟩:=h4 (by omega);simp at e;subst e;rw[zD7,hc j hj,← hu,zCb hj]
    · intro v' w' ho' hg' _;refine h v' w' ?_ hg';unfold Own;rw[List.length_append,List.map_append];exact ho'
theorem Own.arr {w:World} {B g n:Nat} {bs:List UInt8} (h:Own w B (.slice (some ⟨g,0,none⟩) n n) bs) (hn:bs.length=n):Arr w g 5 (bs.map u8v):=by
  obtain⟨h1,h2⟩:=h;rcases h2 with ⟨e,-⟩ | ⟨g',cap,cur,e,hb,hg,hle,hm,hs,ht⟩
  · simp at e
  · simp at e;obtain⟨rfl,-,rfl⟩:=e
    have e2:cur.toList=bs.map u8v:=by
      rw[← ht,List.take_of_length_le (by simp;omega)]
    unfold Arr;rw[hg,← e2]
theorem Arr.own {w:World} {B g:Nat} {bs:List UInt8} (h:Arr w g 5 (bs.map u8v)) (hB:B≤g) (hl:bs.length≤100000000):Own w B (.slice (some ⟨g,0,none⟩) bs.length bs.length) bs:=
  ⟨by simp,.inr ⟨g,bs.length,(bs.map u8v).toArray,rfl,hB,h,yf _,by unfold maxLen;omega,by simp,List.take_of_length_le (by simp)⟩⟩
theorem Rd.addr {w:World} {p:Option Addr} {q:Nat} {bs:List UInt8} (h:Rd w p q bs) (hp:0<bs.length):∃ ad,p=some ad∧∀ j v,(bs.map u8v)[j]?=some v→w.cell? (ad.add j)=some v:=by
  obtain⟨b,o,rfl,hc⟩:=h.2.2.2 hp;refine⟨_,rfl,fun j v hv=>?_⟩
  have hj:j<bs.length:=by have:=(List.getElem?_eq_some_iff.1 hv).1;simpa using this
  rw[zD7,hc j hj,← hv,zCb hj]
theorem zE4 (w:World) (b:UInt8) (t:TypeId) (v:Int) (hv:v=b.toNat):Rd (w.alloc (.cells #[.int .u8 v] t)) (some ⟨w.heap.size,0,none⟩) 1 [b]:=by
  subst hv;refine⟨by simp,by unfold maxLen;decide,fun e=>by simp at e,fun _=>⟨w.heap.size,0,rfl,fun i hi=>?_⟩⟩
  have:i=0:=by simp at hi;omega
  subst this;rw[World.cell?_alloc_new];rfl
theorem zCL (w:World) (B:Nat) (hB:B≤w.heap.size):Own (w.alloc (.cells #[] 5)) B (.slice (some ⟨w.heap.size,0,none⟩) 0 0) []:=
  World.ownsRow_lit (base:=B) (e:=5) (size:=1) w #[] 0 hB (by unfold maxLen;decide) (by simp)
theorem zBe (p:Option Addr) (q:Nat) (bs:List UInt8) (w:World) (hr:Rd w p q bs) (hl:bs.length≤1000000):
    Calls prog 77 #[.slice p bs.length q] w fun e w'=>∃ u,e=.returned u∧Own w' w.heap.size u bs∧Below w.heap.size w w':=by
  have hr2:=hr.keep (zA w (Obj.cells #[] 5));have ho:=zCL w w.heap.size (yf _);go_enter func77,ntmps77
  go_wp2_with (first
    | (at_builtin;refine zK rfl (.tmp 3) (.tmp 4) rfl w.heap.size _ [] rfl ho p q bs rfl hr2 (by simp;omega) (by simp) ?_;intro v' w' ho' hg')
    | go_in)
  have RB:=(zA w (Obj.cells #[] 5)).grown hg' (by simp) (fun k hk=>ho.ge k hk);go_ret;exact⟨_,rfl,ho',RB⟩
def zEB:Value→Nat
  | .slice _ n _=>n
  | _=>0
theorem zMs (p:Option Addr) (q:Nat) (bs:List UInt8) (w:World) (hr:Rd w p q bs) (hl:bs.length≤600):
    Calls prog 169 #[.slice p bs.length q] w fun e w'=>∃ u,e=.returned u∧Own w' w.heap.size u (padN bs)∧Below w.heap.size w w':=by
  go_enter func169,ntmps169;go_wp2_with fail;refine(zBe p q bs _ hr (by omega)).mono ?_;rintro e w1 ⟨u,rfl,hu,hb1⟩;obtain⟨a1,c1,rfl,-⟩:=hu.rd;have hu2:=hu.stay (zA w1 (Obj.cells #[.int .u8 128] 5));have hge:=hb1.size
  go_wp2_with (first
    | (at_builtin;refine zK rfl (.tmp 5) (.tmp 6) rfl w.heap.size _ bs rfl hu2 _ 1 [128] rfl (zE4 w1 128 _ _ rfl) (by simp;omega) (by simp;omega) ?_;intro v2 w2 ho2 hg2)
    | go_in)
  have hB2:=(yt hb1 (Obj.cells #[.int .u8 128] 5)).grown hg2 (by simp;omega) (fun k hk=>hu.ge k hk);clear hg2 hu hu2 hb1
  go_loopw [3] (fun v wr=>∃ k:Nat,k≤gap bs.length∧Own wr w.heap.size v (bs++128 :: zs k)∧Below w.heap.size w wr)
    (fun v _=>1000-zEB v)
  case atStart=>exact⟨0,Nat.zero_le _,ho2,hB2⟩
  case round=>
    clear ho2 hB2 hge;obtain⟨k,hk,ho,hbel⟩:=hrel
    have hlen:Hid ((bs++128 :: zs k).length=bs.length+1+k):=by show _=_;simp[zAX];omega
    have hgap:gap bs.length≤63:=by unfold gap;omega
    obtain⟨a2,c2,rfl,hrd⟩:=ho.rd;rw[hlen.out] at ho ⊢;clear hrd
    by_cases hlt:k<gap bs.length
    · have hne:((((bs.length+1+k:Nat):Int) % 64) != 56)=true:=by rw[bne_iff_ne];unfold gap at hlt;omega
      have hu2:=ho.stay (zA wr (Obj.cells #[.int .u8 0] 5));have hge:=hbel.size
      go_wp2_with (first
        | (at_builtin;refine zK rfl (.tmp 12) (.tmp 13) rfl w.heap.size _ (bs++128 :: zs k) rfl hu2 _ 1 [0] rfl (zE4 wr 0 _ _ rfl) (by have:=hlen.out;simp at this ⊢;omega) (by simp;omega) ?_;intro v3 w3 ho3 hg3)
        | go_in)
      have hB3:=(yt hbel (Obj.cells #[.int .u8 0] 5)).grown hg3 (by simp;omega) (fun k hk=>ho.ge k hk);rw[show bs++128 :: zs k++[0]=bs++128 :: zs (k+1) by simp[zs,List.replicate_succ']] at ho3
      have hl3:(bs++128 :: zs (k+1)).length=bs.length+1+(k+1):=by simp[zAX];omega
      have hm3:zEB v3=bs.length+1+(k+1):=by obtain⟨a4,c4,e4,-⟩:=ho3.rd;rw[e4,hl3];rfl
      clear hg3 hu2 ho hlen;go_roundw
      case rel=>exact⟨k+1,hlt,ho3,hB3⟩
      case measure=>
        show 1000-zEB v3<1000-(bs.length+1+k)
        rw[hm3];omega
    · have e:k=gap bs.length:=by omega
      have hne:((((bs.length+1+k:Nat):Int) % 64) != 56)=false:=by rw[e,bne_eq_false_iff_eq];unfold gap;omega
      subst e;go_wp2_with fail;refine(zH5 _ 8 _ (by omega) (by omega) (by decide) (by decide)).mono ?_;rintro e w4 ⟨u4,rfl,hu4,hb4⟩;rw[show(((bs.length:Int)*8).toNat)=8*bs.length by omega,show(8:Int).toNat=8 from rfl] at hu4;obtain⟨a4,c4,rfl,hrd4⟩:=hu4.rd;have ho4:=ho.stay hb4;have hB4:=yn hbel hb4;clear hu4 hb4 hbel
      go_wp2_with (first
        | (at_builtin;refine zK rfl (.tmp 15) (.tmp 19) rfl w.heap.size _ (bs++128 :: zs (gap bs.length)) rfl ho4 a4 c4 (putB (8*bs.length) 8) rfl hrd4 (by have:=hlen.out;rw[zP];omega) hB4.size ?_;intro v5 w5 ho5 hg5)
        | go_in)
      have hB5:=hB4.grown hg5 hB4.size (fun k hk=>ho.ge k hk);go_ret;exact⟨_,rfl,by rw[padN];rw[List.append_assoc,yk] at ho5;exact ho5,hB5⟩
theorem zKD (v n k:Nat) (h:k≤n) (hv:v<256 ^ k):putB v n=zs (n-k)++putB v k:=by
  induction n with
  | zero => have:k=0:=by omega
            subst this;rfl
  | succ n ih=>
    by_cases hk:k=n+1
    · subst hk;simp[zs]
    · have hle:k≤n:=by omega
      have h2:v<256 ^ n:=Nat.lt_of_lt_of_le hv (Nat.pow_le_pow_right (by decide) hle);rw[putB,Nat.div_eq_of_lt h2,ih hle,show n+1-k=(n-k)+1 by omega];simp[zs,List.replicate_succ]
def zCD (bs:List UInt8) (k:Nat):List UInt8:=bs++128 :: (zs (gap bs.length+8-k)++putB (8*bs.length) k)
theorem zGR (bs:List UInt8) (k:Nat) (h:k≤8):(zCD bs k).length=(bs.length+72) / 64*64:=by
  rw[← zCd,zFH];simp[zCD,zAX,zP];omega
theorem zJQ (bs:List UInt8) (k:Nat) (h:k≤8) (hv:8*bs.length<256 ^ k):zCD bs k=padN bs:=by
  unfold zCD padN;rw[zKD _ 8 k h hv,← List.append_assoc (zs _),show zs (gap bs.length)++zs (8-k)=zs (gap bs.length+8-k) by simp[zs];omega]
theorem zJR (bs:List UInt8) (k:Nat) (h:k<8):((zCD bs k).map u8v).set ((bs.length+72) / 64*64-1-k) (.int .u8 ((8*bs.length / 256 ^ k % 256:Nat):Int))=(zCD bs (k+1)).map u8v:=by
  have hl:=zGR bs k (by omega)
  have e0:(zCD bs k).map u8v=(bs++[128]).map u8v++zCQ (8*bs.length) (gap bs.length+8) k:=by
    simp[zCD,zCQ,zs,u8v]
  have e1:(zCD bs (k+1)).map u8v=(bs++[128]).map u8v++zCQ (8*bs.length) (gap bs.length+8) (k+1):=by
    simp[zCD,zCQ,zs,u8v]
  have hg:=zFH bs;rw[zCd] at hg;rw[e0,e1,List.set_append_right _ _ (by simp;omega),← zGC _ _ k (by omega)]
  congr 2
  simp;omega
def zDw (bs:List UInt8):List UInt8:=bs++0 :: zs (gap bs.length+8)
theorem zLJ {w:World} {g:Nat} {t:TypeId} {N:Nat} {bs:List UInt8} (h:Hid (w.heap[g]?=some (.cells (splice ((zs N).map u8v) 0 (bs.map u8v)).toArray t (0,0)))) (hN:N=bs.length+9+gap bs.length):Arr w g t ((zDw bs).map u8v):=by
  have e:splice ((zs N).map u8v) 0 (bs.map u8v)=(zDw bs).map u8v:=by
    subst hN;simp only[splice,List.take_zero,yl,Nat.zero_add,List.length_map,zDw,List.map_append,zs,← List.map_drop,List.drop_replicate];rw[show bs.length+9+gap bs.length-bs.length=(gap bs.length+8)+1 by omega,List.replicate_succ]
  have h2:=h.out;rw[e] at h2;exact h2
theorem zH8 (bs:List UInt8):((zDw bs).map u8v)[bs.length]?=some (.int .u8 0):=by
  simp[zDw,u8v]
theorem zHV (bs:List UInt8):((zDw bs).map u8v).set bs.length (.int .u8 128)=(zCD bs 0).map u8v:=by
  unfold zDw zCD;rw[List.map_append,List.set_append_right _ _ (by simp),List.length_map,Nat.sub_self,List.map_cons,List.set_cons_zero];simp[putB,u8v]
theorem zLK (p:Option Addr) (q:Nat) (bs:List UInt8) (w:World) (hr:Rd w p q bs) (hl:bs.length≤600):
    Calls prog 194 #[.slice p bs.length q] w fun e w'=>∃ u,e=.returned u∧Own w' w.heap.size u (padN bs)∧Below w.heap.size w w':=by
  obtain⟨i0,hi,hz0,hz1,hz2⟩:=info_parts zCr;have HR:Hid (Rd w p q bs):=hr;clear hr;obtain⟨N,hN⟩:∃ N,Hid (N=(bs.length+72) / 64*64):=⟨_,rfl⟩
  have hN1:N≤1000:=by have:=hN.out;omega
  have hN2:bs.length+9≤N:=by have:=hN.out;omega
  have hNg:Hid (N=bs.length+9+gap bs.length):=by show _=_;rw[hN.out,← zCd,zFH]
  have hNi:Hid (((bs.length:Int)+9+63) / 64*64=(N:Int)):=by show _=_;have:=hN.out;omega
  have HI:Hid ((Tryz.prog.info? 5).map (·.size)=some 1):=by show _=_;rw[hi];simp[hz1]
  go_enter func194,ntmps194
  go_wp2_with (first
    | (at_make;refine wpList_make_full _ rfl (.tmp 11) (.tmp 11) 22 rfl w.heap.size 5 i0 (.int .u8 0) 1 underlying22 hi hz0 hz1 .i64 .i64 _ _ N rfl rfl hNi.out hNi.out (by rw[hz2];omega) (by unfold maxLen;omega) (yf _) ?_;intro w1 hown hgrow;have hA1:=(zAT hown).arr (zAX N);have hb1:Below w.heap.size w w1:=(Below.refl _ _).grown hgrow (yf _) (fun k hk=>by simp at hk);clear hown hgrow)
    | (refine wpList_copy_splice rfl (.tmp 13) (.tmp 14) 22 22 rfl 5 underlying22 HI.out _ _ _ _ _ _ rfl rfl w.heap.size 0 ((zs N).map u8v) 5 hA1 (bs.map u8v) (by rw[List.length_map];exact(Nat.min_eq_left (by omega)).symm) (fun hp=>⟨rfl,(HR.out.keep hb1).addr (by simpa using hp)⟩) (by simp[zAX];omega) (by intro u hu;obtain⟨n,-,rfl⟩:=List.mem_map.1 hu;rfl) w.heap.size w hb1 (yf _) ?_;intro w2 hA2 hb2;replace hA2:=zLJ hA2 hNg.out;have hcx:=(hA2.cell bs.length).trans (zH8 bs);have hfx:=hA2.frozen bs.length;have hixl:(bs.length:Int)<(N:Int):=by omega)
    | go_in)
  have R0:=hA2.set bs.length (.int .u8 128);rw[zHV] at R0;have B0:=Below.setCell (p:=⟨w.heap.size,bs.length,none⟩) hb2 (yf _) (.int .u8 128);clear hA2 hcx hfx hb2 hA1 hb1 HR
  go_loopw [4,5] (fun c i wr=>∃ k:Nat,k≤2∧c=.int .u64 ((8*bs.length / 256 ^ k:Nat):Int)∧i=.int .i64 ((N:Int)-1-k)∧Arr wr w.heap.size 5 ((zCD bs k).map u8v)∧Below w.heap.size w wr)
    (fun c _ _=>(intOf c).toNat)
  case atStart=>exact⟨0,by decide,by simp;omega,by simp,R0,B0⟩
  case round=>
    clear R0 B0;obtain⟨k,hk,rfl,rfl,hA,hbel⟩:=hrel
    by_cases hq:0<8*bs.length / 256 ^ k
    · have hk1:k≤1:=by
        have:¬ k=2:=fun e=>by subst e;simp at hq;omega
        omega
      have hll:(zCD bs k).length=N:=by rw[zGR bs k (by omega),hN.out]
      have hcx:wr.cell? ⟨w.heap.size,N-1-k,none⟩=some (.int .u8 (at8 (zCD bs k) (N-1-k))):=by rw[hA.cell,zCb (by omega)]
      have hfx:=hA.frozen (N-1-k);have R:=hA.set (N-1-k) (.int .u8 ((8*bs.length / 256 ^ k % 256:Nat):Int));have hset:=zJR bs k (by omega);rw[← hN.out] at hset;rw[hset] at R;have RB:=Below.setCell (p:=⟨w.heap.size,N-1-k,none⟩) hbel (yf _) (.int .u8 ((8*bs.length / 256 ^ k % 256:Nat):Int))
      have HV:Hid (8*bs.length / 256 ^ (k+1)=8*bs.length / 256 ^ k / 256):=by show _=_;rw[Nat.pow_succ,Nat.div_div_eq_div_mul]
      have hvk:8*bs.length / 256 ^ k≤4800:=yi (Nat.div_le_self _ _) (by omega)
      have hix:((N:Int)-1-k).toNat=N-1-k:=by omega
      have hge:(0:Int)≤(N:Int)-1-k:=by omega
      have hlt2:(N:Int)-1-k<N:=by omega
      clear hset hA hll;generalize at8 (zCD bs k) (N-1-k)=old at *;generalize 8*bs.length / 256 ^ k=c at *;rw[show((c % 256:Nat):Int)=(c:Int) % 256 by omega] at R RB;go_wp2;go_roundw
      case rel=>exact⟨k+1,by omega,by rw[HV.out];go_num,by go_num,R,RB⟩
      case measure=>simp[intOf];omega
    · have h0:8*bs.length / 256 ^ k=0:=Nat.eq_zero_of_not_pos hq
      have hv:8*bs.length<256 ^ k:=by
        rcases Nat.div_eq_zero_iff.1 h0 with h | h
        · exact absurd h (Nat.ne_of_gt (Nat.pow_pos (by decide)))
        · exact h
      rw[zJQ bs k (by omega) hv] at hA;rw[h0]
      have hpl:(padN bs).length=N:=by rw[zCd,hN.out]
      have RO:=Arr.own (B:=w.heap.size) hA (yf _) (by omega);rw[hpl] at RO;go_wp2;go_ret;exact⟨_,rfl,RO,hbel⟩
structure Pc where
  p:Option Addr
  q:Nat
  bs:List UInt8
def Pc.val (x:Pc):Value:=.slice x.p x.bs.length x.q
def Pcs (w:World) (b o:Nat) (ps:List Pc):Prop:=∀ i x,ps[i]?=some x→w.cell? ⟨b,o+i,none⟩=some x.val∧Rd w x.p x.q x.bs
theorem Pcs.keep {w w':World} {b o:Nat} {ps:List Pc} (h:Pcs w b o ps) (hb:Below w.heap.size w w'):Pcs w' b o ps:=fun i x hx=>
  ⟨(hb.cell (p:=⟨b,o+i,none⟩) (World.block_lt_of_cell? w _ (h i x hx).1)).trans (h i x hx).1,(h i x hx).2.keep hb⟩
def flat:List Pc→List UInt8
  | []=>[]
  | x :: xs=>x.bs++flat xs
theorem zFb (xs ys:List Pc):flat (xs++ys)=flat xs++flat ys:=by
  induction xs with
  | nil=>rfl
  | cons x xs ih=>simp[flat,ih]
theorem zEC {ps:List Pc} {j:Nat} {x:Pc} (h:ps[j]?=some x):flat (ps.take (j+1))=flat (ps.take j)++x.bs:=by
  obtain⟨hj,he⟩:=List.getElem?_eq_some_iff.1 h;rw[List.take_succ_eq_append_getElem hj,zFb,he];simp[flat]
theorem zGS (ps:List Pc) (j:Nat):flat ps=flat (ps.take j)++flat (ps.drop j):=by
  rw[← zFb,List.take_append_drop]
theorem zMt (ps:List Pc) (j:Nat):(flat (ps.take j)).length≤(flat ps).length:=by
  rw[zGS ps j,List.length_append];omega
def zCP (bs:List UInt8) (k:Nat):List UInt8:=bs.take k++zs (bs.length-k)
theorem zGT (bs:List UInt8):zCP bs 0=zs bs.length:=by simp[zCP]
theorem zHW (bs:List UInt8):zCP bs bs.length=bs:=by simp[zCP,zs]
theorem zHX (bs:List UInt8) (k:Nat) (h:k≤bs.length):(zCP bs k).length=bs.length:=by simp[zCP,zAX];omega
theorem zE5 (bs:List UInt8) (k:Nat) (cs:List UInt8) (h:k+cs.length≤bs.length) (hc:(bs.drop k).take cs.length=cs):
    splice ((zCP bs k).map u8v) k (cs.map u8v)=(zCP bs (k+cs.length)).map u8v:=by
  have hl:((bs.take k).map u8v).length=k:=by simp;omega
  have e:bs.take (k+cs.length)=bs.take k++cs:=by rw[List.take_add,hc]
  unfold splice zCP;rw[e,List.map_append,List.map_append,List.map_append,List.take_append_of_le_length (by omega),List.take_of_length_le (by omega),List.drop_append,hl,List.length_map,List.drop_of_length_le (by omega),yl,List.append_assoc,show k+cs.length-k=cs.length by omega,← List.map_drop]
  congr 3
  simp[zs];omega
theorem zEi {ps:List Pc} {j:Nat} {x:Pc} (h:ps[j]?=some x):(flat (ps.take j)).length+x.bs.length≤(flat ps).length∧((flat ps).drop (flat (ps.take j)).length).take x.bs.length=x.bs:=by
  have h1:=zGS ps (j+1);rw[zEC h,List.append_assoc] at h1;constructor
  · rw[h1];simp
  · rw[h1,List.drop_left,List.take_left]
theorem zMu (w:World) (x y:Pc) (t:TypeId) (hx:Rd w x.p x.q x.bs) (hy:Rd w y.p y.q y.bs):Pcs (w.alloc (.cells #[x.val,y.val] t)) w.heap.size 0 [x,y]:=by
  have hA:=yr w [x.val,y.val] t;intro i z hz;rw[Nat.zero_add,hA.cell]
  match i,hz with
  | 0,hz=>simp at hz;subst hz;exact⟨rfl,hx.keep (zA _ _)⟩
  | 1,hz=>simp at hz;subst hz;exact⟨rfl,hy.keep (zA _ _)⟩
  | i+2,hz=>simp at hz
theorem zIl (x y:Pc):flat [x,y]=x.bs++y.bs:=by simp[flat]
theorem zMv (w:World) (x:Pc) (t:TypeId) (hx:Rd w x.p x.q x.bs):Pcs (w.alloc (.cells #[x.val] t)) w.heap.size 0 [x]:=by
  have hA:=yr w [x.val] t;intro i z hz;rw[Nat.zero_add,hA.cell]
  match i,hz with
  | 0,hz=>simp at hz;subst hz;exact⟨rfl,hx.keep (zA _ _)⟩
  | i+1,hz=>simp at hz
theorem zFc (w:World) (x y z:Pc) (t:TypeId) (hx:Rd w x.p x.q x.bs) (hy:Rd w y.p y.q y.bs) (hz:Rd w z.p z.q z.bs):Pcs (w.alloc (.cells #[x.val,y.val,z.val] t)) w.heap.size 0 [x,y,z]:=by
  have hA:=yr w [x.val,y.val,z.val] t;intro i v hv;rw[Nat.zero_add,hA.cell]
  match i,hv with
  | 0,hv=>simp at hv;subst hv;exact⟨rfl,hx.keep (zA _ _)⟩
  | 1,hv=>simp at hv;subst hv;exact⟨rfl,hy.keep (zA _ _)⟩
  | 2,hv=>simp at hv;subst hv;exact⟨rfl,hz.keep (zA _ _)⟩
  | i+3,hv=>simp at hv
theorem zIm (x:Pc):flat [x]=x.bs:=by simp[flat]
theorem zCG (x y z:Pc):flat [x,y,z]=x.bs++y.bs++z.bs:=by simp[flat]
theorem zFd (w:World) (vs:List Value) (bs:List UInt8) (t:TypeId) (n:Nat) (hv:vs=bs.map u8v) (hn:bs.length=n) (hl:n≤1000):Rd (w.alloc (.cells vs.toArray t)) (some ⟨w.heap.size,0,none⟩) n bs:=by
  have hA:=yr w vs t;refine⟨by omega,by unfold maxLen;omega,fun e=>by simp at e,fun _=>⟨_,_,rfl,fun i hi=>?_⟩⟩;rw[Nat.zero_add,hA.cell,hv,zCb hi]
theorem zLL (w:World) (x y z v:Pc) (t:TypeId) (hx:Rd w x.p x.q x.bs) (hy:Rd w y.p y.q y.bs) (hz:Rd w z.p z.q z.bs) (hv:Rd w v.p v.q v.bs):Pcs (w.alloc (.cells #[x.val,y.val,z.val,v.val] t)) w.heap.size 0 [x,y,z,v]:=by
  have hA:=yr w [x.val,y.val,z.val,v.val] t;intro i u hu;rw[Nat.zero_add,hA.cell]
  match i,hu with
  | 0,hu=>simp at hu;subst hu;exact⟨rfl,hx.keep (zA _ _)⟩
  | 1,hu=>simp at hu;subst hu;exact⟨rfl,hy.keep (zA _ _)⟩
  | 2,hu=>simp at hu;subst hu;exact⟨rfl,hz.keep (zA _ _)⟩
  | 3,hu=>simp at hu;subst hu;exact⟨rfl,hv.keep (zA _ _)⟩
  | i+4,hu=>simp at hu
theorem zMw (n:Nat) (h:n<256):u8v (UInt8.ofNat n)=.int .u8 (n:Int):=by
  unfold u8v;rw[UInt8.toNat_ofNat',Nat.mod_eq_of_lt h]
theorem zFK (ps:List Pc) (b o cap:Nat) (w:World) (hp:Pcs w b o ps) (hl:(flat ps).length≤100000) (hn:ps.length≤1000):
    Calls prog 214 #[.slice (some ⟨b,o,none⟩) ps.length cap] w fun e w'=>∃ u,e=.returned u∧Own w' w.heap.size u (flat ps)∧Below w.heap.size w w':=by
  obtain⟨i0,hi,hz0,hz1,hz2⟩:=info_parts zCr
  have HI:Hid ((Tryz.prog.info? 5).map (·.size)=some 1):=by show _=_;rw[hi];simp[hz1]
  have HP:Hid (Pcs w b o ps):=hp;have HL:Hid ((flat ps).length≤100000):=hl;clear hp hl;go_enter func214,ntmps214;go_wp2
  go_loop [3,12] (fun n i=>∃ j:Nat,j≤ps.length∧i=.int .i64 j∧n=.int .i64 ((flat (ps.take j)).length:Nat))
    (fun _ i=>ps.length-(intOf i).toNat)
  case atStart=>exact⟨0,Nat.zero_le _,rfl,by simp[flat]⟩
  case round=>
    obtain⟨j,hj,rfl,rfl⟩:=hrel
    by_cases hlt:j<ps.length
    · obtain⟨x,hx⟩:∃ x,Hid (ps[j]?=some x):=⟨ps[j],by show _=_;simp[hlt]⟩;have hcx:=(HP.out j x hx.out).1
      have HF:Hid ((flat (ps.take (j+1))).length=(flat (ps.take j)).length+x.bs.length):=by show _=_;rw[zEC hx.out,List.length_append]
      have hfl:(flat (ps.take (j+1))).length≤100000:=yi (zMt ps _) HL.out;rw[HF.out] at hfl;unfold Pc.val at hcx;generalize (flat (ps.take j)).length=m at *;go_wp2
      go_round
      case rel=>exact⟨j+1,by omega,by go_num,by rw[HF.out];go_num⟩
      case measure=>simp[intOf];omega
    · have e:j=ps.length:=by omega
      subst e;rw[List.take_length];obtain⟨fs,hfs⟩:∃ fs,Hid (fs=flat ps):=⟨_,rfl⟩;rw[← hfs.out] at HL ⊢;have hfl:fs.length≤100000:=HL.out;clear hj hlt;go_wp2_with (at_make;refine wpList_make_full _ rfl (.tmp 21) (.tmp 21) 22 rfl w.heap.size 5 i0 (.int .u8 0) 1 underlying22 hi hz0 hz1 .i64 .i64 _ _ fs.length rfl rfl rfl rfl (by rw[hz2];omega) (by unfold maxLen;omega) (yf _) ?_;intro w1 hown hgrow;have hA1:=(zAT hown).arr (zAX fs.length);have hb1:Below w.heap.size w w1:=(Below.refl _ _).grown hgrow (yf _) (fun k hk=>by simp at hk);clear hown hgrow)
      go_loopw [7,25] (fun n i wr=>∃ j:Nat,j≤ps.length∧i=.int .i64 j∧n=.int .i64 ((flat (ps.take j)).length:Nat)∧Arr wr w.heap.size 5 ((zCP fs (flat (ps.take j)).length).map u8v)∧Below w.heap.size w wr)
        (fun _ i _=>ps.length-(intOf i).toNat)
      case atStart=>exact⟨0,Nat.zero_le _,rfl,by simp[flat],by simp only[List.take_zero,flat,List.length_nil];rw[zGT];exact hA1,hb1⟩
      case round=>
        clear hA1 hb1;obtain⟨j,hj,rfl,rfl,A,BW⟩:=hrel
        by_cases hlt:j<ps.length
        · obtain⟨x,hx⟩:∃ x,Hid (ps[j]?=some x):=⟨ps[j],by show _=_;simp[hlt]⟩;have HP2:Hid (Pcs wr b o ps):=HP.out.keep BW;have hcx:=(HP2.out j x hx.out).1;have HR:Hid (Rd wr x.p x.q x.bs):=(HP2.out j x hx.out).2
          have HF:Hid ((flat (ps.take (j+1))).length=(flat (ps.take j)).length+x.bs.length):=by show _=_;rw[zEC hx.out,List.length_append]
          have hfp:(flat (ps.take j)).length+x.bs.length≤fs.length:=by rw[hfs.out];exact(zEi hx.out).1
          have HC:Hid ((fs.drop (flat (ps.take j)).length).take x.bs.length=x.bs):=by show _=_;rw[hfs.out];exact(zEi hx.out).2
          have HZ:Hid ((zCP fs (flat (ps.take j)).length).length=fs.length):=zHX _ _ (by omega);unfold Pc.val at hcx;generalize (flat (ps.take j)).length=m at *;have HS:Hid (splice ((zCP fs m).map u8v) m (x.bs.map u8v)=(zCP fs (m+x.bs.length)).map u8v):=zE5 fs m x.bs hfp HC.out;obtain⟨xp,xq,xb⟩:=x;simp only at *;go_wp2_with (refine wpList_copy_splice rfl (.tmp 32) (.tmp 33) 22 22 rfl 5 underlying22 HI.out _ _ _ _ _ _ rfl rfl w.heap.size m ((zCP fs m).map u8v) 5 A (xb.map u8v) (by rw[List.length_map];exact(Nat.min_eq_left (by omega)).symm) (fun hp=>⟨by(rw[List.length_map] at hp;have hne:¬ (fs.length=m):=(by omega);simp[hne]),HR.out.addr (by simpa using hp)⟩) (by have:=HZ.out;rw[List.length_map,List.length_map];omega) (by intro u hu;obtain⟨n,-,rfl⟩:=List.mem_map.1 hu;rfl) w.heap.size w BW (yf _) ?_;intro w2 hA2 hb2;replace hA2:Arr w2 w.heap.size 5 ((zCP fs (m+xb.length)).map u8v):=by(have h:=hA2.out;rw[HS.out] at h;exact h))
          all_goals
            go_roundw
            case rel=>exact⟨j+1,by omega,by go_num,by rw[HF.out];go_num,by rw[HF.out];exact hA2,hb2⟩
            case measure=>simp[intOf];omega
        · have e:j=ps.length:=by omega
          subst e;rw[List.take_length,← hfs.out,zHW] at A;have RO:=Arr.own (B:=w.heap.size) A (yf _) (by omega);go_wp2;go_ret;exact⟨_,rfl,by rw[← hfs.out];exact RO,BW⟩
theorem zLM (ps:List Pc) (b o cap:Nat) (w:World) (hp:Pcs w b o ps) (hl:(flat ps).length≤100000) (hn:ps.length≤1000):
    Calls prog 202 #[.slice (some ⟨b,o,none⟩) ps.length cap] w fun e w'=>∃ u,e=.returned u∧Own w' w.heap.size u (flat ps)∧Below w.heap.size w w':=by
  have HP:Hid (Pcs w b o ps):=hp;have HL:Hid ((flat ps).length≤100000):=hl;have O1:=zCL w w.heap.size (yf _);have BW:=zA w (.cells #[] 5);clear hp hl;go_enter func202,ntmps202;go_wp2
  go_loopw [3,4] (fun v i wr=>∃ j:Nat,j≤ps.length∧i=.int .i64 j∧Own wr w.heap.size v (flat (ps.take j))∧Below w.heap.size w wr)
    (fun _ i _=>ps.length-(intOf i).toNat)
  case atStart=>exact⟨0,Nat.zero_le _,rfl,O1,BW⟩
  case round=>
    clear O1 BW;obtain⟨j,hj,rfl,ho,BW⟩:=hrel;obtain⟨po,qo,rfl,-⟩:=ho.rd
    by_cases hlt:j<ps.length
    · have hI:(j:Int)<(ps.length:Int):=by omega
      obtain⟨x,hx⟩:∃ x,Hid (ps[j]?=some x):=⟨ps[j],by show _=_;simp[hlt]⟩;have HP2:Hid (Pcs wr b o ps):=HP.out.keep BW;have hcx:=(HP2.out j x hx.out).1;have HR:Hid (Rd wr x.p x.q x.bs):=(HP2.out j x hx.out).2;have HF:Hid (flat (ps.take (j+1))=flat (ps.take j)++x.bs):=zEC hx.out
      have HT:Hid ((flat (ps.take j)).length+x.bs.length≤100000):=by have h:=(zEi hx.out).1;have:=HL.out;show _≤_;omega
      unfold Pc.val at hcx;obtain⟨xp,xq,xb⟩:=x;simp only at *;have HO:Hid (Own wr w.heap.size (.slice po (flat (ps.take j)).length qo) (flat (ps.take j))):=ho;obtain⟨fs,hfs⟩:∃ fs,Hid (fs=flat (ps.take j)):=⟨_,rfl⟩;rw[← hfs.out] at HO HF HT ⊢;clear ho;have hOw:=HO.out;go_wp2_with (at_builtin;refine zK rfl (.tmp 12) (.tmp 16) rfl w.heap.size _ fs rfl hOw xp xq xb rfl HR.out (by have:=HT.out;omega) BW.size ?_;intro v2 w2 k2 hg2);have BW2:=BW.grown hg2 BW.size (fun k hk=>hOw.ge k hk);rw[← HF.out] at k2;clear hOw HO hg2 HR HP2 hcx;go_roundw
      case rel=>exact⟨j+1,by omega,by go_num,k2,BW2⟩
      case measure=>simp[intOf];omega
    · have e:j=ps.length:=by omega
      subst e;rw[List.take_length] at ho ⊢;go_wp2;go_ret;exact⟨_,rfl,ho,BW⟩
theorem zED (b o n q:Nat) (p:Option Addr) (k:Int) (w:World) (c0:w.cell? ⟨b,o,none⟩=some (.int .i64 k)) (c1:w.cell? ⟨b,o+1,none⟩=some (.slice p n q)):
    Calls prog 116 #[.pointer (some ⟨b,o,none⟩)] w fun e w'=>e=.returned (.int .i64 (zF k n))∧w'=w:=by
  cases hk:inB k 0 255
  · rw[show zF k n=3 by simp[zF,hk]];go_enter func116,ntmps116;go_wp2_with fail;refine(zBW _ _ _ _).mono ?_;rintro e w' ⟨rfl,rfl⟩;rw[hk];go_wp2;go_ret;exact⟨rfl,rfl⟩
  · by_cases hn:n≤160
    · rw[show zF k n=0 by simp[zF,hk,hn]]
      have hnI:¬ (160<(n:Int)):=by omega
      go_enter func116,ntmps116;go_wp2_with fail;refine(zBW _ _ _ _).mono ?_;rintro e w' ⟨rfl,rfl⟩;rw[hk];go_wp2;go_ret;exact⟨rfl,rfl⟩
    · rw[show zF k n=2 by simp[zF,hk,hn]]
      have hnI:160<(n:Int):=by omega
      go_enter func116,ntmps116;go_wp2_with fail;refine(zBW _ _ _ _).mono ?_;rintro e w' ⟨rfl,rfl⟩;rw[hk];go_wp2;go_ret;exact⟨rfl,rfl⟩
theorem zLN (b o q:Nat) (p:Option Addr) (a:MsgD) (w:World) (c0:w.cell? ⟨b,o,none⟩=some (.int .i64 a.1)) (c1:w.cell? ⟨b,o+1,none⟩=some (.slice p a.2.length q)) (hr:Rd w p q a.2) (hl:a.2.length≤10000):
    Calls prog 172 #[.pointer (some ⟨b,o,none⟩)] w fun e w'=>∃ u,e=.returned u∧Own w' w.heap.size u (zD6 a.1 a.2)∧Below w.heap.size w w':=by
  go_enter func172,ntmps172;have C0:=yo c0;have C1:=yo c1;have hne:=yq w;go_wp2_with fail;refine zWr [0,1,2,3,4,6,7,8,9,10,12,13,14,15] 16 2 3 ?_;simp only[zD,ya,yb,yc]
  repeat (go_big_quiet_step (fail))
  refine wpQuiet_nil ?_
  have hK8:Hid (∀ V:World,Rd (V.alloc (.cells #[.int .u8 (a.1 % 256)] 5)) (some ⟨V.heap.size,0,none⟩) 1 [zBl a.1]):=fun V=>zE4 V (zBl a.1) 5 _ (by rw[zDA])
  refine zAs (i:=5) (j:=11) (by kernel_rfl) ?_ ?_
  case' refine_1=>
    refine mOp_make rfl (by go_simp) ?_;rintro _ ⟨s1,rfl⟩;refine⟨.slice (some ⟨s1.w.heap.size,0,none⟩) 1 1,s1.w.alloc (.cells #[.int .u8 (a.1 % 256)] 5),by go_simp,⟨⟨_,zA _ _⟩,rfl⟩,?_⟩;refine zWc 11 rfl 122 #[.int .i64 (a.2.length:Int),.int .i64 3] ?_;rintro _ ⟨s2,rfl⟩;refine(zFY a.2.length 3 _ (by omega) (by decide)).mono ?_;rintro e w3 ⟨u3,rfl,k3,hb3⟩;refine⟨u3,rfl,⟨⟨_,hb3⟩,rfl⟩,?_⟩;refine zWe ?_;rintro _ ⟨s4,rfl⟩;have R1:=(((hK8.out s1.w).keep s2.h).keep hb3).keep s4.h;obtain⟨p3,q3,rfl,r3⟩:=k3.rd;have R2:=r3.keep s4.h;have BW:=yn (yn (yn (yn s1.h (zA _ _)) s2.h) hb3) s4.h;generalize s4.w=W at *;generalize s1.w.heap.size=g8 at *;clear s4 k3 r3 hb3 s2 s1 hne
  case' refine_2=>
    refine mOp_call rfl (by go_simp) 122 _ #[.int .i64 (a.2.length:Int),.int .i64 3] (fun w=>by go_simp) rfl ?_;rintro _ ⟨s2,rfl⟩;refine(zFY a.2.length 3 _ (by omega) (by decide)).mono ?_;rintro e w3 ⟨u3,rfl,k3,hb3⟩;refine⟨u3,rfl,⟨⟨_,hb3⟩,rfl⟩,?_⟩;refine zWk 5 rfl ?_;rintro _ ⟨s1,rfl⟩;refine⟨.slice (some ⟨s1.w.heap.size,0,none⟩) 1 1,s1.w.alloc (.cells #[.int .u8 (a.1 % 256)] 5),by go_simp,⟨⟨_,zA _ _⟩,rfl⟩,?_⟩;refine zWe ?_;rintro _ ⟨s4,rfl⟩;have R1:=(hK8.out s1.w).keep s4.h;obtain⟨p3,q3,rfl,r3⟩:=k3.rd;have R2:=((r3.keep s1.h).keep (zA _ (.cells #[.int .u8 (a.1 % 256)] 5))).keep s4.h;have BW:=yn (yn (yn (yn s2.h hb3) s1.h) (zA _ (.cells #[.int .u8 (a.1 % 256)] 5))) s4.h;generalize s4.w=W at *;generalize s1.w.heap.size=g8 at *;clear s4 s1 k3 r3 hb3 s2 hne
  all_goals
    simp only[yd,ye];have R3:=hr.keep BW
    have KJ:Hid (Calls prog 202 #[.slice (some ⟨W.heap.size,0,none⟩) 3 3] (W.alloc (.cells #[.slice (some ⟨g8,0,none⟩) 1 1,.slice p3 3 q3,.slice p a.2.length q] 22)) fun e w'=>∃ u,e=.returned u∧Own w' (W.heap.size+1) u (zD6 a.1 a.2)∧Below (W.alloc (.cells #[.slice (some ⟨g8,0,none⟩) 1 1,.slice p3 3 q3,.slice p a.2.length q] 22)).heap.size (W.alloc (.cells #[.slice (some ⟨g8,0,none⟩) 1 1,.slice p3 3 q3,.slice p a.2.length q] 22)) w'):=by
      have h:=zLM [⟨some ⟨g8,0,none⟩,1,[zBl a.1]⟩,⟨p3,q3,putB a.2.length 3⟩,⟨p,q,a.2⟩] W.heap.size 0 3 _ (zFc W ⟨some ⟨g8,0,none⟩,1,[zBl a.1]⟩ ⟨p3,q3,putB a.2.length 3⟩ ⟨p,q,a.2⟩ 22 R1 R2 R3) (by rw[zCG];simp[zP];omega) (by simp);rw[zCG,show [zBl a.1]++putB a.2.length 3++a.2=zD6 a.1 a.2 from rfl,zB] at h;rw[zB];exact h
    have HPL:Hid ((putB a.2.length 3).length=3):=zP _ _;rw[HPL.out];clear C0 C1 R1 R2 R3 c0 c1
    go_simp
    go_wp2_with fail;refine KJ.out.mono ?_;rintro e w9 ⟨u9,rfl,k9,hb9⟩;have BW9:=yn (yt BW _) hb9;have k9':=k9.lower (B':=w.heap.size) (by have:=BW.size;omega);go_wp2_with fail;go_ret;exact⟨_,rfl,k9',BW9⟩
theorem zFe (l:List MsgD) (p:Option Addr) (q:Nat) (w:World) (hr:RdL msgC w p q l) (h1:∀ a∈l,a.2.length≤10000) (h2:(zG l).length≤1000000):
    Calls prog 128 #[.slice p l.length q] w fun e w'=>∃ u,e=.returned u∧Own w' w.heap.size u (zG l)∧Below w.heap.size w w':=by
  have HR:Hid (RdL msgC w p q l):=hr;have H1:Hid (∀ a∈l,a.2.length≤10000):=h1;have H2:Hid ((zG l).length≤1000000):=h2;have hq1:l.length≤q:=hr.1;have hq2:q≤2 ^ 63-1:=hr.2.1;have O1:=zCL w w.heap.size (yf _);have BW:=zA w (.cells #[] 5);clear hr h1 h2;go_enter func128,ntmps128;go_wp2
  go_loopw [3,4] (fun v i wr=>∃ j:Nat,j≤l.length∧i=.int .i64 j∧Own wr w.heap.size v (zG (l.take j))∧Below w.heap.size w wr)
    (fun _ i _=>l.length-(intOf i).toNat)
  case atStart=>exact⟨0,Nat.zero_le _,rfl,O1,BW⟩
  case round=>
    clear O1 BW;obtain⟨j,hj,rfl,ho,BW⟩:=hrel;obtain⟨po,qo,rfl,-⟩:=ho.rd
    by_cases hlt:j<l.length
    · have hI:(j:Int)<(l.length:Int):=by omega
      obtain⟨b,o,e1,hc⟩:=(HR.out.keep BW).2.2.2 (by omega);subst e1;obtain⟨a,ha⟩:∃ a,l[j]?=some a:=⟨l[j],by simp[hlt]⟩;obtain⟨us,hrep,hcell⟩:=hc j a ha;obtain⟨pa,qa,rfl,ra⟩:=zAc hrep;have c0:=hcell 0 _ rfl;have c1:=hcell 1 _ rfl;rw[show msgC.n=2 from rfl] at c0 c1;rw[Nat.add_zero] at c0;have HT:Hid (zG (l.take (j+1))=zG (l.take j)++zD6 a.1 a.2):=zHH ha
      have HLe:Hid ((zG (l.take j)).length+(zD6 a.1 a.2).length≤1000000):=by have h:=zGD l (j+1);rw[HT.out,List.length_append] at h;have:=H2.out;show _≤_;omega
      have KP:Hid (Calls prog 172 #[.pointer (some ⟨b,o+j*2,none⟩)] wr fun e w'=>∃ u,e=.returned u∧Own w' wr.heap.size u (zD6 a.1 a.2)∧Below wr.heap.size wr w'):=zLN b (o+j*2) qa pa a wr c0 c1 ra (H1.out a (List.mem_of_getElem? ha));obtain⟨fs,hfs⟩:∃ fs,Hid (fs=zG (l.take j)):=⟨_,rfl⟩;rw[← hfs.out] at ho HT HLe ⊢;obtain⟨pw,hpw⟩:∃ pw,Hid (pw=zD6 a.1 a.2):=⟨_,rfl⟩;rw[← hpw.out] at KP HT HLe;clear hc hcell hrep c0 c1;go_wp2_with fail;refine KP.out.mono ?_;rintro e w2 ⟨u2,rfl,k2,hb2⟩;have ho2:=ho.stay hb2;have BW2:=yn BW hb2;obtain⟨p2,q2,rfl,r2⟩:=k2.rd;clear ho hb2 BW;go_wp2_with (at_builtin;refine zK rfl (.tmp 12) (.tmp 16) rfl w.heap.size _ fs rfl ho2 p2 q2 pw rfl r2 (by have:=HLe.out;omega) BW2.size ?_;intro v3 w3 k3 hg3);have BW3:=BW2.grown hg3 BW2.size (fun k hk=>ho2.ge k hk);rw[← HT.out] at k3;clear ho2 hg3;go_roundw
      case rel=>exact⟨j+1,by omega,by go_num,k3,BW3⟩
      case measure=>simp[intOf];omega
    · have e:j=l.length:=by omega
      subst e;rw[List.take_length] at ho ⊢;go_wp2;go_ret;exact⟨_,rfl,ho,BW⟩
theorem zLO (l:List MsgD) (p:Option Addr) (q:Nat) (w:World) (hr:RdL msgC w p q l):
    Calls prog 200 #[.slice p l.length q] w fun e w'=>∃ u,e=.returned (.agg #[.int .i64 (psC l),u])∧Own w' w.heap.size u (psL l)∧Below w.heap.size w w':=by
  have HR:Hid (RdL msgC w p q l):=hr;have hq1:l.length≤q:=hr.1;have hq2:q≤2 ^ 63-1:=hr.2.1;have A0:=yr w [.int .i64 0,.slice none 0 0] 129;have B0:=zA w (.cells #[.int .i64 0,.slice none 0 0] 129);have HC:Hid (psC l=if l.length≤12 then (if zAJ l=0 then (if (zG l).length≤600 then 0 else 2) else zAJ l) else 2):=rfl;have HPL:Hid (psL l=if psC l=0 then zG l else []):=rfl;clear hr
  by_cases hl:l.length≤12
  · have hlI:¬ (12<(l.length:Int)):=by omega
    go_enter func200,ntmps200;go_wp2_with fail
    go_loopw [3] (fun i wr=>∃ k:Nat,k≤l.length∧i=.int .i64 k∧(∀ (j:Nat) (b:Int×List UInt8),j<k→l[j]?=some b→zF b.1 b.2.length=0)∧Arr wr w.heap.size 129 [.int .i64 0,.slice none 0 0]∧Below w.heap.size w wr)
      (fun i _=>l.length-(intOf i).toNat)
    case atStart=>exact⟨0,Nat.zero_le _,rfl,fun j b hj=>absurd hj (Nat.not_lt_zero _),A0,B0⟩
    case round=>
      clear A0 B0;obtain⟨k,hk,rfl,hall,A,BW⟩:=hrel
      by_cases hlt:k<l.length
      · have hI:(k:Int)<(l.length:Int):=by omega
        obtain⟨b,o,e1,hc⟩:=(HR.out.keep BW).2.2.2 (by omega);subst e1;obtain⟨a,ha⟩:∃ a,l[k]?=some a:=⟨l[k],by simp[hlt]⟩;obtain⟨us,hrep,hcell⟩:=hc k a ha;obtain⟨pa,qa,rfl,ra⟩:=zAc hrep;have c0:=hcell 0 _ rfl;have c1:=hcell 1 _ rfl;rw[show msgC.n=2 from rfl] at c0 c1;rw[Nat.add_zero] at c0;have KF:Hid (Calls prog 116 #[.pointer (some ⟨b,o+k*2,none⟩)] wr fun e w'=>e=.returned (.int .i64 (zF a.1 a.2.length))∧w'=wr):=zED b (o+k*2) a.2.length qa pa a.1 wr c0 c1;have r0:=A.cell 0;have r1:=A.cell 1;have fz:=A.frozen;simp at r0 r1;clear hc hcell hrep c0 c1
        by_cases hf:zF a.1 a.2.length=0
        · have hall2:Hid (∀ (j:Nat) (b:Int×List UInt8),j<k+1→l[j]?=some b→zF b.1 b.2.length=0):=fun j b hj hb=>by
            by_cases h:j<k
            · exact hall j b h hb
            · rw[show j=k by omega,ha] at hb;cases hb;exact hf
          rw[hf] at KF;clear hf hall;go_wp2_with fail;refine KF.out.mono ?_;rintro e w2 ⟨rfl,hw⟩;subst hw;go_wp2_with fail;go_roundw
          case rel=>exact⟨k+1,by omega,by go_num,hall2.out,A,BW⟩
          case measure=>simp[intOf];omega
        · have hFF:Hid (zAJ l=zF a.1 a.2.length):=zFS ha hall hf
          have hps:Hid (psC l=zF a.1 a.2.length):=by show _=_;rw[HC.out,if_pos hl,if_neg (by rw[hFF.out];exact hf),hFF.out]
          have hpl:Hid (psL l=[]):=by show _=_;rw[HPL.out,if_neg (by rw[hps.out];exact hf)]
          obtain⟨fc,hfc⟩:∃ fc,Hid (zF a.1 a.2.length=fc):=⟨_,rfl⟩
          have hz:(fc != 0)=true:=by rw[bne_iff_ne,← hfc.out];exact hf
          rw[hfc.out] at KF hps;clear hf hall hFF;go_wp2_with fail;refine KF.out.mono ?_;rintro e w2 ⟨rfl,hw⟩;subst hw;go_wp2_with fail;exact bodyPost_ret (v:=.agg #[.int .i64 fc,.slice none 0 0]) (by simp[results,results200,go_sem,r0,r1]) rfl ⟨_,by rw[hps.out],by rw[hpl.out];exact zO _ _,(BW.setCell (yf _) _).setCell (yf _) _⟩
      · have e:k=l.length:=by omega
        subst e
        have hF0:Hid (zAJ l=0):=zCm fun j b hb=>hall j b (List.getElem?_eq_some_iff.1 hb).1 hb
        have hfa:=zAw hF0.out
        have hle:Hid ((zG l).length≤1000000):=by
          have h1:∀ (m:List (Int×List UInt8)),(∀ a∈m,zF a.1 a.2.length=0)→(zG m).length≤164*m.length:=fun m=>by
            induction m with
            | nil=>intro _;simp[zG]
            | cons a m ih=>
              intro h;rw[zB0,List.length_append,zDB,List.length_cons];have h2:=(zAx (h a List.mem_cons_self)).2
              have h3:=ih fun b hb=>h b (List.mem_cons_of_mem _ hb)
              omega
          have h4:=h1 l hfa
          show _≤_
          omega
        have KA:Hid (Calls prog 128 #[.slice p l.length q] wr fun e w'=>∃ u,e=.returned u∧Own w' wr.heap.size u (zG l)∧Below wr.heap.size wr w'):=zFe l p q wr (HR.out.keep BW) (fun a ha=>by have:=(zAx (hfa a ha)).2;omega) hle.out;clear hall hfa;go_wp2_with fail;refine KA.out.mono ?_;rintro e w2 ⟨u2,rfl,k2,hb2⟩;have A2:=A.stay hb2;have BW2:=yn BW hb2;have hlt2:Hid (w.heap.size<wr.heap.size):=A.lt;obtain⟨p2,q2,rfl,-⟩:=k2.rd;have r0:=A2.cell 0;have r1:=A2.cell 1;have fz:=A2.frozen;simp at r0 r1
        by_cases h6:(zG l).length≤600
        · have hps:Hid (psC l=0):=by show _=_;rw[HC.out,if_pos hl,if_pos hF0.out,if_pos h6]
          have hpl:Hid (psL l=zG l):=by show _=_;rw[HPL.out,if_pos hps.out]
          generalize zG l=pa at *
          have h6I:¬ (600<(pa.length:Int)):=by omega
          clear A A2 BW hb2 KA;go_wp2_with fail;refine bodyPost_ret (v:=.agg #[.int .i64 0,.slice p2 pa.length q2]) (by simp[results,results200,go_sem,r0,r1]) rfl ⟨_,by rw[hps.out],?_,(BW2.setCell (yf _) _).setCell (yf _) _⟩;rw[hpl.out];exact((k2.set (a:=⟨w.heap.size,0,none⟩) hlt2.out _).set (a:=⟨w.heap.size,1,none⟩) hlt2.out _).lower (B':=w.heap.size) (Nat.le_of_lt hlt2.out)
        · have hps:Hid (psC l=2):=by show _=_;rw[HC.out,if_pos hl,if_pos hF0.out,if_neg h6]
          have hpl:Hid (psL l=[]):=by show _=_;rw[HPL.out,if_neg (by rw[hps.out];decide)]
          generalize zG l=pa at *
          have h6I:600<(pa.length:Int):=by omega
          clear A A2 BW hb2 KA;go_wp2_with fail;exact bodyPost_ret (v:=.agg #[.int .i64 2,.slice none 0 0]) (by simp[results,results200,go_sem,r0,r1]) rfl ⟨_,by rw[hps.out],by rw[hpl.out];exact zO _ _,(BW2.setCell (yf _) _).setCell (yf _) _⟩
  · have hlI:12<(l.length:Int):=by omega
    have hps:Hid (psC l=2):=by show _=_;rw[HC.out,if_neg hl]
    have hpl:Hid (psL l=[]):=by show _=_;rw[HPL.out,if_neg (by rw[hps.out];decide)]
    go_enter func200,ntmps200;go_wp2;exact bodyPost_ret (v:=.agg #[.int .i64 2,.slice none 0 0]) (by simp[results,results200,go_sem]) rfl ⟨_,by rw[hps.out],by rw[hpl.out];exact zO _ _,zA _ _⟩
end Go.Proofs.YtiabacnmmojfjaaGreatDoor
