import Derived.Test.YtiabacnmmojfjaaGreatDoorJoint12
import Derived.Handy
import Derived.Test.YtiabacnmmojfjaaGreatDoorJoint1
import Derived.Test.YtiabacnmmojfjaaGreatDoorJoint7
set_option maxHeartbeats 2000000
set_option maxRecDepth 4000
open Go.Proofs.Tryz
namespace Go.Proofs.YtiabacnmmojfjaaGreatDoor
open Go.ChangeShapes Go.WideShapes Go.ChangeAt Go.RowKit
theorem zAZ (p:Option Addr) (q:Nat) (bs:List UInt8) (w:World) (hr:Rd w p q bs) (hl:bs.length≤1000000):
    Calls prog 179 #[.slice p bs.length q] w fun e w'=>∃ u,e=.returned u∧Own w' w.heap.size u bs∧Below w.heap.size w w':=by
  cases p with
  | none=>
    have hq:=hr.2.2.1 rfl;have hb:bs=[]:=List.eq_nil_of_length_eq_zero (by have:=hr.1;omega);subst hb hq
    have hnil:∀ w,(Go.binOp .eql 22 (.slice none 0 0) (.slice none 0 0)).run prog w=.ok (.bool true) w:=by intro w;kernel_rfl
    go_enter func179,ntmps179;go_wp2;go_ret;exact⟨_,rfl,zO _ _,Below.refl _ _⟩
  | some ad=>
    have hnil:∀ w,(Go.binOp .eql 22 (.slice (some ad) bs.length q) (.slice none 0 0)).run prog w=.ok (.bool false) w:=by intro w;kernel_rfl
    have hr2:=hr.keep (zA w (Obj.cells #[] 5));have ho:=zCL w w.heap.size (yf _);go_enter func179,ntmps179;go_wp2_with (at_builtin;refine zK rfl (.tmp 5) (.tmp 6) rfl w.heap.size _ [] rfl ho (some ad) q bs rfl hr2 (by simp;omega) (by simp) ?_;intro v' w' ho' hg');have RB:=(zA w (Obj.cells #[] 5)).grown hg' (by simp) (fun k hk=>ho.ge k hk);go_ret;exact⟨_,rfl,ho',RB⟩
theorem zFL (k:Int) (n q:Nat) (p:Option Addr) (w:World):
    Calls prog 44 #[.agg #[.int .i64 k,.slice p n q]] w fun e w'=>e=.returned (.int .i64 (zF k n))∧Below w.heap.size w w':=by
  by_cases h0:k<0
  · rw [show zF k n = 3 by have h:inB k 0 255=false:=by simp[inB];omega
                           simp[zF,h]]
    go_enter func44,ntmps44;go_wp2;go_ret;exact⟨rfl,zA _ _⟩
  · by_cases h1:255<k
    · rw [show zF k n = 3 by have h:inB k 0 255=false:=by simp[inB];omega
                             simp[zF,h]]
      go_enter func44,ntmps44;go_wp2;go_ret;exact⟨rfl,zA _ _⟩
    · have hin:inB k 0 255=true:=by simp[inB];omega
      by_cases hn:n≤160
      · rw[show zF k n=0 by simp[zF,hin,hn]]
        have hnI:¬ (160<(n:Int)):=by omega
        clear hin;go_enter func44,ntmps44;go_wp2;go_ret;exact⟨rfl,zA _ _⟩
      · rw[show zF k n=2 by simp[zF,hin,hn]]
        have hnI:160<(n:Int):=by omega
        clear hin;go_enter func44,ntmps44;go_wp2;go_ret;exact⟨rfl,zA _ _⟩
theorem zJS (k:Int) (n q:Nat) (p:Option Addr) (w:World):
    Calls prog 249 #[.agg #[.int .i64 k,.slice p n q]] w fun e w'=>e=.returned (.int .i64 (zF k n))∧Below w.heap.size w w':=by
  go_enter func249,ntmps249;go_wp2_with fail;refine(zFL k n q p _).mono ?_;rintro e w' ⟨rfl,hb⟩;have BW:=yn (zA w (.cells #[.int .i64 k,.slice p n q] 201)) hb;go_wp2;go_ret;exact⟨rfl,BW⟩
theorem zE6 (k:Int) (n q:Nat) (p:Option Addr) (w:World):
    Calls prog 248 #[.agg #[.int .i64 k,.slice p n q]] w fun e w'=>e=.returned (.slice p n q)∧Below w.heap.size w w':=by
  go_enter func248,ntmps248;go_wp2;go_ret;exact⟨rfl,zA _ _⟩
theorem zE7 (n q:Nat) (p:Option Addr) (w:World):
    Calls prog 250 #[.slice p n q] w fun e w'=>e=.returned (.slice p n q)∧Below w.heap.size w w':=by
  go_enter func250,ntmps250;go_wp2;go_ret;exact⟨rfl,Below.refl _ _⟩
def blkF (n:Nat):Int:=if n≤120 then 0 else 2
theorem zJT (n q:Nat) (p:Option Addr) (w:World):
    Calls prog 251 #[.slice p n q] w fun e w'=>e=.returned (.int .i64 (blkF n))∧Below w.heap.size w w':=by
  by_cases hn:n≤120
  · rw[show blkF n=0 by simp[blkF,hn]]
    have hnI:¬ (120<(n:Int)):=by omega
    go_enter func251,ntmps251;go_wp2;go_ret;exact⟨rfl,Below.refl _ _⟩
  · rw[show blkF n=2 by simp[blkF,hn]]
    have hnI:120<(n:Int):=by omega
    go_enter func251,ntmps251;go_wp2;go_ret;exact⟨rfl,Below.refl _ _⟩
structure Pi where
  m:Bool
  k:Int
  p:Option Addr
  q:Nat
  bs:List UInt8
def Pi.val (x:Pi):Value:=if x.m then .iface 201 (.agg #[.int .i64 x.k,.slice x.p x.bs.length x.q]) else .iface 232 (.slice x.p x.bs.length x.q)
def Pi.fc (x:Pi):Int:=if x.m then zF x.k x.bs.length else blkF x.bs.length
def Pi.hd (x:Pi):List UInt8:=if x.m then zBl x.k :: putB x.bs.length 3 else [zBl (x.bs.length:Int)]
def Pi.out (x:Pi):List UInt8:=x.hd++x.bs
theorem zLP (k:Int) (n q:Nat) (p:Option Addr) (w:World) (hn:n≤160):
    Calls prog 215 #[.iface 201 (.agg #[.int .i64 k,.slice p n q])] w fun e w'=>∃ u,e=.returned u∧Own w' w.heap.size u (zBl k :: putB n 3)∧Below w.heap.size w w':=by
  have hnI:(n:Int)≤160:=by omega
  go_enter func215,ntmps215;go_wp2_with fail;refine(zE6 k n q p _).mono ?_;rintro e w1 ⟨rfl,hb⟩
  have hty:∀ w,(Instr.typeAssert (.iface 201 (.agg #[.int .i64 k,.slice p n q])) 203 201 true).run prog w=.ok (.tuple #[.agg #[.int .i64 k,.slice p n q],.bool true]) w:=by intro w;kernel_rfl
  have HV:Hid ([Value.int .u8 (k % 256),.int .u8 ((n:Int) / 65536),.int .u8 ((n:Int) / 256),.int .u8 (n:Int)]=(zBl k :: putB n 3).map u8v):=by
    show _=_
    have e4:putB n 3=[UInt8.ofNat (n / 65536 % 256),UInt8.ofNat (n / 256 % 256),UInt8.ofNat (n / 1 % 256)]:=rfl;rw[e4];simp only[List.map_cons,List.map_nil,u8v,zDA,UInt8.toNat_ofNat'];simp only[yj,Value.int.injEq,true_and,and_true];omega
  have HO:Hid (Own ((w1.alloc (.cells #[.int .i64 k,.slice p n q] 201)).alloc (.cells #[.int .u8 (k % 256),.int .u8 ((n:Int) / 65536),.int .u8 ((n:Int) / 256),.int .u8 (n:Int)] 5)) w.heap.size (.slice (some ⟨w1.heap.size+1,0,none⟩) 4 4) (zBl k :: putB n 3)):=by
    have hA:=yr (w1.alloc (.cells #[.int .i64 k,.slice p n q] 201)) [Value.int .u8 (k % 256),.int .u8 ((n:Int) / 65536),.int .u8 ((n:Int) / 256),.int .u8 (n:Int)] 5;rw[HV.out,zB] at hA;have h:=hA.own (B:=w.heap.size) (by have:=hb.size;omega) (by simp[zP]);rw[← HV.out,show(zBl k :: putB n 3).length=4 by simp[zP]] at h;exact h
  have BW:=yt (yt hb (.cells #[.int .i64 k,.slice p n q] 201)) (.cells #[.int .u8 (k % 256),.int .u8 ((n:Int) / 65536),.int .u8 ((n:Int) / 256),.int .u8 (n:Int)] 5);clear HV;go_wp2_with fail;go_ret;exact⟨_,rfl,HO.out,BW⟩
theorem zLQ (n q:Nat) (p:Option Addr) (w:World) (hn:n≤160):
    Calls prog 215 #[.iface 232 (.slice p n q)] w fun e w'=>∃ u,e=.returned u∧Own w' w.heap.size u [zBl (n:Int)]∧Below w.heap.size w w':=by
  have hnI:(n:Int)≤160:=by omega
  have hty:∀ w,(Instr.typeAssert (.iface 232 (.slice p n q)) 203 201 true).run prog w=.ok (.tuple #[.agg #[.int .i64 0,.slice none 0 0],.bool false]) w:=by intro w;kernel_rfl
  have hty2:∀ w,(Instr.typeAssert (.iface 232 (.slice p n q)) 203 232 true).run prog w=.ok (.tuple #[.slice p n q,.bool true]) w:=by intro w;kernel_rfl
  go_enter func215,ntmps215;go_wp2_with fail;refine(zE7 n q p _).mono ?_;rintro e w1 ⟨rfl,hb⟩
  have HV:Hid ([Value.int .u8 (n:Int)]=[zBl (n:Int)].map u8v):=by
    show _=_
    simp only[List.map_cons,List.map_nil,u8v,zDA]
    congr 2;omega
  have HO:Hid (Own (w1.alloc (.cells #[.int .u8 (n:Int)] 5)) w.heap.size (.slice (some ⟨w1.heap.size,0,none⟩) 1 1) [zBl (n:Int)]):=by
    have hA:=yr w1 [Value.int .u8 (n:Int)] 5;rw[HV.out] at hA;have h:=hA.own (B:=w.heap.size) hb.size (by simp);rw[← HV.out] at h;exact h
  have BW:=yt hb (.cells #[.int .u8 (n:Int)] 5);clear HV;go_wp2_with fail;go_ret;exact⟨_,rfl,HO.out,BW⟩
theorem Pi.fc_len {x:Pi} (h:x.fc=0):x.bs.length≤160:=by
  unfold Pi.fc at h;split at h
  · exact(zAx h).2
  · unfold blkF at h;split at h
    · omega
    · cases h
theorem zLR (x:Pi) (w:World) (hn:x.bs.length≤160):
    Calls prog 215 #[x.val] w fun e w'=>∃ u,e=.returned u∧Own w' w.heap.size u x.hd∧Below w.heap.size w w':=by
  obtain⟨m,k,p,q,bs⟩:=x;cases m
  · exact zLQ bs.length q p w hn
  · exact zLP k bs.length q p w hn
def Pis (w:World) (b o:Nat) (ps:List Pi):Prop:=∀ i x,ps[i]?=some x→w.cell? ⟨b,o+i,none⟩=some x.val∧Rd w x.p x.q x.bs
theorem Pis.keep {w w':World} {b o:Nat} {ps:List Pi} (h:Pis w b o ps) (hb:Below w.heap.size w w'):Pis w' b o ps:=fun i x hx=>
  ⟨(hb.cell (p:=⟨b,o+i,none⟩) (World.block_lt_of_cell? w _ (h i x hx).1)).trans (h i x hx).1,(h i x hx).2.keep hb⟩
def pisF:List Pi→Int
  | []=>0
  | x :: l=>if x.fc=0 then pisF l else x.fc
def pisO (l:List Pi):List UInt8:=l.flatMap Pi.out
theorem zMx {l:List Pi} {k:Nat} {a:Pi} (h:l[k]?=some a) (hz:∀ (j:Nat) (b:Pi),j<k→l[j]?=some b→b.fc=0) (hn:¬ a.fc=0):pisF l=a.fc:=by
  induction l generalizing k with
  | nil=>simp at h
  | cons b l ih=>
    cases k with
    | zero=>simp at h;subst h;rw[pisF,if_neg hn]
    | succ k=>
      rw[pisF,if_pos (hz 0 b (by omega) rfl)]
      exact ih (by simpa using h) fun j c hj hc=>hz (j+1) c (by omega) (by simpa using hc)
theorem zKE {l:List Pi}:(∀ (j:Nat) (b:Pi),l[j]?=some b→b.fc=0)→pisF l=0:=by
  induction l with
  | nil=>intro _;rfl
  | cons b l ih=>intro h;rw[pisF,if_pos (h 0 b rfl)];exact ih fun j c hc=>h (j+1) c (by simpa using hc)
theorem zKF {l:List Pi} {k:Nat} {a:Pi} (h:l[k]?=some a):pisO (l.take (k+1))=pisO (l.take k)++a.out:=by
  rw[List.take_add_one,h];simp[pisO]
theorem Pi.out_len {x:Pi} (h:x.bs.length≤160):x.out.length≤164:=by
  unfold Pi.out Pi.hd
  split <;> simp[zP] <;> omega
theorem zKG:∀ {l:List Pi},(∀ x∈l,x.bs.length≤160)→(pisO l).length≤164*l.length
  | [],_=>by simp[pisO]
  | x :: l,h=>by
    have h1:=zKG (l:=l) (fun y hy=>h y (List.mem_cons_of_mem _ hy));have h2:=Pi.out_len (h x List.mem_cons_self);simp only[pisO,List.flatMap_cons,List.length_append,List.length_cons] at h1 ⊢;omega
def pkC (l:List Pi) (top:Nat):Int:=if pisF l=0 then (if (pisO l).length≤top then 0 else 2) else pisF l
def pkL (l:List Pi) (top:Nat):List UInt8:=if pkC l top=0 then pisO l else []
theorem zKH {l:List Pi} {top:Nat} (h:¬ pisF l=0):pkC l top=pisF l∧pkL l top=[]:=by
  have e:pkC l top=pisF l:=by rw[pkC,if_neg h]
  exact⟨e,by rw[pkL,e,if_neg h]⟩
theorem zNf {l:List Pi} {top:Nat} (h:pisF l=0) (h2:(pisO l).length≤top):pkC l top=0∧pkL l top=pisO l:=by
  have e:pkC l top=0:=by rw[pkC,if_pos h,if_pos h2]
  exact⟨e,by rw[pkL,e,if_pos rfl]⟩
theorem zLS {l:List Pi} {top:Nat} (h:pisF l=0) (h2:¬ (pisO l).length≤top):pkC l top=2∧pkL l top=[]:=by
  have e:pkC l top=2:=by rw[pkC,if_pos h,if_neg h2]
  exact⟨e,by rw[pkL,e,if_neg (by decide)]⟩
theorem zIn (ps:List Pi) (b o cap top:Nat) (w:World) (hp:Pis w b o ps) (hl:ps.length≤12) (ht:top≤600):
    Calls prog 193 #[.slice (some ⟨b,o,none⟩) ps.length cap,.int .i64 top] w fun e w'=>∃ u,e=.returned (.agg #[.int .i64 (pkC ps top),u])∧Own w' w.heap.size u (pkL ps top)∧Below w.heap.size w w':=by
  have HP:Hid (Pis w b o ps):=hp;have A0:=yr w [.int .i64 0,.slice none 0 0] 129;have B0:=zA w (.cells #[.int .i64 0,.slice none 0 0] 129)
  have hlI:(ps.length:Int)≤12:=by omega
  have htI:(top:Int)≤600:=by omega
  obtain⟨pc,HPC⟩:∃ pc,Hid (pc=pkC ps top):=⟨_,rfl⟩;obtain⟨pl,HPL⟩:∃ pl,Hid (pl=pkL ps top):=⟨_,rfl⟩;rw[← HPC.out,← HPL.out];clear hp;go_enter func193,ntmps193;go_wp2_with fail
  go_loopw [13] (fun i wr=>∃ j:Nat,j≤ps.length∧i=.int .i64 j∧(∀ (h:Nat) (x:Pi),h<j→ps[h]?=some x→x.fc=0)∧Arr wr w.heap.size 129 [.int .i64 0,.slice none 0 0]∧Below w.heap.size w wr)
    (fun i _=>ps.length-(intOf i).toNat)
  case atStart=>exact⟨0,Nat.zero_le _,rfl,fun h x hh _=>absurd hh (Nat.not_lt_zero _),A0,B0⟩
  case round=>
    clear A0 B0;obtain⟨j,hj,rfl,hz,A,BW⟩:=hrel;have HZ:Hid (∀ (h:Nat) (x:Pi),h<j→ps[h]?=some x→x.fc=0):=hz;clear hz
    by_cases hlt:j<ps.length
    · have hI:(j:Int)<(ps.length:Int):=by omega
      obtain⟨x,hx⟩:∃ x,Hid (ps[j]?=some x):=⟨ps[j],by show _=_;simp[hlt]⟩;have hcx:=(HP.out.keep BW j x hx.out).1;obtain⟨fc,HF⟩:∃ fc,Hid (fc=x.fc):=⟨_,rfl⟩;obtain⟨m,k,xp,xq,xb⟩:=x;cases m
      case' false=>
        have HF2:Hid (blkF xb.length=fc):=HF.out.symm;simp only[Pi.val,Bool.false_eq_true,if_false] at hcx;go_wp2_with fail;refine(zJT xb.length xq xp _).mono ?_
      case' true=>
        have HF2:Hid (zF k xb.length=fc):=HF.out.symm;simp only[Pi.val,if_true] at hcx;go_wp2_with fail;refine(zJS k xb.length xq xp _).mono ?_
      all_goals
        rintro e w2 ⟨rfl,hb⟩;rw[HF2.out];have A2:=A.stay hb;have BW2:=yn BW hb;clear A BW hb hcx HF2
        by_cases hf:fc=0
        · have HZ2:Hid (∀ (h:Nat) (x:Pi),h<j+1→ps[h]?=some x→x.fc=0):=fun h y hh hy=>by
            by_cases e:h=j
            · subst e;rw[hx.out] at hy;cases hy;rw[← HF.out];exact hf
            · exact HZ.out h y (by omega) hy
          clear HF HZ hx;subst hf;go_wp2_with fail;go_roundw
          case rel=>exact⟨j+1,by omega,by go_num,HZ2.out,A2,BW2⟩
          case measure=>simp[intOf];omega
        · have hz:(fc != 0)=true:=by rw[bne_iff_ne];exact hf
          have HC:Hid (pc=fc∧pl=[]):=by
            have h:=zMx hx.out HZ.out (by rw[← HF.out];exact hf);rw[← HF.out] at h;have h2:=zKH (top:=top) (l:=ps) (by rw[h];exact hf);rw[h,← HPC.out,← HPL.out] at h2;exact h2
          have c0:=A2.cell 0;have c1:=A2.cell 1;have fz:=A2.frozen;simp at c0 c1;clear HF HZ hx A2 hf;go_wp2_with fail;exact bodyPost_ret (v:=.agg #[.int .i64 fc,.slice none 0 0]) (by simp[results,results193,go_sem,c0,c1]) rfl ⟨_,by rw[HC.out.1],by rw[HC.out.2];exact zO _ _,(BW2.setCell (yf _) _).setCell (yf _) _⟩
    · have e:j=ps.length:=by omega
      subst e
      have HALL:Hid (pisF ps=0):=zKE fun h x hx=>HZ.out h x (List.getElem?_eq_some_iff.1 hx).1 hx
      have HB:Hid (∀ x∈ps,x.bs.length≤160):=fun x hx=>by
        obtain⟨i,hi,rfl⟩:=List.mem_iff_getElem.1 hx;exact Pi.fc_len (HZ.out i _ hi (by simp[hi]))
      clear HZ hlt;go_wp2_with fail
      go_loopw [8,26] (fun v i wr=>∃ j:Nat,j≤ps.length∧i=.int .i64 j∧Own wr (w.heap.size+1) v (pisO (ps.take j))∧Arr wr w.heap.size 129 [.int .i64 0,.slice none 0 0]∧Below w.heap.size w wr)
        (fun _ i _=>ps.length-(intOf i).toNat)
      case atStart=>exact⟨0,Nat.zero_le _,rfl,zO _ _,A,BW⟩
      case round=>
        clear A BW;obtain⟨j,hj,rfl,ho,A,BW⟩:=hrel
        by_cases hlt:j<ps.length
        · have hI:(j:Int)<(ps.length:Int):=by omega
          obtain⟨x,hx⟩:∃ x,Hid (ps[j]?=some x):=⟨ps[j],by show _=_;simp[hlt]⟩;have hcx:=(HP.out.keep BW j x hx.out).1;have HR:Hid (Rd wr x.p x.q x.bs):=(HP.out.keep BW j x hx.out).2;have hbl:Hid (x.bs.length≤160):=HB.out x (List.mem_of_getElem? hx.out);have HT:Hid (pisO (ps.take (j+1))=pisO (ps.take j)++(x.hd++x.bs)):=zKF hx.out
          have HLe:Hid ((pisO (ps.take j)).length≤2000):=by have h:=zKG (l:=ps.take j) (fun y hy=>HB.out y (List.mem_of_mem_take hy));rw[List.length_take] at h;show _≤_;omega
          have HHL:Hid (x.hd.length≤4):=by show _≤_;unfold Pi.hd;split <;> simp[zP]
          have KH:Hid (∀ W,Calls prog 215 #[x.val] W fun e w'=>∃ u,e=.returned u∧Own w' W.heap.size u x.hd∧Below W.heap.size W w'):=fun W=>zLR x W hbl.out
          obtain⟨fs,hfs⟩:∃ fs,Hid (fs=pisO (ps.take j)):=⟨_,rfl⟩;obtain⟨hd,hhd⟩:∃ hd,Hid (hd=x.hd):=⟨_,rfl⟩;rw[← hfs.out] at ho HT HLe;rw[← hhd.out] at HT HHL KH;obtain⟨po,qo,rfl,ro⟩:=ho.rd;obtain⟨m,k,xp,xq,xb⟩:=x;cases m
          case' false=>
            simp only[Pi.val,Bool.false_eq_true,if_false] at hcx KH;go_wp2_with fail;refine(KH.out _).mono ?_;rintro e w2 ⟨u2,rfl,k2,hb2⟩;obtain⟨p2,q2,rfl,r2⟩:=k2.rd;go_wp2_with fail;refine(zE7 xb.length xq xp _).mono ?_;rintro e w3 ⟨rfl,hb3⟩
          case' true=>
            simp only[Pi.val,if_true] at hcx KH;go_wp2_with fail;refine(KH.out _).mono ?_;rintro e w2 ⟨u2,rfl,k2,hb2⟩;obtain⟨p2,q2,rfl,r2⟩:=k2.rd;go_wp2_with fail;refine(zE6 k xb.length xq xp _).mono ?_;rintro e w3 ⟨rfl,hb3⟩
          all_goals
            have BW3:=yn (yn BW hb2) hb3;have A3:=(A.stay hb2).stay hb3;have R1:=(ro.keep hb2).keep hb3;have R2:=r2.keep hb3;have R3:=(HR.out.keep hb2).keep hb3
            have hz3:Hid (w.heap.size+1≤w3.heap.size):=by have:=A3.lt;show _≤_;omega
            have KJ:Hid (Calls prog 214 #[.slice (some ⟨w3.heap.size,0,none⟩) 3 3] (w3.alloc (.cells #[.slice po fs.length qo,.slice p2 hd.length q2,.slice xp xb.length xq] 22)) fun e w'=>∃ u,e=.returned u∧Own w' (w3.heap.size+1) u (fs++(hd++xb))∧Below (w3.alloc (.cells #[.slice po fs.length qo,.slice p2 hd.length q2,.slice xp xb.length xq] 22)).heap.size (w3.alloc (.cells #[.slice po fs.length qo,.slice p2 hd.length q2,.slice xp xb.length xq] 22)) w'):=by
              have h:=zFK [⟨po,qo,fs⟩,⟨p2,q2,hd⟩,⟨xp,xq,xb⟩] w3.heap.size 0 3 _ (zFc w3 ⟨po,qo,fs⟩ ⟨p2,q2,hd⟩ ⟨xp,xq,xb⟩ 22 R1 R2 R3) (by rw[zCG];have:=hbl.out;have:=HHL.out;have:=HLe.out;simp at *;omega) (by simp);rw[zCG,List.append_assoc,zB] at h;rw[zB];exact h
            have BW4:=yt BW3 (.cells #[.slice po fs.length qo,.slice p2 hd.length q2,.slice xp xb.length xq] 22);have A4:=A3.old _ (.cells #[.slice po fs.length qo,.slice p2 hd.length q2,.slice xp xb.length xq] 22);clear R1 R2 R3 k2 r2 hb2 hb3 A A3 BW BW3 ro ho hcx HR;go_wp2_with fail;refine KJ.out.mono ?_;rintro e w5 ⟨u5,rfl,k5,hb5⟩;have BW5:=yn BW4 hb5;have A5:=A4.stay hb5;have k5':=k5.lower (B':=w.heap.size+1) (by have:=hz3.out;omega);rw[← HT.out] at k5';clear KJ BW4 A4 hb5 k5;go_wp2_with fail;go_roundw
            case rel=>exact⟨j+1,by omega,by go_num,k5',A5,BW5⟩
            case measure=>simp[intOf];omega
        · have e:j=ps.length:=by omega
          subst e;rw[List.take_length] at ho;obtain⟨po,qo,rfl,-⟩:=ho.rd;have c0:=A.cell 0;have c1:=A.cell 1;have fz:=A.frozen;simp at c0 c1
          by_cases htp:(pisO ps).length≤top
          · have HC:Hid (pc=0∧pl=pisO ps):=by rw[HPC.out,HPL.out];exact zNf HALL.out htp
            have hbI:¬ ((top:Int)<((pisO ps).length:Int)):=by omega
            generalize pisO ps=out at *;clear HALL HB HP A HPC HPL;go_wp2_with fail;refine bodyPost_ret (v:=.agg #[.int .i64 0,.slice po out.length qo]) (by simp[results,results193,go_sem,c0,c1]) rfl ⟨_,by rw[HC.out.1],?_,(BW.setCell (yf _) _).setCell (yf _) _⟩;rw[HC.out.2];exact((ho.set (a:=⟨w.heap.size,0,none⟩) (yg _) _).set (a:=⟨w.heap.size,1,none⟩) (yg _) _).lower (B':=w.heap.size) (yh _)
          · have HC:Hid (pc=2∧pl=[]):=by rw[HPC.out,HPL.out];exact zLS HALL.out htp
            have hbI:(top:Int)<((pisO ps).length:Int):=by omega
            generalize pisO ps=out at *;clear HALL HB HP A HPC HPL;go_wp2_with fail;exact bodyPost_ret (v:=.agg #[.int .i64 2,.slice none 0 0]) (by simp[results,results193,go_sem,c0,c1]) rfl ⟨_,by rw[HC.out.1],by rw[HC.out.2];exact zO _ _,(BW.setCell (yf _) _).setCell (yf _) _⟩
end Go.Proofs.YtiabacnmmojfjaaGreatDoor
