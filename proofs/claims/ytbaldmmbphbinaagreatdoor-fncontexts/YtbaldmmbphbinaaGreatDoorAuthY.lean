import Derived.Test.YtbaldmmbphbinaaGreatDoorAuthX
import Derived.Test.YtbaldmmbphbinaaGreatDoorJoint22
import Derived.Test.YtbaldmmbphbinaaGreatDoorAuthJ
import Derived.Test.YtbaldmmbphbinaaGreatDoorJoint25
import Derived.Test.YtbaldmmbphbinaaGreatDoorJoint23
set_option maxHeartbeats 16000000
set_option maxRecDepth 4000
namespace Go.Proofs.YtbaldmmbphbinaaGreatDoor
open Go.ChangeShapes Go.WideShapes Go.ChangeAt Go.RowKit
def memC (l:List zH) (c:zH):Bool:=decide (c∈l)
theorem zJn {l:List zH} {k:Nat} {a:zH} (h:l[k]?=some a):memC l a=true:=by
  simp only[memC,decide_eq_true_eq];exact List.mem_of_getElem? h
theorem zJo {l:List zH} {k:Nat} {a c:zH} (h:l[k]?=some a):memC (l.take (k+1)) c=(memC (l.take k) c || decide (c=a)):=by
  obtain⟨hk,ha⟩:=List.getElem?_eq_some_iff.1 h;rw[List.take_succ_eq_append_getElem hk,ha];simp[memC,Bool.decide_or]
theorem zLS:∀ (t s:List zH),cgC s t=0→∀ (k:Nat) (a:zH),t[k]?=some a→hasC (s++t.take k) a.1=false
  | [],_,_,_,_,h=>by simp at h
  | c :: t,s,h0,k,a,h=>by
    unfold cgC at h0;cases h1:okC c
    · rw[h1] at h0;cases h0
    · rw[h1,if_pos rfl] at h0;cases h2:hasC s c.1
      · rw[h2] at h0
        match k,h with
        | 0,h=>
          simp only[List.getElem?_cons_zero,Option.some.injEq] at h;subst h
          simpa using h2
        | k+1,h=>
          have:=zLS t (s++[c]) h0 k a (by simpa using h)
          simpa using this
      · rw[h2] at h0;cases h0
theorem zLT {l:List zH} {c:zH} (h:ctC l=0):memC l c=true↔(hasC l c.1=true∧foC l c.1=c):=by
  constructor
  · intro hm;simp only[memC,decide_eq_true_eq] at hm;obtain⟨k,hk,e⟩:=List.getElem_of_mem hm
    have h1:l[k]?=some c:=by rw[List.getElem?_eq_getElem hk,e]
    have hcg:cgC [] l=0:=by
      unfold ctC at h;split at h
      · exact h
      · cases h
    have h2:=zLS l [] hcg k c h1;rw[List.nil_append] at h2;exact⟨zGo h1 rfl,zLI h1 h2 rfl⟩
  · rintro ⟨h1,h2⟩;obtain⟨k,h3,-⟩:=zJL h1;rw[h2] at h3;exact zJn h3
def cfN (x:List UInt8) (r:Int) (certs:List zH) (signs:List zO) (now:Int):Int:=if akC x r=0 then (if ctC certs=0 then (if sgC signs=0 then (if inB now 0 9999 then 0 else 3) else sgC signs) else ctC certs) else akC x r
theorem zMt {x:List UInt8} {r:Int} {certs:List zH} {signs:List zO} {now:Int} (h:cfN x r certs signs now=0):akC x r=0∧ctC certs=0∧sgC signs=0∧inB now 0 9999=true:=by
  unfold cfN at h
  by_cases h1:akC x r=0
  · rw[if_pos h1] at h
    by_cases h2:ctC certs=0
    · rw[if_pos h2] at h
      by_cases h3:sgC signs=0
      · rw[if_pos h3] at h;cases h4:inB now 0 9999
        · rw[h4] at h;cases h
        · exact⟨h1,h2,h3,rfl⟩
      · rw[if_neg h3] at h;exact absurd h h3
    · rw[if_neg h2] at h;exact absurd h h2
  · rw[if_neg h1] at h;exact absurd h h1
theorem zMK {x:List UInt8} {r:Int} {certs:List zH} {signs:List zO} {now:Int} {data:List UInt8} (h:cfN x r certs signs now≠0):caC x r certs signs now data=cfN x r certs signs now:=by
  unfold cfN at h ⊢;unfold caC
  by_cases h1:akC x r=0
  · rw[if_pos h1] at h ⊢;rw[if_pos h1]
    by_cases h2:ctC certs=0
    · rw[if_pos h2] at h ⊢;rw[if_pos h2]
      by_cases h3:sgC signs=0
      · rw[if_pos h3] at h ⊢;rw[if_pos h3];cases h4:inB now 0 9999
        · rfl
        · rw[h4] at h;exact absurd rfl h
      · rw[if_neg h3,if_neg h3]
    · rw[if_neg h2,if_neg h2]
  · rw[if_neg h1,if_neg h1]
def bnB (x:List UInt8) (r:Int) (signs:List zO) (a:zAq):Bool:=decide (ckA signs a.2.2.1 a.2.1.1 (dgN x r a.1 a.2.1)=true∧a.2.2.2=mcN x r a.1 a.2.1 a.2.2.1)
theorem zML {x:List UInt8} {r:Int} {signs:List zO} {data:List UInt8} {a:zAq} (hr:raR data=some a) (hk:akC x r=0) (hs:sgC signs=0):
    (ckB signs a.2.2.1 a.2.1.1 (dgN x r a.1 a.2.1)&&zAb (maD x r a.1 a.2.1 a.2.2.1).2 data)=bnB x r signs a:=by
  have hb:=zD3 hr
  have had:adC x r a.1 a.2.1=0:=by unfold adC;rw[if_pos hk,hb.1,hb.2.1];rfl
  cases hc:ckA signs a.2.2.1 a.2.1.1 (dgN x r a.1 a.2.1)
  · rw[show ckB signs a.2.2.1 a.2.1.1 (dgN x r a.1 a.2.1)=false by unfold ckB;rw[hc];simp,show bnB x r signs a=false by unfold bnB;rw[hc];simp];rfl
  · have hpl:0≤a.2.2.1∧a.2.2.1<signs.length:=by
      by_cases h:0≤a.2.2.1∧a.2.2.1<signs.length
      · exact h
      · rw[zGq h] at hc;cases hc
    have h40:=(sgC_all.1 hs).1
    have hma:maD x r a.1 a.2.1 a.2.2.1=(0,mkN x r a.1 a.2.1 a.2.2.1):=by
      have h0:maC x r a.1 a.2.1 a.2.2.1=0:=by unfold maC;rw[if_pos had,zBP hpl.1 (by omega)];rfl
      unfold maD;rw[if_pos h0]
    rw[show ckB signs a.2.2.1 a.2.1.1 (dgN x r a.1 a.2.1)=true by unfold ckB;rw[hc,hs];rfl,hma,Bool.true_and]
    by_cases hm:a.2.2.2=mcN x r a.1 a.2.1 a.2.2.1
    · rw[show bnB x r signs a=true by unfold bnB;rw[hc];simp[hm.symm]];rw[sameB_iff]
      show mkN x r a.1 a.2.1 a.2.2.1=data
      unfold mkN mkBl;rw[← hm];exact hb.2.2.2.2.2.2
    · rw[show bnB x r signs a=false by unfold bnB;simp[hm]];cases hsm:zAb (mkN x r a.1 a.2.1 a.2.2.1) data
      · rfl
      · exfalso
        have e:=sameB_iff.1 hsm;have h1:=zKc (x:=x) (r:=r) hb.1 hb.2.1 hb.2.2.1 hb.2.2.2.1;rw[e,hr] at h1;simp only[Option.some.injEq] at h1;exact hm (congrArg (fun y:zAq=>y.2.2.2) h1)
theorem zNO {x:List UInt8} {r:Int} {certs:List zH} {signs:List zO} {now:Int} {a:zAq} (hc:ctC certs=0):hkC x r certs signs now a=if memC certs a.2.1 then (if a.2.1.2.2<now then 9 else if bnB x r signs a then 0 else 7) else 4:=by
  unfold hkC
  by_cases h:hasC certs a.2.1.1=true∧foC certs a.2.1.1=a.2.1
  · rw[if_pos h,(zLT hc).2 h,if_pos rfl];unfold bnB;simp only[decide_eq_true_eq]
  · rw[if_neg h];cases hm:memC certs a.2.1
    · rfl
    · exact absurd ((zLT hc).1 hm) h
theorem zFc (c:zH) (W:World):(binOp .eql 62 (.agg #[.int .i64 c.1,.int .i64 c.2.1,.int .i64 c.2.2]) (.agg #[.int .i64 c.1,.int .i64 c.2.1,.int .i64 c.2.2])).run Tryz.prog W=.ok (.bool true) W:=by
  go_simp
theorem zEg {c d:zH} (h:¬ c=d) (W:World):(binOp .eql 62 (.agg #[.int .i64 c.1,.int .i64 c.2.1,.int .i64 c.2.2]) (.agg #[.int .i64 d.1,.int .i64 d.2.1,.int .i64 d.2.2])).run Tryz.prog W=.ok (.bool false) W:=by
  by_cases h1:c.1=d.1
  · by_cases h2:c.2.1=d.2.1
    · have h3:¬ c.2.2=d.2.2:=fun h3=>h (Prod.ext h1 (Prod.ext h2 h3))
      have e3:(c.2.2==d.2.2)=false:=by rw[beq_eq_false_iff_ne];exact h3
      rw[h1,h2];clear h h1 h2 h3
      go_simp
    · have e2:(c.2.1==d.2.1)=false:=by rw[beq_eq_false_iff_ne];exact h2
      rw[h1];clear h h1 h2
      go_simp
  · have e1:(c.1==d.1)=false:=by rw[beq_eq_false_iff_ne];exact h1
    clear h h1
    go_simp
theorem zK3 (l:List zH) (p:Option Addr) (q:Nat) (c:zH) (w:World) (hr:RdL certC w p q l):
    Calls Tryz.prog 97 #[.slice p l.length q,.agg #[.int .i64 c.1,.int .i64 c.2.1,.int .i64 c.2.2]] w fun e w'=>(∃ z:Int,e=.returned (.int .i64 z)∧decide (0≤z)=memC l c)∧Below w.heap.size w w':=by
  have HR:Hid (RdL certC w p q l):=hr;have hq1:l.length≤q:=hr.1;have hq2:q≤2 ^ 63-1:=hr.2.1;have BW:=zA w (.cells #[.int .i64 c.1,.int .i64 c.2.1,.int .i64 c.2.2] 62);have B:=Arr.new w [.int .i64 c.1,.int .i64 c.2.1,.int .i64 c.2.2] 62;clear hr;go_enter Tryz.func97,Tryz.ntmps97;go_wp2
  go_loopw [8] (fun i wr=>∃ k:Nat,k≤l.length∧i=.int .i64 k∧memC (l.take k) c=false∧Arr wr w.heap.size 62 [.int .i64 c.1,.int .i64 c.2.1,.int .i64 c.2.2]∧Below w.heap.size w wr)
    (fun i _=>l.length-(intOf i).toNat)
  case atStart=>exact⟨0,Nat.zero_le _,rfl,by simp[memC],B,BW⟩
  case round=>
    clear B BW;obtain⟨k,hk,rfl,hn,B,BW⟩:=hrel
    by_cases hlt:k<l.length
    · have hI:(k:Int)<(l.length:Int):=by omega
      obtain⟨b,o,e1,hc⟩:=(HR.out.keep BW).2.2.2 (by omega);subst e1;obtain⟨a,ha⟩:∃ a,l[k]?=some a:=⟨l[k],by simp[hlt]⟩;obtain⟨us,hrep,hcell⟩:=hc k a ha;obtain rfl:=zBk hrep;have c0:=hcell 0 _ rfl;have c1:=hcell 1 _ rfl;have c2:=hcell 2 _ rfl;rw[show certC.n=3 from rfl] at c0 c1 c2;rw[Nat.add_zero] at c0;have b0:=zQ (B.cell 0) rfl;have b1:=zQ (B.cell 1) rfl;have b2:=zQ (B.cell 2) rfl;clear hc hcell hrep
      by_cases he:c=a
      · subst he;have HM:Hid (memC l c=true):=zJn ha;have HE:=zFc c;clear hn;go_wp2_with fail
        go_quiet (fail)
        go_wp2;go_ret;exact⟨⟨k,rfl,by rw[HM.out];simp⟩,Below.trans BW ⟨rfl,rfl,rfl,Nat.le_refl _,fun _ _=>rfl⟩⟩
      · have HE:=zEg he
        have hn2:Hid (memC (l.take (k+1)) c=false):=by show _=_;rw[zJo ha,hn];simp[he]
        clear he hn;go_wp2_with fail
        go_quiet (fail)
        go_wp2;go_roundw
        case rel=>exact⟨k+1,by omega,by go_num,hn2.out,B,Below.trans BW ⟨rfl,rfl,rfl,Nat.le_refl _,fun _ _=>rfl⟩⟩
        case measure=>simp[intOf];omega
    · have e:k=l.length:=by omega
      subst e;rw[List.take_length] at hn;go_wp2;go_ret;exact⟨⟨-1,rfl,by rw[hn];rfl⟩,BW⟩
theorem zGz (l:List zH) (p:Option Addr) (q:Nat) (c:zH) (w:World) (hr:RdL certC w p q l):
    Calls Tryz.prog 71 #[.slice p l.length q,.agg #[.int .i64 c.1,.int .i64 c.2.1,.int .i64 c.2.2]] w fun e w'=>e=.returned (.bool (memC l c))∧Below w.heap.size w w':=by
  have BW:=zA w (.cells #[.int .i64 c.1,.int .i64 c.2.1,.int .i64 c.2.2] 62);have K:Hid (Calls Tryz.prog 97 #[.slice p l.length q,.agg #[.int .i64 c.1,.int .i64 c.2.1,.int .i64 c.2.2]] _ _):=zK3 l p q c _ (hr.keep BW);clear hr;go_enter Tryz.func71,Tryz.ntmps71;go_wp2_with fail;refine K.out.mono ?_;rintro e w2 ⟨⟨z,rfl,hz⟩,hb⟩;go_wp2;go_ret;exact⟨by rw[← hz];rfl,Below.step BW hb⟩
theorem zMM (v:Int) (w:World):Calls Tryz.prog 95 #[.int .i64 v] w fun e w'=>e=.returned (.bool (inB v 0 9999))∧w'=w:=by
  have K:Hid _:=zBV v w;go_enter Tryz.func95,Tryz.ntmps95;go_wp2_with fail;refine Calls.mono K.out ?_;rintro e w2 ⟨rfl,hw⟩;subst hw;go_wp2;go_ret;exact⟨rfl,rfl⟩
theorem zGL (p pc ps:Option Addr) (q qc qs:Nat) (x:List UInt8) (r:Int) (certs:List zH) (signs:List zO) (now:Int) (w:World) (hrc:RdL certC w pc qc certs) (hrs:RdL signC w ps qs signs):
    Calls Tryz.prog 69 #[.slice p x.length q,.int .i64 r,.slice pc certs.length qc,.slice ps signs.length qs,.int .i64 now] w fun e w'=>e=.returned (.int .i64 (cfN x r certs signs now))∧Below w.heap.size w w':=by
  have K1:Hid _:=zBE p q x r w
  have K2:Hid (∀ W,Below w.heap.size w W→Calls Tryz.prog 93 #[.slice pc certs.length qc] W fun e w'=>e=.returned (.int .i64 (ctC certs))∧Below W.heap.size W w'):=fun W hb=>zKo certs pc qc W (hrc.keep hb)
  have K3:Hid (∀ W,Below w.heap.size w W→Calls Tryz.prog 94 #[.slice ps signs.length qs] W fun e w'=>e=.returned (.int .i64 (sgC signs))∧Below W.heap.size W w'):=fun W hb=>zHi signs ps qs W (hrs.keep hb)
  have K4:Hid (∀ W,Calls Tryz.prog 95 #[.int .i64 now] W fun e w'=>e=.returned (.bool (inB now 0 9999))∧w'=W):=fun W=>zMM now W
  clear hrc hrs
  by_cases h1:akC x r=0
  · rw[h1] at K1
    by_cases h2:ctC certs=0
    · rw[h2] at K2
      by_cases h3:sgC signs=0
      · rw[h3] at K3;cases h4:inB now 0 9999
        · rw[h4] at K4;rw[show cfN x r certs signs now=3 by unfold cfN;rw[if_pos h1,if_pos h2,if_pos h3,h4];rfl];clear h1 h2 h3 h4;go_enter Tryz.func69,Tryz.ntmps69;go_wp2_with fail;refine Calls.mono K1.out ?_;rintro e w2 ⟨rfl,hw⟩;subst hw;go_wp2_with fail;refine(K2.out _ (Below.refl _ _)).mono ?_;rintro e w3 ⟨rfl,hb3⟩;go_wp2_with fail;refine(K3.out _ hb3).mono ?_;rintro e w4 ⟨rfl,hb4⟩;replace hb3:=Below.step hb3 hb4;clear hb4;go_wp2_with fail;refine(K4.out _).mono ?_;rintro e w5 ⟨rfl,hw⟩;subst hw;go_wp2;go_ret;exact⟨rfl,hb3⟩
        · rw[h4] at K4;rw[show cfN x r certs signs now=0 by unfold cfN;rw[if_pos h1,if_pos h2,if_pos h3,h4];rfl];clear h1 h2 h3 h4;go_enter Tryz.func69,Tryz.ntmps69;go_wp2_with fail;refine Calls.mono K1.out ?_;rintro e w2 ⟨rfl,hw⟩;subst hw;go_wp2_with fail;refine(K2.out _ (Below.refl _ _)).mono ?_;rintro e w3 ⟨rfl,hb3⟩;go_wp2_with fail;refine(K3.out _ hb3).mono ?_;rintro e w4 ⟨rfl,hb4⟩;replace hb3:=Below.step hb3 hb4;clear hb4;go_wp2_with fail;refine(K4.out _).mono ?_;rintro e w5 ⟨rfl,hw⟩;subst hw;go_wp2;go_ret;exact⟨rfl,hb3⟩
      · rw[show cfN x r certs signs now=sgC signs by unfold cfN;rw[if_pos h1,if_pos h2,if_neg h3]]
        have dk:(sgC signs != 0)=true:=by rw[bne_iff_ne];exact h3
        clear h1 h2 h3 K4;generalize sgC signs=k at *;go_enter Tryz.func69,Tryz.ntmps69;go_wp2_with fail;refine Calls.mono K1.out ?_;rintro e w2 ⟨rfl,hw⟩;subst hw;go_wp2_with fail;refine(K2.out _ (Below.refl _ _)).mono ?_;rintro e w3 ⟨rfl,hb3⟩;go_wp2_with fail;refine(K3.out _ hb3).mono ?_;rintro e w4 ⟨rfl,hb4⟩;replace hb3:=Below.step hb3 hb4;clear hb4;go_wp2;go_ret;exact⟨rfl,hb3⟩
    · rw[show cfN x r certs signs now=ctC certs by unfold cfN;rw[if_pos h1,if_neg h2]]
      have dk:(ctC certs != 0)=true:=by rw[bne_iff_ne];exact h2
      clear h1 h2 K4 K3;generalize ctC certs=k at *;go_enter Tryz.func69,Tryz.ntmps69;go_wp2_with fail;refine Calls.mono K1.out ?_;rintro e w2 ⟨rfl,hw⟩;subst hw;go_wp2_with fail;refine(K2.out _ (Below.refl _ _)).mono ?_;rintro e w3 ⟨rfl,hb3⟩;go_wp2;go_ret;exact⟨rfl,hb3⟩
  · rw[show cfN x r certs signs now=akC x r by unfold cfN;rw[if_neg h1]]
    have dk:(akC x r != 0)=true:=by rw[bne_iff_ne];exact h1
    clear h1 K4 K3 K2;generalize akC x r=k at *;go_enter Tryz.func69,Tryz.ntmps69;go_wp2_with fail;refine Calls.mono K1.out ?_;rintro e w2 ⟨rfl,hw⟩;subst hw;go_wp2;go_ret;exact⟨rfl,Below.refl _ _⟩
theorem zJp (p ps pd pa pm:Option Addr) (q qs qd qa qm:Nat) (x:List UInt8) (r:Int) (signs:List zO) (data:List UInt8) (a:zAq) (w:World) (hr:Rd w p q x) (hrs:RdL signC w ps qs signs) (hrd:Rd w pd qd data) (hra:Rd w pa qa a.1) (hT:Tabs w) (hs:raR data=some a) (hk:akC x r=0) (hg:sgC signs=0):
    Calls Tryz.prog 72 #[.slice p x.length q,.int .i64 r,.slice ps signs.length qs,.agg #[.slice pa a.1.length qa,.int .i64 a.2.1.1,.int .i64 a.2.1.2.1,.int .i64 a.2.1.2.2,.int .i64 a.2.2.1,.slice pm a.2.2.2.length qm],.slice pd data.length qd] w fun e w'=>e=.returned (.bool (bnB x r signs a))∧Below w.heap.size w w':=by
  have BW:=zA w (.cells #[.slice pa a.1.length qa,.int .i64 a.2.1.1,.int .i64 a.2.1.2.1,.int .i64 a.2.1.2.2,.int .i64 a.2.2.1,.slice pm a.2.2.2.length qm] 70);have L:=Arr.new w [.slice pa a.1.length qa,.int .i64 a.2.1.1,.int .i64 a.2.1.2.1,.int .i64 a.2.1.2.2,.int .i64 a.2.2.1,.slice pm a.2.2.2.length qm] 70;have HB:=zD3 hs;have hbn:=zML hs hk hg
  have had:adC x r a.1 a.2.1=0:=by unfold adC;rw[if_pos hk,HB.1,HB.2.1];rfl
  have KD:Hid (∀ W,Below w.heap.size w W→Calls Tryz.prog 98 #[.slice p x.length q,.int .i64 r,.slice pa a.1.length qa,.agg #[.int .i64 a.2.1.1,.int .i64 a.2.1.2.1,.int .i64 a.2.1.2.2]] W fun e w'=>∃ u,e=.returned (.agg #[.int .i64 0,u])∧Own w' W.heap.size u (dgN x r a.1 a.2.1)∧Below W.heap.size W w'):=fun W hb=>by
    have h:=zHo p pa q qa x a.1 r a.2.1 W (hr.keep hb) (hra.keep hb) (hT.keep hb);rw[show adD x r a.1 a.2.1=(0,dgN x r a.1 a.2.1) by rw[adD,if_pos had]] at h;exact h
  have KM:Hid (∀ W,Below w.heap.size w W→Calls Tryz.prog 99 #[.slice p x.length q,.int .i64 r,.slice pa a.1.length qa,.agg #[.int .i64 a.2.1.1,.int .i64 a.2.1.2.1,.int .i64 a.2.1.2.2],.int .i64 a.2.2.1] W fun e w'=>∃ u,e=.returned (.agg #[.int .i64 (maD x r a.1 a.2.1 a.2.2.1).1,u])∧Own w' W.heap.size u (maD x r a.1 a.2.1 a.2.2.1).2∧Below W.heap.size W w'):=fun W hb=>zK2 p pa q qa x a.1 r a.2.1 a.2.2.1 W (hr.keep hb) (hra.keep hb) (hT.keep hb)
  have hpw:=zGs HB.2.2.1 HB.2.2.2.1
  have hiw:(Lit.int .i64 a.2.1.1).wf=true:=by have h:=zBc HB.2.1;exact zGs (by omega) (by omega)
  obtain⟨dg,HDG⟩:∃ dg,Hid (dgN x r a.1 a.2.1=dg):=⟨_,rfl⟩;rw[HDG.out] at KD hbn;obtain⟨⟨mk,ml⟩,HMA⟩:∃ m,Hid (maD x r a.1 a.2.1 a.2.2.1=m):=⟨_,rfl⟩;rw[HMA.out] at KM hbn;simp only at KM hbn
  have KC:Hid (∀ W pg qg,Below w.heap.size w W→Rd W pg qg dg→Calls Tryz.prog 100 #[.slice ps signs.length qs,.int .i64 a.2.2.1,.int .i64 a.2.1.1,.slice pg dg.length qg] W fun e w'=>e=.returned (.bool (ckB signs a.2.2.1 a.2.1.1 dg))∧Below W.heap.size W w'):=fun W pg qg hb hg=>zKz signs ps pg qs qg a.2.2.1 a.2.1.1 dg W (hrs.keep hb) hg hpw hiw
  have KS:Hid (∀ W pq qq,Below w.heap.size w W→Rd W pq qq ml→Calls Tryz.prog 81 #[.slice pq ml.length qq,.slice pd data.length qd] W fun e w'=>e=.returned (.bool (zAb ml data))∧Below W.heap.size W w'):=fun W pq qq hb h=>zDO pq pd qq qd ml data W h (hrd.keep hb)
  rw[← hbn];clear hr hrs hrd hra hT hs hk hg HB had hpw hiw hbn HDG HMA;have l0:=zQ (L.cell 0) rfl;have l1:=zQ (L.cell 1) rfl;have l2:=zQ (L.cell 2) rfl;have l3:=zQ (L.cell 3) rfl;go_enter Tryz.func72,Tryz.ntmps72;go_wp2_with fail;refine(KD.out _ BW).mono ?_;rintro e w1 ⟨u1,rfl,k1,hb1⟩;obtain⟨pg,qg,rfl,-⟩:=k1.rd;have hl1:=zA w1 (.cells #[.int .i64 0,.slice pg dg.length qg] 126);have D:=Arr.new w1 [.int .i64 0,.slice pg dg.length qg] 126;replace BW:=Below.step (Below.step BW hb1) hl1;replace L:=(L.stay hb1).stay hl1;have rg:=(Rd.own k1).keep hl1;replace l0:=zQ (L.cell 0) rfl;replace l1:=zQ (L.cell 1) rfl;replace l2:=zQ (L.cell 2) rfl;replace l3:=zQ (L.cell 3) rfl;have l4:=zQ (L.cell 4) rfl;clear hb1 hl1 k1 KD;go_wp2_with fail;refine(KM.out _ BW).mono ?_;rintro e w2 ⟨u2,rfl,k2,hb2⟩;obtain⟨pq,qq,rfl,-⟩:=k2.rd;have hl2:=zA w2 (.cells #[.int .i64 mk,.slice pq ml.length qq] 126);have M:=Arr.new w2 [.int .i64 mk,.slice pq ml.length qq] 126;replace BW:=Below.step (Below.step BW hb2) hl2;replace L:=(L.stay hb2).stay hl2;replace D:=(D.stay hb2).stay hl2;replace rg:=(rg.keep hb2).keep hl2;have rq:=(Rd.own k2).keep hl2;clear hb2 hl2 k2 KM l0 l1 l2 l3 l4;have l1:=zQ (L.cell 1) rfl;have l4:=zQ (L.cell 4) rfl;have d1:=zQ (D.cell 1) rfl;go_wp2_with fail;refine(KC.out _ _ _ BW rg).mono ?_;rintro e w3 ⟨rfl,hb3⟩;replace BW:=Below.step BW hb3;replace M:=M.stay hb3;replace rq:=rq.keep hb3;have m1:=zQ (M.cell 1) rfl;clear KC rg L D l1 l4 d1 hb3 M;cases hcb:ckB signs a.2.2.1 a.2.1.1 dg
  · go_wp2;go_ret;exact⟨by rw[hcb];rfl,BW⟩
  · go_wp2_with fail;refine(KS.out _ _ _ BW rq).mono ?_;rintro e w4 ⟨rfl,hb4⟩;go_wp2;go_ret;exact⟨by rw[hcb,Bool.true_and];rfl,Below.step BW hb4⟩
theorem zFd (p pc ps pd:Option Addr) (q qc qs qd:Nat) (x:List UInt8) (r:Int) (certs:List zH) (signs:List zO) (now:Int) (data:List UInt8) (w:World) (hr:Rd w p q x) (hrc:RdL certC w pc qc certs) (hrs:RdL signC w ps qs signs) (hrd:Rd w pd qd data) (hT:Tabs w):
    Calls Tryz.prog 35 #[.slice p x.length q,.int .i64 r,.slice pc certs.length qc,.slice ps signs.length qs,.int .i64 now,.slice pd data.length qd] w fun e w'=>∃ us fp,e=.returned (.agg us.toArray)∧authResultC.own w' w.heap.size (caD x r certs signs now data) us fp∧Below w.heap.size w w':=by
  have BW:=zA w (.cells #[.int .i64 0,.slice none 0 0,.int .i64 0,.int .i64 0,.int .i64 0,.int .i64 0,.slice none 0 0] 72);have R:=Arr.new w [.int .i64 0,.slice none 0 0,.int .i64 0,.int .i64 0,.int .i64 0,.int .i64 0,.slice none 0 0] 72;have hz0:Hid ((w.alloc (.cells #[.int .i64 0,.slice none 0 0,.int .i64 0,.int .i64 0,.int .i64 0,.int .i64 0,.slice none 0 0] 72)).heap.size=w.heap.size+1):=zD _ _
  have hres:Hid ((Tryz.prog.info? 72).map (·.size)=some 7):=by show _=_;kernel_rfl
  suffices H:∀ Q:Ending→World→Prop,Hid (∀ e w',(∃ us fp,e=.returned (.agg us.toArray)∧authResultC.own w' w.heap.size (caD x r certs signs now data) us fp∧Below w.heap.size w w')→Q e w')→Calls Tryz.prog 35 #[.slice p x.length q,.int .i64 r,.slice pc certs.length qc,.slice ps signs.length qs,.int .i64 now,.slice pd data.length qd] w Q by exact H _ (fun _ _ h=>h)
  intro Q HQ;have K1:=zGL p pc ps q qc qs x r certs signs now _ (hrc.keep BW) (hrs.keep BW)
  by_cases h0:cfN x r certs signs now=0
  · obtain⟨h1,h2,h3,h4⟩:=zMt h0;have HCK:Hid (caC x r certs signs now data=ckN x r certs signs now data):=zLN h1 h2 h3 h4
    have KR:Hid (∀ W,Below w.heap.size w W→Calls Tryz.prog 70 #[.slice pd data.length qd] W fun e w'=>∃ us fp,e=.returned (.agg us.toArray)∧authResultC.own w' W.heap.size (raD data) us fp∧Below W.heap.size W w'):=fun W hb=>zKr data pd qd W (hrd.keep hb)
    have KN:Hid (∀ W c,Below w.heap.size w W→Calls Tryz.prog 71 #[.slice pc certs.length qc,.agg #[.int .i64 c.1,.int .i64 c.2.1,.int .i64 c.2.2]] W fun e w'=>e=.returned (.bool (memC certs c))∧Below W.heap.size W w'):=fun W c hb=>zGz certs pc qc c W (hrc.keep hb)
    have KB:Hid (∀ W a pa qa pm qm,Below w.heap.size w W→Rd W pa qa a.1→raR data=some a→Calls Tryz.prog 72 #[.slice p x.length q,.int .i64 r,.slice ps signs.length qs,.agg #[.slice pa a.1.length qa,.int .i64 a.2.1.1,.int .i64 a.2.1.2.1,.int .i64 a.2.1.2.2,.int .i64 a.2.2.1,.slice pm a.2.2.2.length qm],.slice pd data.length qd] W fun e w'=>e=.returned (.bool (bnB x r signs a))∧Below W.heap.size W w'):=fun W a pa qa pm qm hb ha hs=>zJp p ps pd pa pm q qs qd qa qm x r signs data a W (hr.keep hb) (hrs.keep hb) (hrd.keep hb) ha (hT.keep hb) hs h1 h3
    have HKB:Hid (∀ a,raR data=some a→ckN x r certs signs now data=if memC certs a.2.1 then (if a.2.1.2.2<now then 9 else if bnB x r signs a then 0 else 7) else 4):=fun a hs=>(zHd hs).trans (zNO h2)
    rw[h0] at K1;clear h0 h1 h2 h3 h4 hr hrc hrs hrd hT;go_enter Tryz.func35,Tryz.ntmps35;go_wp2_with fail;refine K1.mono ?_;rintro e w1 ⟨rfl,hb1⟩;replace R:=R.stay hb1;replace BW:=Below.step BW hb1
    have hz1:Hid (w.heap.size+1≤w1.heap.size):=by have h:=hb1.size;rw[hz0.out] at h;exact h
    clear hb1 K1;go_wp2_with fail;refine(KR.out _ BW).mono ?_;rintro e w2 ⟨us,fp,rfl,hown,hb2⟩;cases hs:raR data with
    | none=>
      rw[zHZ hs] at hown;obtain⟨pa,qa,pm,qm,rfl,-,-⟩:=zAH (authResultC.toRep hown);have HC:Hid (caD x r certs signs now data=(5,zeroA)):=zBu (HCK.out.trans (zHc hs)) (by decide);have HO:Hid (authResultC.own w2 (w.heap.size+1) (5,zeroA) [.int .i64 5,.slice pa zeroA.1.length qa,.int .i64 zeroA.2.1.1,.int .i64 zeroA.2.1.2.1,.int .i64 zeroA.2.1.2.2,.int .i64 zeroA.2.2.1,.slice pm zeroA.2.2.2.length qm] fp):=authResultC.low hown hz1.out;clear hs hown;have hl2:=zA w2 (.cells #[.int .i64 5,.slice pa zeroA.1.length qa,.int .i64 zeroA.2.1.1,.int .i64 zeroA.2.1.2.1,.int .i64 zeroA.2.1.2.2,.int .i64 zeroA.2.2.1,.slice pm zeroA.2.2.2.length qm] 72);have L:=Arr.new w2 [.int .i64 5,.slice pa zeroA.1.length qa,.int .i64 zeroA.2.1.1,.int .i64 zeroA.2.1.2.1,.int .i64 zeroA.2.1.2.2,.int .i64 zeroA.2.2.1,.slice pm zeroA.2.2.2.length qm] 72;replace R:=(R.stay hb2).stay hl2;replace BW:=Below.step (Below.step BW hb2) hl2;replace HO:Hid (authResultC.own _ (w.heap.size+1) (5,zeroA) [.int .i64 5,.slice pa zeroA.1.length qa,.int .i64 zeroA.2.1.1,.int .i64 zeroA.2.1.2.1,.int .i64 zeroA.2.1.2.2,.int .i64 zeroA.2.2.1,.slice pm zeroA.2.2.2.length qm] fp):=authResultC.stay HO.out hl2;have l0:=zQ (L.cell 0) rfl;have l1:=zQ (L.cell 1) rfl;have l2:=zQ (L.cell 2) rfl;have l3:=zQ (L.cell 3) rfl;have l4:=zQ (L.cell 4) rfl;have l5:=zQ (L.cell 5) rfl;have l6:=zQ (L.cell 6) rfl;clear L hb2 hl2;go_wp2_with (refine wpList_store_row rfl 72 _ _ rfl w.heap.size #[.int .i64 5,.slice pa zeroA.1.length qa,.int .i64 zeroA.2.1.1,.int .i64 zeroA.2.1.2.1,.int .i64 zeroA.2.1.2.2,.int .i64 zeroA.2.2.1,.slice pm zeroA.2.2.2.length qm] rfl rfl 72 #[.int .i64 0,.slice none 0 0,.int .i64 0,.int .i64 0,.int .i64 0,.int .i64 0,.slice none 0 0] R hres.out rfl (by simp[Value.oneCell']) ?_);exact bodyPost_ret (v:=.agg #[.int .i64 5,.slice pa zeroA.1.length qa,.int .i64 zeroA.2.1.1,.int .i64 zeroA.2.1.2.1,.int .i64 zeroA.2.1.2.2,.int .i64 zeroA.2.2.1,.slice pm zeroA.2.2.2.length qm]) (results_cell_row Tryz.results35 _ _ w.heap.size 72 _ (0,0) _ rfl (R.row [.int .i64 5,.slice pa zeroA.1.length qa,.int .i64 zeroA.2.1.1,.int .i64 zeroA.2.1.2.1,.int .i64 zeroA.2.1.2.2,.int .i64 zeroA.2.2.1,.slice pm zeroA.2.2.2.length qm]) Tryz.underlying72 rfl hres.out) rfl (HQ.out _ _ ⟨[.int .i64 5,.slice pa zeroA.1.length qa,.int .i64 zeroA.2.1.1,.int .i64 zeroA.2.1.2.1,.int .i64 zeroA.2.1.2.2,.int .i64 zeroA.2.2.1,.slice pm zeroA.2.2.2.length qm],_,rfl,by rw[HC.out];exact authResultC.low (authResultC.rowA HO.out (Nat.lt_succ_self _) _) (Nat.le_succ _),Below.row BW (Nat.le_refl _) _⟩)
    | some a=>
      rw[zHa hs] at hown;obtain⟨pa,qa,pm,qm,rfl,ra,-⟩:=zAH (authResultC.toRep hown);have HS:Hid (raR data=some a):=hs;have HK:=HKB.out a hs;have HO:Hid (authResultC.own w2 (w.heap.size+1) (0,a) [.int .i64 0,.slice pa a.1.length qa,.int .i64 a.2.1.1,.int .i64 a.2.1.2.1,.int .i64 a.2.1.2.2,.int .i64 a.2.2.1,.slice pm a.2.2.2.length qm] fp):=authResultC.low hown hz1.out;have hl2:=zA w2 (.cells #[.int .i64 0,.slice pa a.1.length qa,.int .i64 a.2.1.1,.int .i64 a.2.1.2.1,.int .i64 a.2.1.2.2,.int .i64 a.2.2.1,.slice pm a.2.2.2.length qm] 72);have L:=Arr.new w2 [.int .i64 0,.slice pa a.1.length qa,.int .i64 a.2.1.1,.int .i64 a.2.1.2.1,.int .i64 a.2.1.2.2,.int .i64 a.2.2.1,.slice pm a.2.2.2.length qm] 72;replace R:=(R.stay hb2).stay hl2;replace BW:=Below.step (Below.step BW hb2) hl2;replace HO:Hid (authResultC.own _ (w.heap.size+1) (0,a) [.int .i64 0,.slice pa a.1.length qa,.int .i64 a.2.1.1,.int .i64 a.2.1.2.1,.int .i64 a.2.1.2.2,.int .i64 a.2.2.1,.slice pm a.2.2.2.length qm] fp):=authResultC.stay HO.out hl2;have HRA:Hid (Rd _ pa qa a.1):=ra.keep hl2;clear hs hown ra HKB hb2 hl2;have l0:=zQ (L.cell 0) rfl;have l1:=zQ (L.cell 1) rfl;have l2:=zQ (L.cell 2) rfl;have l3:=zQ (L.cell 3) rfl;have l4:=zQ (L.cell 4) rfl;have l5:=zQ (L.cell 5) rfl;have l6:=zQ (L.cell 6) rfl;have KN1:=KN.out _ a.2.1 BW;go_wp2_with fail;refine KN1.mono ?_;rintro e w3 ⟨rfl,hb3⟩;replace R:=R.stay hb3;replace L:=L.stay hb3;replace BW:=Below.step BW hb3;replace HO:Hid (authResultC.own w3 (w.heap.size+1) (0,a) [.int .i64 0,.slice pa a.1.length qa,.int .i64 a.2.1.1,.int .i64 a.2.1.2.1,.int .i64 a.2.1.2.2,.int .i64 a.2.2.1,.slice pm a.2.2.2.length qm] fp):=authResultC.stay HO.out hb3;replace HRA:Hid (Rd w3 pa qa a.1):=HRA.out.keep hb3;clear KN1 hb3 l0 l1 l2 l3 l4 l5 l6;have l0:=zQ (L.cell 0) rfl;have l1:=zQ (L.cell 1) rfl;have l2:=zQ (L.cell 2) rfl;have l3:=zQ (L.cell 3) rfl;have l4:=zQ (L.cell 4) rfl;have l5:=zQ (L.cell 5) rfl;have l6:=zQ (L.cell 6) rfl;cases hm:memC certs a.2.1
      · have HC:Hid (caD x r certs signs now data=(4,zeroA)):=zBu (HCK.out.trans (by rw[HK,hm];rfl)) (by decide);clear HK hm;go_wp2_with (refine wpList_store_row rfl 72 _ _ rfl w.heap.size #[.int .i64 4,.slice none 0 0,.int .i64 0,.int .i64 0,.int .i64 0,.int .i64 0,.slice none 0 0] rfl rfl 72 #[.int .i64 0,.slice none 0 0,.int .i64 0,.int .i64 0,.int .i64 0,.int .i64 0,.slice none 0 0] R hres.out rfl (by simp[Value.oneCell']) ?_);exact bodyPost_ret (v:=.agg #[.int .i64 4,.slice none 0 0,.int .i64 0,.int .i64 0,.int .i64 0,.int .i64 0,.slice none 0 0]) (results_cell_row Tryz.results35 _ _ w.heap.size 72 _ (0,0) _ rfl (R.row [.int .i64 4,.slice none 0 0,.int .i64 0,.int .i64 0,.int .i64 0,.int .i64 0,.slice none 0 0]) Tryz.underlying72 rfl hres.out) rfl (HQ.out _ _ ⟨[.int .i64 4,.slice none 0 0,.int .i64 0,.int .i64 0,.int .i64 0,.int .i64 0,.slice none 0 0],_,rfl,by rw[HC.out];exact zAg zAu,Below.row BW (Nat.le_refl _) _⟩)
      · rw[hm,if_pos rfl] at HK
        by_cases ho:a.2.1.2.2<now
        · have HC:Hid (caD x r certs signs now data=(9,zeroA)):=zBu (HCK.out.trans (by rw[HK,if_pos ho])) (by decide);clear HK hm;go_wp2_with (refine wpList_store_row rfl 72 _ _ rfl w.heap.size #[.int .i64 9,.slice none 0 0,.int .i64 0,.int .i64 0,.int .i64 0,.int .i64 0,.slice none 0 0] rfl rfl 72 #[.int .i64 0,.slice none 0 0,.int .i64 0,.int .i64 0,.int .i64 0,.int .i64 0,.slice none 0 0] R hres.out rfl (by simp[Value.oneCell']) ?_);exact bodyPost_ret (v:=.agg #[.int .i64 9,.slice none 0 0,.int .i64 0,.int .i64 0,.int .i64 0,.int .i64 0,.slice none 0 0]) (results_cell_row Tryz.results35 _ _ w.heap.size 72 _ (0,0) _ rfl (R.row [.int .i64 9,.slice none 0 0,.int .i64 0,.int .i64 0,.int .i64 0,.int .i64 0,.slice none 0 0]) Tryz.underlying72 rfl hres.out) rfl (HQ.out _ _ ⟨[.int .i64 9,.slice none 0 0,.int .i64 0,.int .i64 0,.int .i64 0,.int .i64 0,.slice none 0 0],_,rfl,by rw[HC.out];exact zAg zAu,Below.row BW (Nat.le_refl _) _⟩)
        · rw[if_neg ho] at HK
          have hnow:now≤a.2.1.2.2:=by omega
          have KB1:=KB.out w3 a pa qa pm qm BW HRA.out HS.out;clear ho hm;go_wp2_with fail;refine KB1.mono ?_;rintro e w4 ⟨rfl,hb4⟩;replace R:=R.stay hb4;replace L:=L.stay hb4;replace BW:=Below.step BW hb4;replace HO:Hid (authResultC.own w4 (w.heap.size+1) (0,a) [.int .i64 0,.slice pa a.1.length qa,.int .i64 a.2.1.1,.int .i64 a.2.1.2.1,.int .i64 a.2.1.2.2,.int .i64 a.2.2.1,.slice pm a.2.2.2.length qm] fp):=authResultC.stay HO.out hb4;clear KB1 hb4 l0 l1 l2 l3 l4 l5 l6 HRA hnow;have l0:=zQ (L.cell 0) rfl;have l1:=zQ (L.cell 1) rfl;have l2:=zQ (L.cell 2) rfl;have l3:=zQ (L.cell 3) rfl;have l4:=zQ (L.cell 4) rfl;have l5:=zQ (L.cell 5) rfl;have l6:=zQ (L.cell 6) rfl;clear L;cases hb:bnB x r signs a
          · have HC:Hid (caD x r certs signs now data=(7,zeroA)):=zBu (HCK.out.trans (by rw[HK,hb];rfl)) (by decide);clear HK hb;go_wp2_with (refine wpList_store_row rfl 72 _ _ rfl w.heap.size #[.int .i64 7,.slice none 0 0,.int .i64 0,.int .i64 0,.int .i64 0,.int .i64 0,.slice none 0 0] rfl rfl 72 #[.int .i64 0,.slice none 0 0,.int .i64 0,.int .i64 0,.int .i64 0,.int .i64 0,.slice none 0 0] R hres.out rfl (by simp[Value.oneCell']) ?_);exact bodyPost_ret (v:=.agg #[.int .i64 7,.slice none 0 0,.int .i64 0,.int .i64 0,.int .i64 0,.int .i64 0,.slice none 0 0]) (results_cell_row Tryz.results35 _ _ w.heap.size 72 _ (0,0) _ rfl (R.row [.int .i64 7,.slice none 0 0,.int .i64 0,.int .i64 0,.int .i64 0,.int .i64 0,.slice none 0 0]) Tryz.underlying72 rfl hres.out) rfl (HQ.out _ _ ⟨[.int .i64 7,.slice none 0 0,.int .i64 0,.int .i64 0,.int .i64 0,.int .i64 0,.slice none 0 0],_,rfl,by rw[HC.out];exact zAg zAu,Below.row BW (Nat.le_refl _) _⟩)
          · have HC:Hid (caD x r certs signs now data=(0,a)):=zHe (HCK.out.trans (by rw[HK,hb];rfl)) HS.out;clear HK hb;go_wp2_with (refine wpList_store_row rfl 72 _ _ rfl w.heap.size #[.int .i64 0,.slice pa a.1.length qa,.int .i64 a.2.1.1,.int .i64 a.2.1.2.1,.int .i64 a.2.1.2.2,.int .i64 a.2.2.1,.slice pm a.2.2.2.length qm] rfl rfl 72 #[.int .i64 0,.slice none 0 0,.int .i64 0,.int .i64 0,.int .i64 0,.int .i64 0,.slice none 0 0] R hres.out rfl (by simp[Value.oneCell']) ?_);exact bodyPost_ret (v:=.agg #[.int .i64 0,.slice pa a.1.length qa,.int .i64 a.2.1.1,.int .i64 a.2.1.2.1,.int .i64 a.2.1.2.2,.int .i64 a.2.2.1,.slice pm a.2.2.2.length qm]) (results_cell_row Tryz.results35 _ _ w.heap.size 72 _ (0,0) _ rfl (R.row [.int .i64 0,.slice pa a.1.length qa,.int .i64 a.2.1.1,.int .i64 a.2.1.2.1,.int .i64 a.2.1.2.2,.int .i64 a.2.2.1,.slice pm a.2.2.2.length qm]) Tryz.underlying72 rfl hres.out) rfl (HQ.out _ _ ⟨[.int .i64 0,.slice pa a.1.length qa,.int .i64 a.2.1.1,.int .i64 a.2.1.2.1,.int .i64 a.2.1.2.2,.int .i64 a.2.2.1,.slice pm a.2.2.2.length qm],_,rfl,by rw[HC.out];exact authResultC.low (authResultC.rowA HO.out (Nat.lt_succ_self _) _) (Nat.le_succ _),Below.row BW (Nat.le_refl _) _⟩)
  · have HC:Hid (caD x r certs signs now data=(cfN x r certs signs now,zeroA)):=zBu (zMK h0) h0
    have dk:(cfN x r certs signs now != 0)=true:=by rw[bne_iff_ne];exact h0
    clear h0 hr hrc hrs hrd hT;generalize cfN x r certs signs now=k at *;go_enter Tryz.func35,Tryz.ntmps35;go_wp2_with fail;refine K1.mono ?_;rintro e w1 ⟨rfl,hb1⟩;replace R:=R.stay hb1;replace BW:=Below.step BW hb1;clear hb1 K1;go_wp2_with (refine wpList_store_row rfl 72 _ _ rfl w.heap.size #[.int .i64 k,.slice none 0 0,.int .i64 0,.int .i64 0,.int .i64 0,.int .i64 0,.slice none 0 0] rfl rfl 72 #[.int .i64 0,.slice none 0 0,.int .i64 0,.int .i64 0,.int .i64 0,.int .i64 0,.slice none 0 0] R hres.out rfl (by simp[Value.oneCell']) ?_);exact bodyPost_ret (v:=.agg #[.int .i64 k,.slice none 0 0,.int .i64 0,.int .i64 0,.int .i64 0,.int .i64 0,.slice none 0 0]) (results_cell_row Tryz.results35 _ _ w.heap.size 72 _ (0,0) _ rfl (R.row [.int .i64 k,.slice none 0 0,.int .i64 0,.int .i64 0,.int .i64 0,.int .i64 0,.slice none 0 0]) Tryz.underlying72 rfl hres.out) rfl (HQ.out _ _ ⟨[.int .i64 k,.slice none 0 0,.int .i64 0,.int .i64 0,.int .i64 0,.int .i64 0,.slice none 0 0],_,rfl,by rw[HC.out];exact zAg zAu,Below.row BW (Nat.le_refl _) _⟩)
end Go.Proofs.YtbaldmmbphbinaaGreatDoor
