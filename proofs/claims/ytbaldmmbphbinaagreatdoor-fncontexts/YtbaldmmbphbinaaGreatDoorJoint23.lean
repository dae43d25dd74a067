import Derived.Test.YtbaldmmbphbinaaGreatDoorJoint21
import Derived.Test.YtbaldmmbphbinaaGreatDoorJoint20
import Derived.Test.YtbaldmmbphbinaaGreatDoorJoint11
import Derived.Test.YtbaldmmbphbinaaGreatDoorJoint14
import Derived.Test.YtbaldmmbphbinaaGreatDoorKeyI
import Derived.Lib.SliceRun
set_option maxHeartbeats 1000000
set_option maxRecDepth 4000
namespace Go.Proofs.YtbaldmmbphbinaaGreatDoor
open Go.ChangeShapes Go.WideShapes Go.ChangeAt Go.RowKit
theorem zEJ (v:Int) (w:World):Calls Tryz.prog 114 #[.int .i64 v] w fun e w'=>e=.returned (.bool (inB v 0 9))∧w'=w:=by
  by_cases h0:v=0
  · subst h0;go_enter Tryz.func114,Tryz.ntmps114;go_wp2;go_ret;exact⟨rfl,rfl⟩
  · have d:(v==0)=false:=by rw[beq_eq_false_iff_ne];exact h0
    rw[show inB v 0 9=inB v 1 9 by simp only[inB];congr 1;apply propext;omega];clear h0;go_enter Tryz.func114,Tryz.ntmps114;go_wp2_with fail;refine(zEI _ _).mono ?_;rintro e w' ⟨rfl,rfl⟩;go_wp2;go_ret;exact⟨rfl,rfl⟩
theorem zHi (l:List zO) (p:Option Addr) (q:Nat) (w:World) (hr:RdL signC w p q l):
    Calls Tryz.prog 94 #[.slice p l.length q] w fun e w'=>e=.returned (.int .i64 (sgC l))∧Below w.heap.size w w':=by
  have HR:Hid (RdL signC w p q l):=hr;have hq1:l.length≤q:=hr.1;have hq2:q≤2 ^ 63-1:=hr.2.1;clear hr
  by_cases hl:l.length≤40
  · have hlI:¬ (40<(l.length:Int)):=by omega
    have HC:Hid (sgC l=sgF l):=by show _=_;rw[sgC,if_pos hl]
    go_enter Tryz.func94,Tryz.ntmps94;go_wp2
    go_loopw [10] (fun i wr=>∃ k:Nat,k≤l.length∧i=.int .i64 k∧sgC l=sgF (l.drop k)∧Below w.heap.size w wr)
      (fun i _=>l.length-(intOf i).toNat)
    case atStart=>exact⟨0,Nat.zero_le _,rfl,HC.out,Below.refl _ _⟩
    case round=>
      obtain⟨k,hk,rfl,hn,BW⟩:=hrel
      by_cases hlt:k<l.length
      · have hI:(k:Int)<(l.length:Int):=by omega
        obtain⟨b,o,e1,hc⟩:=(HR.out.keep BW).2.2.2 (by omega);subst e1;obtain⟨a,ha⟩:∃ a,l[k]?=some a:=⟨l[k],by simp[hlt]⟩;obtain⟨us,hrep,hcell⟩:=hc k a ha;obtain⟨pa,qa,rfl,ra⟩:=zDx hrep;have c0:=hcell 0 _ rfl;have c1:=hcell 1 _ rfl;have c2:=hcell 2 _ rfl;rw[show signC.n=3 from rfl] at c0 c1 c2;rw[Nat.add_zero] at c0;clear hc hcell hrep ra;have B2:=Below.mk BW (.cells #[.int .i64 a.1,.int .i64 a.2.1,.slice pa a.2.2.length qa] 67);have HO:Hid (sgO a=if inB a.1 1 99&&inB a.2.1 0 9 then (if is32 a.2.2 then 0 else 1) else 3):=rfl
        have H0:Hid (sgO a=0→sgC l=sgF (l.drop (k+1))):=fun h=>hn.trans (zHN ha h)
        have H1:Hid (sgO a≠0→sgC l=sgO a):=fun h=>hn.trans (zJP ha h)
        clear hn;cases h1:inB a.1 1 99
        · have hz:Hid (sgO a=3):=by show _=_;rw[HO.out,h1];rfl
          have hz2:Hid (sgC l=3):=(H1.out (by rw[hz.out];decide)).trans hz.out;go_wp2_with fail;refine(zAh _ _).mono ?_;rintro e w2 ⟨rfl,hw⟩;subst hw;rw[h1];go_wp2;go_ret;exact⟨by rw[hz2.out];rfl,B2⟩
        · cases h2:inB a.2.1 0 9
          · have hz:Hid (sgO a=3):=by show _=_;rw[HO.out,h1,h2];rfl
            have hz2:Hid (sgC l=3):=(H1.out (by rw[hz.out];decide)).trans hz.out;go_wp2_with fail;refine(zAh _ _).mono ?_;rintro e w2 ⟨rfl,hw⟩;subst hw;rw[h1];go_wp2_with fail;refine(zEJ _ _).mono ?_;rintro e w2 ⟨rfl,hw⟩;subst hw;rw[h2];go_wp2;go_ret;exact⟨by rw[hz2.out];rfl,B2⟩
          · cases h3:is32 a.2.2
            · have hz:Hid (sgO a=1):=by show _=_;rw[HO.out,h1,h2,h3];rfl
              have hz2:Hid (sgC l=1):=(H1.out (by rw[hz.out];decide)).trans hz.out;go_wp2_with fail;refine(zAh _ _).mono ?_;rintro e w2 ⟨rfl,hw⟩;subst hw;rw[h1];go_wp2_with fail;refine(zEJ _ _).mono ?_;rintro e w2 ⟨rfl,hw⟩;subst hw;rw[h2];go_wp2_with fail;refine(zBn pa qa a.2.2 _).mono ?_;rintro e w2 ⟨rfl,hw⟩;subst hw;rw[h3];go_wp2;go_ret;exact⟨by rw[hz2.out];rfl,B2⟩
            · have hz:Hid (sgO a=0):=by show _=_;rw[HO.out,h1,h2,h3];rfl
              have hz2:Hid (sgC l=sgF (l.drop (k+1))):=H0.out hz.out;go_wp2_with fail;refine(zAh _ _).mono ?_;rintro e w2 ⟨rfl,hw⟩;subst hw;rw[h1];go_wp2_with fail;refine(zEJ _ _).mono ?_;rintro e w2 ⟨rfl,hw⟩;subst hw;rw[h2];go_wp2_with fail;refine(zBn pa qa a.2.2 _).mono ?_;rintro e w2 ⟨rfl,hw⟩;subst hw;rw[h3];go_wp2_with fail;go_roundw
              case rel=>exact⟨k+1,by omega,by go_num,hz2.out,B2⟩
              case measure=>simp[intOf];omega
      · have e:k=l.length:=by omega
        subst e;have hn2:Hid (sgC l=0):=hn.trans (zJQ l);clear hn;go_wp2;go_ret;exact⟨by rw[hn2.out];rfl,BW⟩
  · have hlI:40<(l.length:Int):=by omega
    rw[show sgC l=2 by rw[sgC,if_neg hl]];clear hl;go_enter Tryz.func94,Tryz.ntmps94;go_wp2;go_ret;exact⟨rfl,Below.refl _ _⟩
theorem zMC (w:World):Rd w none 0 []:=⟨Nat.le_refl _,by unfold maxLen;decide,fun _=>rfl,fun hp=>by simp at hp⟩
def Ent (N:Nat):Prop:=∀ (args:Array Value) (w:World),(callFunc N args).run Tryz.prog w=.ok (.enter N args) w
def Tells (w:World) (f:Value) (bs:List UInt8):Prop:=
  ∃ (N:Nat) (cs:Array Value),f=.func (.func N) #[] cs∧Ent N∧∀ W,Below w.heap.size w W→Tabs W→Calls Tryz.prog N cs W fun e W'=>∃ u,e=.returned u∧Own W' W.heap.size u bs∧Below W.heap.size W W'
def Steps (w:World) (f:Value) (bs out:List UInt8):Prop:=
  ∃ (N:Nat) (cs:Array Value),f=.func (.func N) #[] cs∧Ent N∧∀ W p q,Below w.heap.size w W→Tabs W→Rd W p q bs→Calls Tryz.prog N (#[.slice p bs.length q]++cs) W fun e W'=>∃ u,e=.returned (.agg #[.int .i64 0,u])∧Own W' W.heap.size u out∧Below W.heap.size W W'
theorem Tells.keep {w w':World} {f:Value} {bs:List UInt8} (h:Tells w f bs) (hb:Below w.heap.size w w'):Tells w' f bs:=by
  obtain⟨N,cs,rfl,he,h⟩:=h;exact⟨N,cs,rfl,he,fun W hW hT=>h W (Below.step hb hW) hT⟩
theorem Steps.keep {w w':World} {f:Value} {bs out:List UInt8} (h:Steps w f bs out) (hb:Below w.heap.size w w'):Steps w' f bs out:=by
  obtain⟨N,cs,rfl,he,h⟩:=h;exact⟨N,cs,rfl,he,fun W p q hW hT=>h W p q (Below.step hb hW) hT⟩
theorem zGt (p:Option Addr) (q:Nat) (bs:List UInt8) (w:World):Calls Tryz.prog 76 #[.slice p bs.length q] w fun e w'=>e=.returned (.bool (is32 bs))∧w'=w:=by
  by_cases h:bs.length=32
  · rw[show is32 bs=true by simp[is32,h]]
    have d1:((bs.length:Int)==32)=true:=by rw[beq_iff_eq];omega
    clear h;go_enter Tryz.func76,Tryz.ntmps76;go_wp2;go_ret;exact⟨rfl,rfl⟩
  · rw[show is32 bs=false by simp[is32,h]]
    have d1:((bs.length:Int)==32)=false:=by rw[beq_eq_false_iff_ne];omega
    clear h;go_enter Tryz.func76,Tryz.ntmps76;go_wp2;go_ret;exact⟨rfl,rfl⟩
theorem zIK (g:Nat) (p:Option Addr) (q:Nat) (bs:List UInt8) (W:World) (hg:Arr W g 22 [.slice p bs.length q]) (hr:Rd W p q bs) (hl:bs.length≤1000000):
    Calls Tryz.prog 175 #[.pointer (some ⟨g,0,none⟩)] W fun e W'=>∃ u,e=.returned u∧Own W' W.heap.size u bs∧Below W.heap.size W W':=by
  have c0:W.cell? ⟨g,0,none⟩=some (.slice p bs.length q):=by rw[hg.cell 0];rfl
  go_enter Tryz.func175,Tryz.ntmps175;go_wp2_with fail;refine(zAz p q bs W hr hl).mono ?_;rintro e W1 ⟨u,rfl,ho,hb⟩;go_wp2;go_ret;exact⟨_,rfl,ho,hb⟩
theorem zMD (p:Option Addr) (q:Nat) (bs:List UInt8) (w:World) (hr:Rd w p q bs) (hl:bs.length≤1000000):
    Calls Tryz.prog 159 #[.slice p bs.length q] w fun e w'=>∃ f,e=.returned f∧Tells w' f bs∧Below w.heap.size w w':=by
  have hA:=Arr.new w [.slice p bs.length q] 22
  have hmf:∀ (fn:Fn) (first cap:Array Value) (w:World),(Instr.makeFunc fn first cap).run Tryz.prog w=.ok (.func fn first cap) w:=fun _ _ _ _=>rfl
  go_enter Tryz.func159,Tryz.ntmps159;go_wp2;go_ret;refine⟨_,rfl,⟨_,_,rfl,(fun _ _=>by kernel_rfl),fun W hW _=>?_⟩,zA _ _⟩;exact zIK w.heap.size p q bs W (hA.stay hW) ((hr.keep (zA _ _)).keep hW) hl
theorem zCr (b:Nat):∀ (vs:List Value) (o:Nat) (w:World),w.grownBy (w.setCells b o vs) (some b)
  | [],_,w=>World.grownBy.refl _ _
  | v :: vs,o,w=>by
    have h1:w.grownBy (w.setCell ⟨b,o,none⟩ v) (some b):=⟨rfl,rfl,rfl,by simp[World.setCell],fun k hk hne=>Below.heap_setCell _ _ _ _ (fun e=>hne (by rw[e]))⟩;have h2:=zCr b vs (o+1) (w.setCell ⟨b,o,none⟩ v);exact⟨h2.os.trans h1.os,h2.tape.trans h1.tape,h2.output.trans h1.output,Nat.le_trans h1.size h2.size,fun k hk hne=>(h2.block k (Nat.lt_of_lt_of_le hk h1.size) hne).trans (h1.block k hk hne)⟩
theorem zFY (w:World) (B:Nat) (p:Option Addr) (q:Nat) (bs:List UInt8) (ho:Own w B (.slice p bs.length q) bs):
    ∃ w',(∀ ty,(Builtin.clear_ #[22] ty #[.slice p bs.length q]).run Tryz.prog w=.ok (.tuple #[]) w')∧w.grownBy w' (Value.slice p bs.length q).ownBlock:=by
  by_cases h0:bs.length=0
  · refine⟨w,fun ty=>?_,World.grownBy.refl _ _⟩;rw[h0]
    cases p <;> simp[Builtin.clear_,run_underlying Tryz.underlying22]
  · have ho':=ho;rcases ho.2 with ⟨e,hn⟩ | ⟨g,cap,cur,e,hb,hg,hle,hm,hs,ht⟩
    · exact absurd hn h0
    · cases e;refine⟨_,fun ty=>Lib.run_clear_slice w 22 5 ty (.int .u8 0) Tryz.underlying22 (fun _=>by kernel_rfl) rfl rfl g 0 _ _ (by omega) (fun j hj=>?_) (fun j hj=>?_),?_⟩
      · rw[Nat.zero_add,World.ownsRow.cellAt ho' j (by omega),zBg hj];rfl
      · rw[Nat.zero_add];exact World.ownsRow.frozenAt ho' j
      · exact zCr _ _ _ _
theorem zJj (g1 g2 t1 t2:Nat) (f s:Value) (bs out:List UInt8) (W:World) (h1:Arr W g1 t1 [f]) (h2:Arr W g2 t2 [s]) (hf:Tells W f bs) (hs:Steps W s bs out) (hT:Tabs W):
    Calls Tryz.prog 186 #[.pointer (some ⟨g1,0,none⟩),.pointer (some ⟨g2,0,none⟩)] W fun e W'=>∃ u,e=.returned u∧Own W' W.heap.size u out∧Below W.heap.size W W':=by
  obtain⟨N,cs,rfl,e1,K1⟩:=hf;obtain⟨M,ds,rfl,e2,K2⟩:=hs;have e1':∀ (args:Array Value) (w:World),(callFunc N args).run Tryz.prog w=.ok (.enter N args) w:=e1;have e2':∀ (args:Array Value) (w:World),(callFunc M args).run Tryz.prog w=.ok (.enter M args) w:=e2
  have c1:W.cell? ⟨g1,0,none⟩=some (.func (.func N) #[] cs):=by rw[h1.cell 0];rfl
  have k1:=K1 W (Below.refl _ _) hT;clear K1;go_enter Tryz.func186,Tryz.ntmps186;go_wp2_with fail;refine k1.mono ?_;rintro e W1 ⟨u,rfl,ho,hb⟩;obtain⟨p,q,rfl,rd⟩:=ho.rd
  have c2:W1.cell? ⟨g2,0,none⟩=some (.func (.func M) #[] ds):=by rw[(h2.stay hb).cell 0];rfl
  have k2:=K2 W1 p q hb (hT.keep hb) rd;clear k1 K2 c1;go_wp2_with fail;refine k2.mono ?_;rintro e W2 ⟨u2,rfl,ho2,hb2⟩;obtain⟨p2,q2,rfl,rd2⟩:=ho2.rd;obtain⟨W3,hcl,hg⟩:=zFY W2 W.heap.size p q bs (ho.stay hb2);have hf1:=zBf 0 p2 out.length q2 W2;have HO:Hid (Own W3 W.heap.size (.slice p2 out.length q2) out):=(ho2.other hg (fun k hk e=>by have h1:=ho2.ge k hk;have h2:=ho.lt k e;omega)).lower hb.size;have HB:Hid (Below W.heap.size W W3):=(Below.step hb hb2).grown hg (Nat.le_trans hb.size hb2.size) (fun k hk=>ho.ge k hk);clear k2 hg ho ho2 rd rd2 hb hb2;go_wp2;go_ret;exact⟨_,rfl,HO.out,HB.out⟩
theorem zLO (f s:Value) (bs out:List UInt8) (w:World) (hf:Tells w f bs) (hs:Steps w s bs out):
    Calls Tryz.prog 176 #[f,s] w fun e w'=>∃ g,e=.returned g∧Tells w' g out∧Below w.heap.size w w':=by
  have hA:=(Arr.new w [f] 197).old _ (.cells #[s] 146);have hB:=Arr.new (w.alloc (.cells #[f] 197)) [s] 146;rw[zD] at hB;have hb:Below w.heap.size w ((w.alloc (.cells #[f] 197)).alloc (.cells #[s] 146)):=Below.mk (zA _ _) _
  have hmf:∀ (fn:Fn) (first cap:Array Value) (w:World),(Instr.makeFunc fn first cap).run Tryz.prog w=.ok (.func fn first cap) w:=fun _ _ _ _=>rfl
  have hf':=hf.keep hb;have hs':=hs.keep hb;have sf:∃ N cs,f=.func (.func N) #[] cs:=⟨hf.choose,hf.choose_spec.choose,hf.choose_spec.choose_spec.1⟩;have ss:∃ N cs,s=.func (.func N) #[] cs:=⟨hs.choose,hs.choose_spec.choose,hs.choose_spec.choose_spec.1⟩;obtain⟨N,cs,rfl⟩:=sf;obtain⟨M,ds,rfl⟩:=ss;go_enter Tryz.func176,Tryz.ntmps176;go_wp2;go_ret;refine⟨_,rfl,⟨_,_,rfl,(fun _ _=>by kernel_rfl),fun W hW hT=>?_⟩,hb⟩;exact zJj _ _ _ _ _ _ bs out W (hA.stay hW) (hB.stay hW) (hf'.keep hW) (hs'.keep hW) hT
theorem zKs (g1:Nat) (p:Option Addr) (q:Nat) (key l:List UInt8) (W:World) (hg1:Arr W g1 9 [.string (strB l)]) (hr:Rd W p q key) (hT:Tabs W) (hk:key.length≤64) (hl:zAa l=true):
    Calls Tryz.prog 177 #[.slice p key.length q,.pointer (some ⟨g1,0,none⟩)] W fun e W'=>∃ u,e=.returned (.agg #[.int .i64 0,u])∧Own W' W.heap.size u (zAD key l [])∧Below W.heap.size W W':=by
  have c0:(W.alloc (.cells #[.int .i64 0,.slice none 0 0] 126)).cell? ⟨g1,0,none⟩=some (.string (strB l)):=by rw[(hg1.old _ _).cell 0];rfl
  have K:Hid (∀ w,Rd w p q key→Tabs w→Calls Tryz.prog 178 #[.slice p key.length q,.string (strB l),.slice none 0 0] w fun e w'=>∃ u,e=.returned (.agg #[.int .i64 0,u])∧Own w' w.heap.size u (zAD key l [])∧Below w.heap.size w w'):=fun w h h'=>by
    have g:=zJI p none q 0 key l [] w h (zMC w) (by have:=zCB hl;omega) h'
    have h1:keyB key=true:=by simp[keyB,hk]
    rw[show dkC key l []=0 by simp[dkC,h1,hl,zDr],show dkL key l []=zAD key l [] by simp[dkL,h1,hl,zDr]] at g;exact g
  clear hk hl;clear hg1;go_enter Tryz.func177,Tryz.ntmps177;go_wp2_with fail;refine(K.out _ (hr.keep (zA _ _)) (hT.keep (zA _ _))).mono ?_;rintro e w1 ⟨u,rfl,ho,hb⟩;obtain⟨hc,hf⟩:=zHu hb;rw[zD] at hc hf ho;obtain⟨a,cap,rfl,-⟩:=ho.rd;have hres:=Below.res hb;clear K hb c0;go_wp2;refine bodyPost_ret (v:=.agg #[.int .i64 0,.slice a (zAD key l []).length cap]) (by simp[results,Tryz.results177,go_sem,hc]) rfl ⟨_,rfl,?_,(hres.setCell (Nat.le_refl _) _).setCell (Nat.le_refl _) _⟩;exact((ho.set (Nat.lt_succ_self _) _).set (Nat.lt_succ_self _) _).lower (Nat.le_succ _)
theorem zIL (f:Value) (bs l:List UInt8) (w:World) (hf:Tells w f bs) (hk:bs.length≤64) (hl:zAa l=true):
    Calls Tryz.prog 160 #[f,.string (strB l)] w fun e w'=>∃ g,e=.returned g∧Tells w' g (zAD bs l [])∧Below w.heap.size w w':=by
  have hA:=Arr.new w [.string (strB l)] 9;have hb:=zA w (.cells #[.string (strB l)] 9)
  have hs:Steps (w.alloc (.cells #[.string (strB l)] 9)) (.func (.func 177) #[] #[.pointer (some ⟨w.heap.size,0,none⟩)]) bs (zAD bs l []):=
    ⟨_,_,rfl,(fun _ _=>by kernel_rfl),fun W p q hW hT rd=>zKs w.heap.size p q bs l W (hA.stay hW) rd hT hk hl⟩
  have K:=zLO f _ bs (zAD bs l []) _ (hf.keep hb) hs
  have hmf:∀ (fn:Fn) (first cap:Array Value) (w:World),(Instr.makeFunc fn first cap).run Tryz.prog w=.ok (.func fn first cap) w:=fun _ _ _ _=>rfl
  obtain⟨N,cs,rfl⟩:∃ N cs,f=.func (.func N) #[] cs:=⟨hf.choose,hf.choose_spec.choose,hf.choose_spec.choose_spec.1⟩;clear hf hs hA;go_enter Tryz.func160,Tryz.ntmps160;go_wp2_with fail;refine K.mono ?_;rintro e w1 ⟨g,rfl,hg,hb1⟩;go_wp2;go_ret;exact⟨_,rfl,hg,Below.step hb hb1⟩
theorem zKt (g1:Nat) (g2:Nat) (g3:Nat) (p p2:Option Addr) (q q2:Nat) (key l ctx:List UInt8) (n:Nat) (W:World) (hg1:Arr W g1 9 [.string (strB l)]) (hg2:Arr W g2 22 [.slice p2 ctx.length q2]) (hg3:Arr W g3 2 [.int .i64 (n:Int)]) (hr:Rd W p q key) (hr2:Rd W p2 q2 ctx) (hT:Tabs W) (hk:key.length≤64) (hl:zAB l ctx (n:Int)=0):
    Calls Tryz.prog 179 #[.slice p key.length q,.pointer (some ⟨g1,0,none⟩),.pointer (some ⟨g2,0,none⟩),.pointer (some ⟨g3,0,none⟩)] W fun e W'=>∃ u,e=.returned (.agg #[.int .i64 0,u])∧Own W' W.heap.size u (zAN key l ctx n)∧Below W.heap.size W W':=by
  have c0:(W.alloc (.cells #[.int .i64 0,.slice none 0 0] 126)).cell? ⟨g1,0,none⟩=some (.string (strB l)):=by rw[(hg1.old _ _).cell 0];rfl
  have c1:(W.alloc (.cells #[.int .i64 0,.slice none 0 0] 126)).cell? ⟨g2,0,none⟩=some (.slice p2 ctx.length q2):=by rw[(hg2.old _ _).cell 0];rfl
  have c2:(W.alloc (.cells #[.int .i64 0,.slice none 0 0] 126)).cell? ⟨g3,0,none⟩=some (.int .i64 (n:Int)):=by rw[(hg3.old _ _).cell 0];rfl
  have K:Hid (∀ w,Rd w p q key→Rd w p2 q2 ctx→Tabs w→Calls Tryz.prog 180 #[.slice p key.length q,.string (strB l),.slice p2 ctx.length q2,.int .i64 (n:Int)] w fun e w'=>∃ u,e=.returned (.agg #[.int .i64 0,u])∧Own w' w.heap.size u (zAN key l ctx n)∧Below w.heap.size w w'):=fun w h h' h''=>by
    have g:=zEv p p2 q q2 key l ctx (n:Int) w h h' (by have:=zCB (zCC hl).1;omega) h''
    have h1:keyB key=true:=by simp[keyB,hk]
    rw[show elC key l ctx (n:Int)=0 by simp[elC,h1,hl],show elL key l ctx (n:Int)=zAN key l ctx n by simp[elL,elC,h1,hl]] at g;exact g
  clear hk hl;clear hg1 hg2 hg3;go_enter Tryz.func179,Tryz.ntmps179;go_wp2_with fail;refine(K.out _ (hr.keep (zA _ _)) (hr2.keep (zA _ _)) (hT.keep (zA _ _))).mono ?_;rintro e w1 ⟨u,rfl,ho,hb⟩;obtain⟨hc,hf⟩:=zHu hb;rw[zD] at hc hf ho;obtain⟨a,cap,rfl,-⟩:=ho.rd;have hres:=Below.res hb;clear K hb c0 c1 c2;go_wp2;refine bodyPost_ret (v:=.agg #[.int .i64 0,.slice a (zAN key l ctx n).length cap]) (by simp[results,Tryz.results179,go_sem,hc]) rfl ⟨_,rfl,?_,(hres.setCell (Nat.le_refl _) _).setCell (Nat.le_refl _) _⟩;exact((ho.set (Nat.lt_succ_self _) _).set (Nat.lt_succ_self _) _).lower (Nat.le_succ _)
theorem zIM (f:Value) (bs l ctx:List UInt8) (n:Nat) (p2:Option Addr) (q2:Nat) (w:World) (hf:Tells w f bs) (hr2:Rd w p2 q2 ctx) (hk:bs.length≤64) (hl:zAB l ctx (n:Int)=0):
    Calls Tryz.prog 161 #[f,.string (strB l),.slice p2 ctx.length q2,.int .i64 (n:Int)] w fun e w'=>∃ g,e=.returned g∧Tells w' g (zAN bs l ctx n)∧Below w.heap.size w w':=by
  have hA1:=((Arr.new w [.string (strB l)] 9).old _ (.cells #[.slice p2 ctx.length q2] 22)).old _ (.cells #[.int .i64 (n:Int)] 2);have hA2:=(Arr.new (w.alloc (.cells #[.string (strB l)] 9)) [.slice p2 ctx.length q2] 22).old _ (.cells #[.int .i64 (n:Int)] 2);have hA3:=Arr.new ((w.alloc (.cells #[.string (strB l)] 9)).alloc (.cells #[.slice p2 ctx.length q2] 22)) [.int .i64 (n:Int)] 2;rw[zD] at hA2;rw[zD,zD] at hA3;have hb:Below w.heap.size w (((w.alloc (.cells #[.string (strB l)] 9)).alloc (.cells #[.slice p2 ctx.length q2] 22)).alloc (.cells #[.int .i64 (n:Int)] 2)):=Below.mk (Below.mk (zA _ _) _) _
  have hs:Steps (((w.alloc (.cells #[.string (strB l)] 9)).alloc (.cells #[.slice p2 ctx.length q2] 22)).alloc (.cells #[.int .i64 (n:Int)] 2)) (.func (.func 179) #[] #[.pointer (some ⟨w.heap.size,0,none⟩),.pointer (some ⟨w.heap.size+1,0,none⟩),.pointer (some ⟨w.heap.size+1+1,0,none⟩)]) bs (zAN bs l ctx n):=
    ⟨_,_,rfl,(fun _ _=>by kernel_rfl),fun W p q hW hT rd=>zKt w.heap.size (w.heap.size+1) (w.heap.size+1+1) p p2 q q2 bs l ctx n W (hA1.stay hW) (hA2.stay hW) (hA3.stay hW) rd ((hr2.keep hb).keep hW) hT hk hl⟩
  have K:=zLO f _ bs (zAN bs l ctx n) _ (hf.keep hb) hs
  have hmf:∀ (fn:Fn) (first cap:Array Value) (w:World),(Instr.makeFunc fn first cap).run Tryz.prog w=.ok (.func fn first cap) w:=fun _ _ _ _=>rfl
  obtain⟨N,cs,rfl⟩:∃ N cs,f=.func (.func N) #[] cs:=⟨hf.choose,hf.choose_spec.choose,hf.choose_spec.choose_spec.1⟩;clear hf hs hA1 hA2 hA3 hr2 hl;go_enter Tryz.func161,Tryz.ntmps161;go_wp2_with fail;refine K.mono ?_;rintro e w1 ⟨g,rfl,hg,hb1⟩;go_wp2;go_ret;exact⟨_,rfl,hg,Below.step hb hb1⟩
theorem zKu (f:Value) (bs:List UInt8) (w:World) (hf:Tells w f bs) (hT:Tabs w):
    Calls Tryz.prog 158 #[f] w fun e w'=>∃ u,e=.returned (.agg #[.int .i64 0,u])∧Own w' w.heap.size u bs∧Below w.heap.size w w':=by
  obtain⟨N,cs,rfl,e1,K1⟩:=hf;have e1':∀ (args:Array Value) (w:World),(callFunc N args).run Tryz.prog w=.ok (.enter N args) w:=e1;have k1:=K1 (w.alloc (.cells #[.int .i64 0,.slice none 0 0] 126)) (zA _ _) (hT.keep (zA _ _));clear K1 hT;go_enter Tryz.func158,Tryz.ntmps158;go_wp2_with fail;refine k1.mono ?_;rintro e w1 ⟨u,rfl,ho,hb⟩;obtain⟨hc,hf⟩:=zHu hb;rw[zD] at hc hf ho;obtain⟨a,cap,rfl,-⟩:=ho.rd;have hres:=Below.res hb;clear k1 hb;go_wp2;refine bodyPost_ret (v:=.agg #[.int .i64 0,.slice a bs.length cap]) (by simp[results,Tryz.results158,go_sem,hc]) rfl ⟨_,rfl,?_,(hres.setCell (Nat.le_refl _) _).setCell (Nat.le_refl _) _⟩;exact((ho.set (Nat.lt_succ_self _) _).set (Nat.lt_succ_self _) _).lower (Nat.le_succ _)
theorem zKv (p p2:Option Addr) (q q2:Nat) (exporter l ctx:List UInt8) (n:Int) (w:World) (hr:Rd w p q exporter) (hr2:Rd w p2 q2 ctx) (hl:l.length≤1048576) (hT:Tabs w):
    Calls Tryz.prog 136 #[.slice p exporter.length q,.string (strB l),.slice p2 ctx.length q2,.int .i64 n] w fun e w'=>∃ u,e=.returned (.agg #[.int .i64 (exC exporter l ctx n),u])∧Own w' w.heap.size u (exL exporter l ctx n)∧Below w.heap.size w w':=by
  have HT:Hid (Tabs w):=hT;clear hT;cases h1:is32 exporter
  · rw[show exC exporter l ctx n=1 by simp[exC,h1],show exL exporter l ctx n=[] by simp[exL,exC,h1]];go_enter Tryz.func136,Tryz.ntmps136;go_wp2_with fail;refine(zGt p q exporter _).mono ?_;rintro e w' ⟨rfl,hw⟩;subst hw;rw[h1];go_wp2;exact bodyPost_ret (v:=.agg #[.int .i64 1,.slice none 0 0]) (by simp[results,Tryz.results136,go_sem]) rfl ⟨_,rfl,zAA _ _,zA _ _⟩
  · by_cases hc:zAB l ctx n=0
    · obtain⟨g1,g2,g3⟩:=zCC hc;obtain⟨m,rfl,hm⟩:=zHF g3
      have l1:exporter.length=32:=by simpa [is32] using h1
      rw[show exC exporter l ctx (m:Int)=0 by simp[exC,h1,hc],show exL exporter l ctx (m:Int)=zBt exporter l ctx m by simp[exL,exC,h1,hc]]
      have KF:Hid (∀ w,Calls Tryz.prog 157 #[.string (strB l),.slice p2 ctx.length q2,.int .i64 (m:Int)] w fun e w'=>e=.returned (.int .i64 0)∧w'=w):=fun w=>by
        have g:=zBm p2 q2 l ctx (m:Int) w hl;rw[hc] at g;exact g
      obtain⟨dg,hdg⟩:∃ d,Hid (d=zX ctx):=⟨_,rfl⟩
      have HDL:Hid (dg.length=32):=by show _=_;rw[hdg.out,zAZ]
      have KDg:Hid (∀ w,Rd w p2 q2 ctx→Tabs w→Calls Tryz.prog 119 #[.slice p2 ctx.length q2] w fun e w'=>∃ a c,e=.returned (.agg #[.int .i64 0,.slice a 32 c])∧Own w' w.heap.size (.slice a 32 c) dg∧Below w.heap.size w w'):=fun w h h'=>by rw[hdg.out];exact zDE p2 q2 ctx w h h' (by omega)
      have KG:Hid (∀ w,Rd w p q exporter→Calls Tryz.prog 159 #[.slice p exporter.length q] w fun e w'=>∃ f,e=.returned f∧Tells w' f exporter∧Below w.heap.size w w'):=fun w h=>zMD p q exporter w h (by omega)
      have KD:Hid (∀ w f,Tells w f exporter→Calls Tryz.prog 160 #[f,.string (strB l)] w fun e w'=>∃ g,e=.returned g∧Tells w' g (zAD exporter l [])∧Below w.heap.size w w'):=fun w f h=>zIL f exporter l w h (by omega) g1
      have KX:Hid (∀ w f a c,Tells w f (zAD exporter l [])→Rd w a c dg→Calls Tryz.prog 161 #[f,.string ⟨#[101,120,112,111,114,116,101,114]⟩,.slice a 32 c,.int .i64 (m:Int)] w fun e w'=>∃ g,e=.returned g∧Tells w' g (zBt exporter l ctx m)∧Below w.heap.size w w'):=fun w f a c h h'=>by
        have k:=zIM f _ zBa dg m a c w h h' (by rw[zEH];decide) (by
          have e1:zAa zBa=true:=by decide
          have:=HDL.out
          simp[zAB,e1,inB];omega)
        rw[HDL.out,hdg.out] at k;rw[zDm];exact k
      have HR:Hid (Rd w p q exporter):=hr;have HR2:Hid (Rd w p2 q2 ctx):=hr2;clear l1 hr hr2 hc g1 g3;go_enter Tryz.func136,Tryz.ntmps136;go_wp2_with fail;refine(zGt p q exporter _).mono ?_;rintro e w' ⟨rfl,hw⟩;subst hw;rw[h1];go_wp2_with fail;refine(KF.out _).mono ?_;rintro e w' ⟨rfl,hw⟩;subst hw;go_wp2_with fail;refine(KDg.out _ (HR2.out.keep (zA _ _)) (HT.out.keep (zA _ _))).mono ?_;rintro e wm ⟨ad,cd,rfl,od,bd⟩;have BW:=Below.res bd;have CC:=(Arr.new w [.int .i64 0,.slice none 0 0] 126).stay bd;have hz:Hid (w.heap.size<wm.heap.size):=zGW bd;have RZ:=Rd.own od;have f1:=zBf 0 ad 32 cd;clear bd od KDg KF;go_wp2_with fail;clear f1;refine(KG.out _ (HR.out.keep BW)).mono ?_;rintro e w1 ⟨f1,rfl,t1,b1⟩;replace BW:=Below.step BW b1;replace CC:=CC.stay b1;replace hz:Hid (w.heap.size<w1.heap.size):=Nat.lt_of_lt_of_le hz.out b1.size;replace RZ:=RZ.keep b1;clear b1;go_wp2_with fail;refine(KD.out _ f1 t1).mono ?_;rintro e w2 ⟨f2,rfl,t2,b2⟩;replace BW:=Below.step BW b2;replace CC:=CC.stay b2;replace hz:Hid (w.heap.size<w2.heap.size):=Nat.lt_of_lt_of_le hz.out b2.size;replace RZ:=RZ.keep b2;clear b2 t1;go_wp2_with fail;refine(KX.out _ f2 _ _ t2 RZ).mono ?_;rintro e w3 ⟨f3,rfl,t3,b3⟩;replace BW:=Below.step BW b3;replace CC:=CC.stay b3;replace hz:Hid (w.heap.size<w3.heap.size):=Nat.lt_of_lt_of_le hz.out b3.size;replace RZ:=RZ.keep b3;clear b3 t2;go_wp2_with fail;refine(zKu f3 (zBt exporter l ctx m) _ t3 (HT.out.keep BW)).mono ?_;rintro e w4 ⟨u,rfl,ho,b4⟩;replace ho:=ho.lower (B':=w3.heap.size) (Nat.le_refl _);replace BW:=Below.step BW b4;replace CC:=CC.stay b4;clear b4 t3;obtain⟨a,cap,rfl,-⟩:=ho.rd;have c0:=CC.cell 0;have c1:=CC.cell 1;simp at c0 c1;have fz:=CC.frozen;clear HT HR HR2 KG KX KD RZ HDL hdg;go_wp2;refine bodyPost_ret (v:=.agg #[.int .i64 0,.slice a (zBt exporter l ctx m).length cap]) (by simp[results,Tryz.results136,go_sem,c0,c1]) rfl ⟨_,rfl,?_,(BW.setCell (Nat.le_refl _) _).setCell (Nat.le_refl _) _⟩;exact((ho.set hz.out _).set hz.out _).lower (Nat.le_of_lt hz.out)
    · rw[show exC exporter l ctx n=zAB l ctx n by simp[exC,h1],show exL exporter l ctx n=[] by simp[exL,exC,h1,hc]]
      have KF:Hid (∀ w,Calls Tryz.prog 157 #[.string (strB l),.slice p2 ctx.length q2,.int .i64 n] w fun e w'=>e=.returned (.int .i64 (zAB l ctx n))∧w'=w):=fun w=>zBm p2 q2 l ctx n w hl
      generalize zAB l ctx n=c at *
      have cz1:(c != 0)=true:=by rw[bne_iff_ne];exact hc
      clear hc hr hr2;go_enter Tryz.func136,Tryz.ntmps136;go_wp2_with fail;refine(zGt p q exporter _).mono ?_;rintro e w' ⟨rfl,hw⟩;subst hw;rw[h1];go_wp2_with fail;refine(KF.out _).mono ?_;rintro e w' ⟨rfl,hw⟩;subst hw;go_wp2;exact bodyPost_ret (v:=.agg #[.int .i64 c,.slice none 0 0]) (by simp[results,Tryz.results136,go_sem]) rfl ⟨_,rfl,zAA _ _,zA _ _⟩
end Go.Proofs.YtbaldmmbphbinaaGreatDoor
