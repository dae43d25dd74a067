import Derived.Test.YtiabacnmmojfjabGreatDoorJoint5
import Derived.Test.YtiabacnmmojfjabGreatDoorJoint3
import Derived.Test.YtiabacnmmojfjabGreatDoorJoint4
import Derived.Test.YtiabacnmmojfjabGreatDoorRows
import Derived.Test.YtiabacnmmojfjabGreatDoorJoint1
import Derived.ProofKit
import Derived.OpenShut
import Derived.Deep.QuietTactic
import Derived.BigQuiet
import Derived.Test.YtiabacnmmojfjabGreatDoorJoint2
set_option maxHeartbeats 1000000
set_option maxRecDepth 4000
namespace Go.Proofs.YtiabacnmmojfjabGreatDoor.Gen
open Go Go.RowKit Go.Proofs.YtiabacnmmojfjabGreatDoor
theorem low_pre (B:Nat):Pre (Below B):=⟨fun _ _ _ h k=>h.trans k,fun _ _=>⟨rfl,rfl,rfl,yf _,fun _ _=>rfl⟩⟩
theorem low_cell {B:Nat} {V:World} {p:Addr} {v:Value} (h:V.cell? p=some v) (hl:p.block<B):∀ s:CW (Below B) V,s.w.cell? p=some v:=fun s=>by
  rw[World.cell?_of_block (w:=V) (a:=p) (s.h.block p.block hl)];exact h
theorem low_some (B:Nat) (V:World):Nonempty (CW (Below B) V):=⟨⟨V,Below.refl _ _⟩⟩
section
variable {P:Program} {ops:Array Oper} {md:Region.Mode} {Q':Exit→Act→World→Prop} {last m:Nat} {R:World→World→Prop}
theorem wpM_pick (hPr:Pre R) (hlast:zCX md ops last=true) (hs:Region.noSelect ops=true) {V:World} (fuel:Nat):∀ (is:List Nat) (L:Array Bool) (a:Act),zGx md ops last L is=true→(zH ops is).all zCL=true→
    wpQuiet P ops (fun w'=>∃ s:CW R V,w'=s.w) (fun a'=>wpM R P md ops Q' last m fuel (zDI L is) a' V) (zH ops is) a→wpM R P md ops Q' last m (is.length+fuel) L a V
  | [],L,a,_,_,h=>by simpa [zH,wpQuiet,zDI] using h
  | i :: is,L,a,hok,hp,h=>by
    simp only[zGx,Bool.and_eq_true,decide_eq_true_eq] at hok;obtain⟨hil,hcl,hr,hf,hok'⟩:=hok
    have hr':i∈Region.ready md ops L:=by simpa using hr
    obtain⟨-,o,h0,-⟩:=mem_ready.1 hr'
    have ho:zH ops (i :: is)=o :: zH ops is:=by simp only[zH,h0]
    rw[ho] at h hp;simp only[List.all_cons,Bool.and_eq_true] at hp
    have hst:qOp P ops (fun w'=>∃ s:CW R V,w'=s.w) i (wpQuiet P ops (fun w'=>∃ s:CW R V,w'=s.w) (fun a'=>wpM R P md ops Q' last m fuel (zDI L (i :: is)) a' V) (zH ops is)) a:=by unfold qOp;simp only[h0];exact h
    obtain⟨v,hy,hK⟩:=yieldsIn_of_qOp h0 hst;have hrest:=wpM_pick hPr hlast hs fuel is (L.setIfInBounds i true) (a.put o.dst v) hok' hp.2 hK;rw[show(i :: is).length+fuel=(is.length+fuel)+1 by simp;omega];refine wpM_first hPr hlast h0 hil (Region.noSelect_spec hs) (is.length+fuel) _ a V (zE6 hcl) (Region.free_spec h0 hf) hr' ?_ hrest;rcases hy with ⟨hw,hv⟩ | ⟨hw,rfl⟩
    · refine .inl ⟨hw,fun w hw'=>?_⟩;have h3:=hv w hw';unfold Oper.quietAt at h3;cases hrn:(execOp a.eval o).run P w with
      | ok n w1=>
        obtain⟨u,rfl⟩:=zB3 hp.1 a.eval w n w1 hrn;rw[hrn] at h3;obtain⟨e1,e2⟩:=h3;rw[e1,e2]
      | halt x w1=>rw[hrn] at h3;exact h3.elim
    · exact .inr ⟨hw,rfl⟩
theorem wpM_only {L:Array Bool} {i fuel:Nat} {a:Act} {V:World} (hr:Region.ready md ops L=[i]) (h:mOp R P ops i (wpM R P md ops Q' last m fuel (L.setIfInBounds i true)) a V):wpM R P md ops Q' last m (fuel+1) L a V:=
  ⟨by rw[hr];simp,fun j hj=>by rw[hr] at hj;rw[List.mem_singleton.1 hj];exact h⟩
def makesB (o:Oper):Bool:=match o.op with
  | .buildSlice ..=>true
  | .call c=>match c.callee with
    | .builtin .append=>true
    | _=>false
  | _=>false
theorem makesB_value {o:Oper} (hp:makesB o=true) (ρ:Operand→Value) (w:World) (n:Next) (w':World) (h:(execOp ρ o).run P w=.ok n w'):∃ u,n=.value u:=by
  unfold makesB at hp;unfold execOp at h
  split at hp <;> rename_i ho <;> simp only[ho] at h
  · exact zIJ _ w n w' h
  · split at hp
    · rename_i hc;simp only[resolve,hc,Sem.run_bind,Sem.run_pure,Result.andThen_ok,invoke,builtin] at h;exact zKP _ n w' h
    · cases hp
  · cases hp
theorem mOp_make {k:Nat} {o:Oper} {a:Act} {V:World} {K:Act→World→Prop} (h0:ops[k]?=some o) (hw:Region.wanted o (yielded ops a.tmps)=true)
    (h:∀ w,(∃ n,w=V.drewN n)→∃ v w',(execOp a.eval o).run P w=.ok (.value v) w'∧(∃ s:CW R w,w'=s.w)∧K (a.put o.dst v) w'):mOp R P ops k K a V:=by
  unfold mOp;simp only[h0,hw,if_true]
  exact .inr fun w hw'=>.inr (h w hw')
theorem mOp_call {k:Nat} {o:Oper} {a:Act} {V:World} {K:Act→World→Prop} (h0:ops[k]?=some o) (hw:Region.wanted o (yielded ops a.tmps)=true)
    (f:FuncId) (args args':Array Value) (hr:∀ w,(execOp a.eval o).run P w=.ok (.enter f args) w) (he:args=args')
    (h:∀ w,(∃ n,w=V.drewN n)→Calls P f args' w (fun e w'=>∃ v,e=.returned v∧(∃ s:CW R w,w'=s.w)∧K (a.put o.dst v) w')):mOp R P ops k K a V:=by
  subst he;unfold mOp;simp only[h0,hw,if_true]
  exact .inr fun w hw'=>.inl ⟨f,args,hr w,h w hw'⟩
theorem wpM_more (hPr:Pre R) {V:World} {L:Array Bool} {a:Act} (is:List Nat) (n fuel:Nat) (hn:n=is.length+fuel) (hlast:zCX md ops last=true) (hs:Region.noSelect ops=true) (hB:zGx md ops last L is=true) (hp:(zH ops is).all zCL=true)
    (h:wpQuiet P ops (fun w'=>∃ s:CW R V,w'=s.w) (fun a'=>wpM R P md ops Q' last m fuel (zDI L is) a' V) (zH ops is) a):wpM R P md ops Q' last m n L a V:=by
  subst hn;exact wpM_pick hPr hlast hs fuel is L a hB hp h
theorem mOp_list {k:Nat} {o:Oper} {a:Act} {V:World} {K:Act→World→Prop} (h0:ops[k]?=some o) (hw:Region.wanted o (yielded ops a.tmps)=true) (hk:makesB o=true)
    (h:∀ w,(∃ n,w=V.drewN n)→wpList P ops (fun e a' w'=>e=.normal∧R w w'∧K a' w') [o] a w):mOp R P ops k K a V:=by
  unfold mOp;simp only[h0,hw,if_true]
  refine .inr fun w hw'=>.inr ?_
  have h1:=h w hw';unfold wpList at h1;simp only[hw,if_true] at h1;rcases h1 with h1 | ⟨-,a1,w1,h1,-⟩
  · unfold Oper.wp at h1;cases hrn:(execOp a.eval o).run P w with
    | ok n w1=>
      obtain⟨u,rfl⟩:=makesB_value hk a.eval w n w1 hrn;rw[hrn] at h1;simp only[Oper.upon,wpList] at h1;exact⟨u,w1,rfl,⟨⟨w1,h1.2.1⟩,rfl⟩,h1.2.2⟩
    | halt x w1=>
      rw[hrn] at h1
      cases x <;> simp[Oper.upon] at h1
  · cases h1
theorem wpM_end {L:Array Bool} {a:Act} {V:World} (hL:L=upTo ops.size last) (hm:last+m=ops.size) (hB:(List.range' last m).all (fun i=>okR md ops i&&zEF md ops i)=true) (hp:0<m) (h:∀ w,(∃ n,w=V.drewN n)→wpList P ops Q' (ops.toList.drop last) a w):wpM R P md ops Q' last m 0 L a V:=by
  subst hL;exact wpM_tail hm hB hp h
theorem wp_region_pick (hPr:Pre R) {id:Nat} {a:Act} {w:World} (is:List Nat) (last k m:Nat) (hk:last=is.length+k) (hn:ops.size=last+m) (hm:P.follows .mixedOrders=true) (hs:Region.noSelect ops=true) (hlast:zCX .any ops last=true) (hB:zGx .any ops last (Array.replicate ops.size false) is=true) (hp:(zH ops is).all zCL=true)
    (h:wpQuiet P ops (fun w'=>∃ s:CW R w,w'=s.w) (fun a'=>wpM R P .any ops Q' last m k (zDI (Array.replicate ops.size false) is) a' w) (zH ops is) a):(Code.region id ops true).wp P Q' a w:=by
  have h1:=wpM_pick hPr (Q':=Q') (m:=m) hlast hs k is (Array.replicate ops.size false) a hB hp h;refine wp_region_any hm ?_;have h2:=wpAny_of_M hPr (is.length+k) _ a w { w with drawn:=w.drawn+1 } ⟨1,rfl⟩ h1;rw[← hk,← hn] at h2;exact h2
theorem zWr (hPr:Pre R) {id:Nat} {a:Act} {w:World} (is:List Nat) (last k m:Nat) (h:wpQuiet P ops (fun w'=>∃ s:CW R w,w'=s.w) (fun a'=>wpM R P .any ops Q' last m k (zDI (Array.replicate ops.size false) is) a' w) (zH ops is) a) (hk:last=is.length+k:=by exact rfl) (hn:ops.size=last+m:=by exact rfl) (hm:P.follows .mixedOrders=true:=by exact rfl) (hs:Region.noSelect ops=true:=by kernel_rfl) (hlast:zCX .any ops last=true:=by kernel_rfl) (hB:zGx .any ops last (Array.replicate ops.size false) is=true:=by kernel_rfl) (hp:(zH ops is).all zCL=true:=by kernel_rfl):(Code.region id ops true).wp P Q' a w:=wp_region_pick hPr is last k m hk hn hm hs hlast hB hp h
theorem zWo (i:Nat) {L:Array Bool} {fuel:Nat} {a:Act} {V:World} (h:mOp R P ops i (wpM R P md ops Q' last m fuel (L.setIfInBounds i true)) a V) (hr:Region.ready md ops L=[i]:=by kernel_rfl):wpM R P md ops Q' last m (fuel+1) L a V:=wpM_only hr h
theorem zWc (i:Nat) {L:Array Bool} {fuel:Nat} {o:Oper} {a:Act} {V:World} (h0:ops[i]?=some o) (f:FuncId) (args:Array Value) (h:∀ w,(∃ n,w=V.drewN n)→Calls P f args w (fun e w'=>∃ v,e=.returned v∧(∃ s:CW R w,w'=s.w)∧wpM R P md ops Q' last m fuel (L.setIfInBounds i true) (a.put o.dst v) w')) (hr:Region.ready md ops L=[i]:=by kernel_rfl) (hw:Region.wanted o (yielded ops a.tmps)=true:=by go_simp) (he:∀ w,(execOp a.eval o).run P w=.ok (.enter f args) w:=by intro w;go_simp):wpM R P md ops Q' last m (fuel+1) L a V:=wpM_only hr (mOp_call h0 hw f args args he rfl h)
theorem zWk (i:Nat) {L:Array Bool} {fuel:Nat} {o:Oper} {a:Act} {V:World} (h0:ops[i]?=some o) (h:∀ w,(∃ n,w=V.drewN n)→∃ v w',(execOp a.eval o).run P w=.ok (.value v) w'∧(∃ s:CW R w,w'=s.w)∧wpM R P md ops Q' last m fuel (L.setIfInBounds i true) (a.put o.dst v) w') (hr:Region.ready md ops L=[i]:=by kernel_rfl) (hw:Region.wanted o (yielded ops a.tmps)=true:=by go_simp):wpM R P md ops Q' last m (fuel+1) L a V:=wpM_only hr (mOp_make h0 hw h)
theorem zWe {L:Array Bool} {a:Act} {V:World} (h:∀ w,(∃ n,w=V.drewN n)→wpList P ops Q' (ops.toList.drop last) a w) (hL:L=upTo ops.size last:=by kernel_rfl) (hm:last+m=ops.size:=by exact rfl) (hB:(List.range' last m).all (fun i=>okR md ops i&&zEF md ops i)=true:=by kernel_rfl) (hp:0<m:=by decide):wpM R P md ops Q' last m 0 L a V:=wpM_end hL hm hB hp h
end
end Go.Proofs.YtiabacnmmojfjabGreatDoor.Gen
open Go.Proofs.Tryz
namespace Go.Proofs.YtiabacnmmojfjabGreatDoor
section
open Go Go.RowKit
section
variable {P:Program} {ops:Array Oper} {md:Region.Mode} {Q':Exit→Act→World→Prop} {last m:Nat}
end
def zOf (p:Option Addr) (n q g:Nat):Prop:=∀ k,(Value.slice p n q).ownBlock=some k→k≠g
theorem stored {V W:World} {g n q:Nat} {t:TypeId} {p:Option Addr} {L:List UInt8} (BB:Below V.heap.size V W) (AA:Arr W g t [.int .i64 0,.slice none 0 0]) (GG:V.heap.size≤g) (r:Rd W p q L) (NE:zOf p n q g):
    Arr ((W.setCell ⟨g,0,none⟩ (.int .i64 0)).setCell ⟨g,1,none⟩ (.slice p n q)) g t [.int .i64 0,.slice p n q]∧Rd ((W.setCell ⟨g,0,none⟩ (.int .i64 0)).setCell ⟨g,1,none⟩ (.slice p n q)) p q L∧Below V.heap.size V ((W.setCell ⟨g,0,none⟩ (.int .i64 0)).setCell ⟨g,1,none⟩ (.slice p n q)):=by
  refine⟨(AA.set 0 _).set 1 _,⟨r.1,r.2.1,r.2.2.1,fun hp=>?_⟩,(BB.setCell GG _).setCell GG _⟩;obtain⟨b,o,rfl,hc⟩:=r.2.2.2 hp;have hb:b≠g:=NE b (by simp[Value.ownBlock]);refine⟨b,o,rfl,fun i hi=>?_⟩;rw[World.cell?_setCell_other _ _ _ _ (by simp;try omega),World.cell?_setCell_other _ _ _ _ (by simp;try omega)];exact hc i hi
theorem share {J A:Prop} (h:Hid J→A) (hj:J):A:=h hj
end
section
open Go.RowKit
theorem Win.wide {F:World→Prop} {lo hi a b:Nat} {w:World} (h:Win F a b w) (h1:lo≤a) (h2:b≤hi) (h3:hi≤w.heap.size):Win F lo hi w:=
  ⟨h.now,h3,fun w' hs=>h.fr w' fun k k1 k2=>hs k (yi h1 k1) (Nat.lt_of_lt_of_le k2 h2)⟩
end
section
open Go.ChangeShapes Go.WideShapes Go.ChangeAt Go.RowKit
theorem zDl:(Tryz.prog.info? 5).map (fun i=>(i.zero,i.size,i.bytes))=some (some (.int .u8 0),1,1):=by kernel_rfl
theorem zKW (a:Option Addr) (cap:Nat) (bs:List UInt8) (w:World) (hr:Rd w a cap bs) (hl:bs.length≤1048576):
    Calls prog 47 #[.slice a bs.length cap] w fun e w'=>∃ v,e=.returned v∧Own w' w.heap.size v bs∧Below w.heap.size w w':=by
  obtain⟨i0,hi,hz0,hz1,hz2⟩:=info_parts zDl
  have hm:bs.length≤maxLen:=by unfold maxLen;omega
  go_enter func47,ntmps47
  go_wp2_with (first
    | (at_make;refine wpList_make_full _ rfl (.tmp 6) (.tmp 6) 22 rfl w.heap.size 5 i0 (.int .u8 0) 1 underlying22 hi hz0 hz1 .i64 .i64 _ _ bs.length rfl rfl rfl rfl (by rw[hz2];omega) hm (yf _) ?_;intro w1 hown hgrow)
    | go_in)
  rw[zCc,← zHU bs bs.length] at hown;have hb1:Below w.heap.size w w1:=(Below.refl _ _).grown hgrow (yf _) (fun k hk=>by simp at hk);clear hgrow hz0 hz1 hz2 hi
  go_loopw [4] (fun i wr=>∃ k:Nat,k≤bs.length∧i=.int .i64 k∧wr.ownsRow w.heap.size 5 1 (.slice (some ⟨w.heap.size,0,none⟩) bs.length bs.length) bs.length (part bs bs.length k)∧Below w.heap.size w wr)
    (fun i _=>bs.length-(intOf i).toNat)
  case atStart=>exact⟨0,Nat.zero_le _,rfl,hown,hb1⟩
  case round=>
    obtain⟨k,hk,rfl,hown,hbel⟩:=hrel
    by_cases hlt:k<bs.length
    · obtain⟨b,o,rfl,hc⟩:=hr.2.2.2 (by omega);have hlb:b<w.heap.size:=World.block_lt_of_cell? w _ (hc 0 (by omega));have hcx:wr.cell? ⟨b,o+k,none⟩=some (.int .u8 (at8 bs k)):=(hbel.cell (by exact hlb)).trans (hc k hlt)
      have hcy:wr.cell? ⟨w.heap.size,k,none⟩=some (.int .u8 0):=by rw[World.ownsRow.cellAt hown k (by omega),zJ9 bs k hlt]
      have hfy:wr.frozen? ⟨w.heap.size,k,none⟩=false:=World.ownsRow.frozenAt hown k;have R:=World.ownsRow.stored hown k (.int .u8 (at8 bs k));rw[zIp bs k hlt] at R;have RB:Below w.heap.size w (wr.setCell ⟨w.heap.size,k,none⟩ (.int .u8 (at8 bs k))):=hbel.setCell (yf _) _;clear hc hr hown;go_wp2;go_roundw
      case rel=>exact⟨k+1,by omega,by go_num,R.1,RB⟩
      case measure=>simp[intOf];omega
    · have e:k=bs.length:=by omega
      subst e;rw[zIo] at hown;go_wp2;go_ret;exact⟨_,rfl,hown,hbel⟩
theorem zB4 (a b:Option Addr) (ca cb:Nat) (bs:List UInt8) (w:World) (hra:Rd w a ca bs) (hrb:Rd w b cb bs):
    Calls prog 60 #[.slice a bs.length ca,.slice b bs.length cb] w fun e w'=>e=.returned (.bool true)∧Below w.heap.size w w':=by
  have hm:bs.length≤maxLen:=yi hra.1 hra.2.1;unfold maxLen at hm;go_enter func60,ntmps60;go_wp2
  go_loopw [5] (fun i wr=>∃ k:Nat,k≤bs.length∧i=.int .i64 k∧Below w.heap.size w wr)
    (fun i _=>bs.length-(intOf i).toNat)
  case atStart=>exact⟨0,Nat.zero_le _,rfl,Below.refl _ _⟩
  case round=>
    obtain⟨k,hk,rfl,hbel⟩:=hrel
    by_cases hlt:k<bs.length
    · obtain⟨b1,o1,rfl,hc1⟩:=hra.2.2.2 (by omega);obtain⟨b2,o2,rfl,hc2⟩:=hrb.2.2.2 (by omega);have hcx:wr.cell? ⟨b1,o1+k,none⟩=some (.int .u8 (at8 bs k)):=(hbel.cell (World.block_lt_of_cell? w _ (hc1 k hlt))).trans (hc1 k hlt);have hcy:wr.cell? ⟨b2,o2+k,none⟩=some (.int .u8 (at8 bs k)):=(hbel.cell (World.block_lt_of_cell? w _ (hc2 k hlt))).trans (hc2 k hlt)
      have hlt':(k:Int)<(bs.length:Int):=by omega
      clear hc1 hc2 hra hrb;go_wp2
      go_quiet (fail)
      go_wp2;go_roundw
      case rel=>exact⟨k+1,by omega,by go_num,below_drewN hbel _⟩
      case measure=>simp[intOf];omega
    · go_wp2;go_ret;exact⟨rfl,hbel⟩
theorem zFj (B:Nat) (v:Value) (bs:List UInt8) (m:Nat) (w:World) (ho:Own w B v bs) (hm:m+bs.length≤1000000000000):
    Calls prog 62 #[v,.int .i64 m] w fun e w'=>e=.returned (.int .i64 ((m:Int)+(bs.length:Int)))∧Own w' B v (zBg m bs.length)∧w.grownBy w' v.ownBlock:=by
  obtain⟨h1,h2⟩:=id ho;rcases h2 with ⟨rfl,hn⟩ | ⟨g,cap,cur,rfl,hb,hg,hle,hcm,hs,ht⟩
  · have e:bs=[]:=List.length_eq_zero_iff.1 hn;subst e;go_enter func62,ntmps62;go_wp2;refine wp_loop_rounds 1 ?_;rw[rounds_succ];go_wp2;go_ret;exact⟨by simp,ho,World.grownBy.refl _ _⟩
  · clear h1 hb hg hs ht cur;go_enter func62,ntmps62;go_wp2
    go_loopw [1,5] (fun q i wr=>∃ j:Nat,j≤bs.length∧i=.int .i64 j∧q=.int .i64 ((m:Int)+j)∧Own wr B (.slice (some ⟨g,0,none⟩) bs.length cap) (zDB bs m j)∧w.grownBy wr (some g))
      (fun _ i _=>bs.length-(intOf i).toNat)
    case atStart=>exact⟨0,Nat.zero_le _,rfl,by simp,by rw[zIE];exact ho,World.grownBy.refl _ _⟩
    case round=>
      obtain⟨j,hj,rfl,rfl,hown,hgr⟩:=hrel;have hml:=zGK bs m j hj
      by_cases hlt:j<bs.length
      · unfold Own at hown;rw[hml] at hown
        have hcy:wr.cell? ⟨g,j,none⟩=some (.int .u8 (at8 (zDB bs m j) j)):=by rw[World.ownsRow.cellAt hown j (by omega),zD9 (by omega)]
        have hfy:wr.frozen? ⟨g,j,none⟩=false:=World.ownsRow.frozenAt hown j;have R:=World.ownsRow.stored hown j (.int .u8 (((m:Int)+j) % 256));rw[zJa bs m j hlt] at R;have hml2:=zGK bs m (j+1) hlt;clear hown hml ho;go_wp2;go_roundw
        case rel=>exact⟨j+1,by omega,by go_num,by go_num,by unfold Own;rw[hml2];exact R.1,zEA hgr R.2⟩
        case measure=>simp[intOf];omega
      · have e:j=bs.length:=by omega
        subst e;rw[zJZ] at hown;go_wp2;go_ret;exact⟨rfl,hown,hgr⟩
theorem zFk (a:Option Addr) (cap:Nat) (n m:Nat) (w:World) (hr:Rd w a cap (zBg m n)) (hm:m+n≤1048577):
    Calls prog 112 #[.slice a n cap,.int .i64 m] w fun e w'=>e=.returned (.int .i64 ((m:Int)+(n:Int)))∧w'=w:=by
  unfold Rd at hr;rw[zBz] at hr;obtain⟨h1,h2,h3,h4⟩:=hr;unfold maxLen at h2;go_enter func112,ntmps112;go_wp2
  go_loop [1,5] (fun q i=>∃ j:Nat,j≤n∧i=.int .i64 j∧q=.int .i64 ((m:Int)+j))
    (fun _ i=>n-(intOf i).toNat)
  case atStart=>exact⟨0,Nat.zero_le _,rfl,by simp⟩
  case round=>
    obtain⟨j,hj,rfl,rfl⟩:=hrel
    by_cases hlt:j<n
    · obtain⟨b,o,rfl,hc⟩:=h4 (by omega)
      have hcx:w.cell? ⟨b,o+j,none⟩=some (.int .u8 (((m:Int)+j) % 256)):=by rw[hc j hlt,zHV hlt]
      clear hc h4;go_wp2
      go_round
      case rel=>exact⟨j+1,by omega,by go_num,by go_num⟩
      case measure=>simp[intOf];omega
    · have e:j=n:=by omega
      subst e;go_wp2;go_ret;exact⟨rfl,rfl⟩
theorem zHj (m:Int) (B:Nat) (v:Value) (bs:List UInt8) (w:World) (ho:Own w B v bs) (h0:0≤m) (hm:m≤900000000000) (hl:bs.length≤1000000000):
    Calls prog 62 #[v,.int .i64 m] w fun e w'=>e=.returned (.int .i64 (m+(bs.length:Int)))∧Own w' B v (zBg m.toNat bs.length)∧w.grownBy w' v.ownBlock:=by
  obtain⟨m,rfl⟩:=Int.eq_ofNat_of_zero_le h0;exact zFj B v bs m w ho (by omega)
def zOn (bs:List UInt8):Int:=if bs.length=4 then 0 else 1
def zOp (bs:List UInt8):Int:=if bs.length=4 then (getB bs:Nat) else 0
theorem zNG (a:Option Addr) (cap:Nat) (bs:List UInt8) (w:World) (hr:Rd w a cap bs) (hl:bs.length≤7):
    Calls prog 126 #[.slice a bs.length cap] w fun e w'=>e=.returned (.int .i64 (getB bs:Nat))∧w'=w:=by
  go_enter func126,ntmps126;go_wp2
  go_loop [3,4] (fun q i=>∃ k:Nat,k≤bs.length∧i=.int .i64 k∧q=.int .i64 (getB (bs.take k):Nat))
    (fun _ i=>bs.length-(intOf i).toNat)
  case atStart=>exact⟨0,Nat.zero_le _,rfl,by simp[getB]⟩
  case round=>
    obtain⟨k,hk,rfl,rfl⟩:=hrel
    by_cases hlt:k<bs.length
    · obtain⟨b,o,rfl,hc⟩:=hr.2.2.2 (by omega);have hcx:=hc k hlt;have HG:Hid (((getB (bs.take (k+1)):Nat):Int)=(getB (bs.take k):Int)*256+at8 bs k):=zKB bs k hlt
      have hg1:(getB (bs.take k):Int)≤281474976710656:=by
        have:=Nat.lt_of_lt_of_le (zIG (bs.take k)) (Nat.pow_le_pow_right (by decide) (show(bs.take k).length≤6 by have:=List.length_take_le k bs;omega));omega
      have h0:=zE1 bs k;have h1:=zE2 bs k;generalize getB (bs.take k)=m at *;generalize at8 bs k=b8 at *;clear hc hr;go_wp2
      go_round
      case rel=>exact⟨k+1,by omega,by go_num,by rw[HG.out]⟩
      case measure=>simp[intOf];omega
    · have e:k=bs.length:=by omega
      subst e;rw[List.take_length];go_wp2;go_ret;exact⟨rfl,rfl⟩
theorem zIL (a:Option Addr) (cap n:Nat) (bs:List UInt8) (w:World) (hr:Rd w a cap bs) (hn:bs.length=n) (hl:n≤7):
    Calls prog 126 #[.slice a n cap] w fun e w'=>e=.returned (.int .i64 (getB bs:Nat))∧w'=w:=by
  subst hn;exact zNG a cap bs w hr hl
theorem zFl (v n:Nat) (w:World) (hv:v<4611686018427387904) (hn:n≤1048576):
    Calls prog 83 #[.int .i64 v,.int .i64 n] w fun e w'=>∃ u,e=.returned u∧Own w' w.heap.size u (putB v n)∧Below w.heap.size w w':=by
  obtain⟨i0,hi,hz0,hz1,hz2⟩:=info_parts zDl
  have hm:n≤maxLen:=by unfold maxLen;omega
  go_enter func83,ntmps83
  go_wp2_with (first
    | (at_make;refine wpList_make_full _ rfl (.tmp 7) (.tmp 7) 22 rfl w.heap.size 5 i0 (.int .u8 0) 1 underlying22 hi hz0 hz1 .i64 .i64 _ _ n rfl rfl rfl rfl (by rw[hz2];omega) hm (yf _) ?_;intro w1 hown hgrow)
    | go_in)
  rw[zCc,← zIF v n] at hown;have hb1:Below w.heap.size w w1:=(Below.refl _ _).grown hgrow (yf _) (fun k hk=>by simp at hk);clear hgrow hz0 hz1 hz2 hi
  go_loopw [0,6] (fun q i wr=>∃ k:Nat,k≤n∧i=.int .i64 ((n:Int)-1-k)∧q=.int .i64 ((v / 256 ^ k:Nat):Int)∧wr.ownsRow w.heap.size 5 1 (.slice (some ⟨w.heap.size,0,none⟩) n n) n (zCU v n k)∧Below w.heap.size w wr)
    (fun _ i _=>(intOf i+1).toNat)
  case atStart=>exact⟨0,Nat.zero_le _,by simp,by simp,hown,hb1⟩
  case round=>
    obtain⟨k,hk,rfl,rfl,hown,hbel⟩:=hrel
    by_cases hlt:k<n
    · have hcy:wr.cell? ⟨w.heap.size,n-1-k,none⟩=some (.int .u8 0):=by rw[World.ownsRow.cellAt hown (n-1-k) (by omega),zKA v n k hlt]
      have hfy:wr.frozen? ⟨w.heap.size,n-1-k,none⟩=false:=World.ownsRow.frozenAt hown _;have hvk:v / 256 ^ k≤v:=Nat.div_le_self _ _
      have HV:Hid (v / 256 ^ (k+1)=v / 256 ^ k / 256):=by show _=_;rw[Nat.pow_succ,Nat.div_div_eq_div_mul]
      have R:=World.ownsRow.stored hown (n-1-k) (.int .u8 ((v / 256 ^ k % 256:Nat):Int));rw[zGM v n k hlt] at R;generalize v / 256 ^ k=q at *;rw[show((q % 256:Nat):Int)=(q:Int) % 256 by omega] at R
      have hix:((n:Int)-1-k).toNat=n-1-k:=by omega
      have hge:(0:Int)≤(n:Int)-1-k:=by omega
      have hlt2:(n:Int)-1-k<n:=by omega
      have hq1:(q:Int)≤4611686018427387904:=by omega
      have RB:Below w.heap.size w (wr.setCell ⟨w.heap.size,n-1-k,none⟩ (.int .u8 ((q:Int) % 256))):=hbel.setCell (yf _) _;clear hown hvk hv;go_wp2;go_roundw
      case rel=>exact⟨k+1,by omega,by go_num,by rw[HV.out];go_num,R.1,RB⟩
      case measure=>simp[intOf];omega
    · have e:k=n:=by omega
      subst e;rw[zJb] at hown;go_wp2;go_ret;refine⟨_,rfl,?_,hbel⟩;unfold Own;rw[zM];exact hown
theorem zIM (v n:Int) (w:World) (h0:0≤v) (hv:v<4611686018427387904) (h1:0≤n) (hn:n≤1048576):
    Calls prog 83 #[.int .i64 v,.int .i64 n] w fun e w'=>∃ u,e=.returned u∧Own w' w.heap.size u (putB v.toNat n.toNat)∧Below w.heap.size w w':=by
  obtain⟨v,rfl⟩:=Int.eq_ofNat_of_zero_le h0;obtain⟨n,rfl⟩:=Int.eq_ofNat_of_zero_le h1;rw[Int.toNat_natCast,Int.toNat_natCast];exact zFl v n w (by omega) (by omega)
theorem zK (w:World) (B:Nat):Own w B (.slice none 0 0) []:=World.ownsRow_nil _ _ _ _
def poC (b e:Int):Int:=if inB b 1 65520&&inB e 0 65521 then 0 else 3
def poV (b e:Int):Int:=if poC b e=0 then (powN b.toNat e.toNat:Nat) else 0
def shC (s:Int):Int:=if inB s 1 65519 then 0 else 3
def shV (s:Int):Int:=if shC s=0 then (powN 17 s.toNat:Nat) else 0
def sdC (s b:Int):Int:=if inB s 1 65519&&inB b 1 65520 then 0 else 3
def sdV (s b:Int):Int:=if sdC s b=0 then (powN b.toNat s.toNat:Nat) else 0
def shbC (v:Int):Int:=if inB v 1 65520 then 0 else 3
def shbL (v:Int):List UInt8:=if shbC v=0 then putB v.toNat 2 else []
def bsC (d:List UInt8):Int:=if d.length=2 then (if inB (getB d:Nat) 1 65520 then 0 else 3) else 5
def bsV (d:List UInt8):Int:=if bsC d=0 then (getB d:Nat) else 0
theorem zFm {v lo hi:Int} (h:inB v lo hi=true) (hl:0≤lo):∃ n:Nat,v=n∧lo≤n∧(n:Int)≤hi:=by
  have h2:lo≤v∧v≤hi:=by simpa [inB] using h
  exact⟨v.toNat,by omega,by omega,by omega⟩
theorem zDy (v:Int) (w:World):Calls prog 160 #[.int .i64 v] w fun e w'=>e=.returned (.bool (inB v 1 65520))∧w'=w:=by
  go_enter func160,ntmps160;go_wp2_with fail;refine(zBW v 1 65520 _).mono ?_;rintro e w1 ⟨rfl,rfl⟩;go_wp2;go_ret;exact⟨rfl,rfl⟩
theorem zBo (v:Int) (w:World):Calls prog 124 #[.int .i64 v] w fun e w'=>e=.returned (.bool (inB v 1 65519))∧w'=w:=by
  go_enter func124,ntmps124;go_wp2_with fail;refine(zBW v 1 65519 _).mono ?_;rintro e w1 ⟨rfl,rfl⟩;go_wp2;go_ret;exact⟨rfl,rfl⟩
theorem zHk (b e:Nat) (w:World) (hb:b≤65520) (he:e≤65521):
    Calls prog 84 #[.int .i64 (b:Int),.int .i64 (e:Int)] w fun x w'=>x=.returned (.int .i64 ((powN b e:Nat):Int))∧w'=w:=by
  obtain⟨R,HR⟩:∃ R,Hid (R=powN b e):=⟨_,rfl⟩;rw[← HR.out];go_enter func84,ntmps84;go_wp2
  have HI:Hid (1*b ^ e % 65521=R):=by show _=_;rw[HR.out,Nat.one_mul];rfl
  go_loop [0,1,5] (fun x y z=>∃ b' e' o:Nat,x=.int .i64 b'∧y=.int .i64 e'∧z=.int .i64 o∧b'≤65520∧e'≤65521∧o≤65520∧o*b' ^ e' % 65521=R)
    (fun _ y _=>(intOf y).toNat)
  case atStart=>exact⟨b,e,1,rfl,rfl,rfl,hb,he,by decide,HI.out⟩
  case round=>
    obtain⟨x,y,o,rfl,rfl,rfl,hx,hy,ho,hinv⟩:=hrel;have HV:Hid (o*x ^ y % 65521=R):=hinv;clear hinv hb he HI HR;have hxx:x*x≤65520*65520:=Nat.mul_le_mul hx hx;have hox:o*x≤65520*65520:=Nat.mul_le_mul ho hx;have exx:((x*x:Nat):Int)=(x:Int)*(x:Int):=Int.natCast_mul x x;have eox:((o*x:Nat):Int)=(o:Int)*(x:Int):=Int.natCast_mul o x
    have hxxI:(x:Int)*(x:Int)≤4292870400:=by rw[← exx];omega
    have hoxI:(o:Int)*(x:Int)≤4292870400:=by rw[← eox];omega
    have hxx0:0≤(x:Int)*(x:Int):=by rw[← exx];omega
    have hox0:0≤(o:Int)*(x:Int):=by rw[← eox];omega
    have E1:Hid ((x:Int)*(x:Int) % 65521=((x*x % 65521:Nat):Int)):=by show _=_;rw[Int.natCast_emod,exx];rfl
    have E2:Hid ((o:Int)*(x:Int) % 65521=((o*x % 65521:Nat):Int)):=by show _=_;rw[Int.natCast_emod,eox];rfl
    clear hxx hox exx eox
    by_cases h0:0<y
    · have h0I:(0:Int)<(y:Int):=by omega
      by_cases h1:y % 2=1
      · have h1I:((y:Int) % 2==1)=true:=by rw[beq_iff_eq];omega
        have HS:Hid ((o*x % 65521)*(x*x % 65521) ^ (y / 2) % 65521=R):=by show _=_;rw[zKK o x y h1];exact HV.out
        go_wp2;exact⟨⟨x*x % 65521,y / 2,o*x % 65521,by rw[E1.out],by rw[Int.natCast_ediv];rfl,by rw[E2.out],by have:=Nat.mod_lt (x*x) (show 0<65521 by decide);omega,by omega,by have:=Nat.mod_lt (o*x) (show 0<65521 by decide);omega,HS.out⟩,by simp[intOf];omega⟩
      · have h1I:((y:Int) % 2==1)=false:=by rw[beq_eq_false_iff_ne];omega
        have HS:Hid (o*(x*x % 65521) ^ (y / 2) % 65521=R):=by show _=_;rw[zIu o x y (by omega)];exact HV.out
        go_wp2;exact⟨⟨x*x % 65521,y / 2,o,by rw[E1.out],by rw[Int.natCast_ediv];rfl,rfl,by have:=Nat.mod_lt (x*x) (show 0<65521 by decide);omega,by omega,ho,HS.out⟩,by simp[intOf];omega⟩
    · have e0:y=0:=by omega
      subst e0;go_wp2;go_ret
      have hR:R=o:=by rw[← HV.out,Nat.pow_zero,Nat.mul_one,Nat.mod_eq_of_lt (by omega)]
      exact⟨by rw[hR];rfl,rfl⟩
def zFn (a b:List UInt8):Bool:=a==b
theorem zLe (a b:Option Addr) (ca cb:Nat) (xs bs:List UInt8) (w:World) (hra:Rd w a ca xs) (hrb:Rd w b cb bs):
    Calls prog 86 #[.slice a xs.length ca,.slice b bs.length cb] w fun e w'=>e=.returned (.bool (zFn xs bs))∧w'=w:=by
  have e1:=zGr (P:=prog) hra (src:=22) (dst:=9) (e:=5) underlying22 underlying5 underlying9;have e2:=zGr (P:=prog) hrb (src:=22) (dst:=9) (e:=5) underlying22 underlying5 underlying9;go_enter func86,ntmps86;go_wp2;go_ret;rw[zEC,zEC];exact⟨rfl,rfl⟩
theorem zHl (a b:Option Addr) (ca cb:Nat) (xs bs:List UInt8) (w:World) (hra:Rd w a ca xs) (hrb:Rd w b cb bs):
    Calls prog 199 #[.slice a xs.length ca,.slice b bs.length cb] w fun e w'=>e=.returned (.bool (zFn xs bs))∧w'=w:=by
  have e1:=zGr (P:=prog) hra (src:=22) (dst:=9) (e:=5) underlying22 underlying5 underlying9;have e2:=zGr (P:=prog) hrb (src:=22) (dst:=9) (e:=5) underlying22 underlying5 underlying9;go_enter func199,ntmps199;go_wp2;go_ret;rw[zEC,zEC];exact⟨rfl,rfl⟩
theorem zJf (a b:Option Addr) (ca cb:Nat) (xs bs:List UInt8) (w:World) (hra:Rd w a ca xs) (hrb:Rd w b cb bs):
    Calls prog 180 #[.slice a xs.length ca,.slice b bs.length cb] w fun e w'=>e=.returned (.bool (zFn xs bs))∧Below w.heap.size w w':=by
  go_enter func180,ntmps180;go_wp2_with fail;refine(zHl a b ca cb xs bs _ hra hrb).mono ?_;rintro e w1 ⟨rfl,rfl⟩;go_wp2;go_ret;exact⟨rfl,Below.refl _ _⟩
end
end Go.Proofs.YtiabacnmmojfjabGreatDoor
