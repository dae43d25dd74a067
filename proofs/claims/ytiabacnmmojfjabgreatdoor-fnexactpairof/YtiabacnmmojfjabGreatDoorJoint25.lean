import Derived.Test.YtiabacnmmojfjabGreatDoorJoint19
import Derived.Test.YtiabacnmmojfjabGreatDoorJoint4
import Derived.Test.YtiabacnmmojfjabGreatDoorCat
import Derived.Test.YtiabacnmmojfjabGreatDoorJoint14
import Derived.Test.YtiabacnmmojfjabGreatDoorKeyI
import Derived.Test.YtiabacnmmojfjabGreatDoorJoint12
import Derived.Lib.SliceRun
set_option maxHeartbeats 1000000
set_option maxRecDepth 4000
open Go.Proofs.Tryz
namespace Go.Proofs.YtiabacnmmojfjabGreatDoor
open Go.ChangeShapes Go.WideShapes Go.ChangeAt Go.RowKit
structure ShkD where
  e:EndD
  heard:List MsgD
  send:List MsgD
  other:zX
  secret:List UInt8
theorem zJ3:sideC.Mono:=zAa (zCK _) (zAa zA9 (zAa (zCK _) zA9))
theorem zHL:secretsC.Mono:=zAa zA9 (zAa zA9 (zAa zA9 zA9))
theorem zBf:endC.Mono:=zAa zJ3 (zAa (zCK _) (zAa (zCK _) (zAa zEs (zAa zA9 zHL))))
theorem zGA:helloC.Mono:=zAa zA9 (zAa (zCK _) (zCK _))
def hide (b:Nat) (vs:Value):List Nat:=b :: vs.ownBlock.toList
structure ShkB (w0:World) (b:Nat) (w:World) (vs:Value) (send:List MsgD) (xs:List Value) (f:List Nat) (row:List Value):Prop where
  arr:Arr w b 90 row
  only:Only [b] w0 w
  lt:b<w0.heap.size
  own:OwnL 53 msgC w w0.heap.size vs send xs f
def Shk (w0:World) (b:Nat) (w:World) (t:ShkD):Prop:=
  ∃ us vh vs ho vk xs f,ShkB w0 b w vs t.send xs f (us++([vh,vs]++(ho++[vk])))∧endC.rep (zV (hide b vs) w) t.e us∧msgsC.rep (zV (hide b vs) w) t.heard [vh]∧helloC.rep (zV (hide b vs) w) t.other ho∧bytC.rep (zV (hide b vs) w) t.secret [vk]
section
variable {w0 w w':World} {b:Nat} {vs:Value} {send:List MsgD} {xs:List Value} {f:List Nat} {row:List Value} {t:ShkD}
theorem ShkB.b_out (h:ShkB w0 b w vs send xs f row):∀ k,k∈vs.ownBlock.toList++f→k≠b:=fun k hk e=>by have:=(h.own.ins k hk).1;have:=h.lt;omega
theorem ShkB.stay (h:ShkB w0 b w vs send xs f row) (hb:Below w.heap.size w w'):ShkB w0 b w' vs send xs f row:=
  ⟨h.arr.stay hb,h.only.trans (yu hb),h.lt,h.own.stay hb⟩
theorem zJU (b i:Nat) (v:Value) (w:World):Only [b] w (w.setCell ⟨b,i,none⟩ v):=
  ⟨rfl,rfl,rfl,by rw[World.size_setCell];exact yf _,fun k _ hn=>heap_setCell_other w ⟨b,i,none⟩ k v (fun e=>hn (by rw[e];exact List.mem_singleton.2 rfl))⟩
theorem ShkB.set (h:ShkB w0 b w vs send xs f row) (i:Nat) (v:Value):ShkB w0 b (w.setCell ⟨b,i,none⟩ v) vs send xs f (row.set i v):=
  ⟨h.arr.set i v,h.only.trans (zJU b i v w),h.lt,h.own.fr fun k hk=>heap_setCell_other w ⟨b,i,none⟩ k v (h.b_out k hk)⟩
theorem zA5 (b i:Nat) (v:Value) (w:World) (vs:Value):Sees (zV (hide b vs) w) (zV (hide b vs) (w.setCell ⟨b,i,none⟩ v)):=
  zEe fun k _ hn=>⟨hn,heap_setCell_other w ⟨b,i,none⟩ k v (fun e=>hn (by rw[e];exact List.mem_cons_self ..))⟩
theorem Shk.stay (h:Shk w0 b w t) (hb:Below w.heap.size w w'):Shk w0 b w' t:=by
  obtain⟨us,vh,vs,ho,vk,xs,f,hB,h1,h2,h3,h4⟩:=h;have hs:=zBR (S:=hide b vs) hb;exact⟨us,vh,vs,ho,vk,xs,f,hB.stay hb,zBf hs h1,zEs hs h2,zGA hs h3,zA9 hs h4⟩
theorem Shk.only (h:Shk w0 b w t):Only [b] w0 w:=by
  obtain⟨us,vh,vs,ho,vk,xs,f,hB,-⟩:=h;exact hB.only
def ShkV (w0:World) (b:Nat) (w:World) (t:ShkD) (vs:Value) (f:List Nat):Prop:=
  ∃ us vh ho vk xs,ShkB w0 b w vs t.send xs f (us++([vh,vs]++(ho++[vk])))∧endC.rep (zV (hide b vs) w) t.e us∧msgsC.rep (zV (hide b vs) w) t.heard [vh]∧helloC.rep (zV (hide b vs) w) t.other ho∧bytC.rep (zV (hide b vs) w) t.secret [vk]
theorem Shk.v (h:Shk w0 b w t):∃ vs f,ShkV w0 b w t vs f:=by
  obtain⟨us,vh,vs,ho,vk,xs,f,h1⟩:=h;exact⟨vs,f,us,vh,ho,vk,xs,h1⟩
theorem ShkV.shk (h:ShkV w0 b w t vs f):Shk w0 b w t:=by
  obtain⟨us,vh,ho,vk,xs,h1⟩:=h;exact⟨us,vh,vs,ho,vk,xs,f,h1⟩
theorem ShkV.stay (h:ShkV w0 b w t vs f) (hb:Below w.heap.size w w'):ShkV w0 b w' t vs f:=by
  obtain⟨us,vh,ho,vk,xs,hB,h1,h2,h3,h4⟩:=h;have hs:=zBR (S:=hide b vs) hb;exact⟨us,vh,ho,vk,xs,hB.stay hb,zBf hs h1,zEs hs h2,zGA hs h3,zA9 hs h4⟩
theorem ShkV.ins (h:ShkV w0 b w t vs f):∀ k,k∈vs.ownBlock.toList++f→w0.heap.size≤k∧k<w.heap.size:=by
  obtain⟨us,vh,ho,vk,xs,hB,-⟩:=h;exact hB.own.ins
theorem ShkV.blt (h:ShkV w0 b w t vs f):b<w0.heap.size∧w0.heap.size≤w.heap.size:=by
  obtain⟨us,vh,ho,vk,xs,hB,-⟩:=h;exact⟨hB.lt,hB.only.size⟩
theorem ShkV.hid (h:ShkV w0 b w t vs f):∀ k,k∈hide b vs→k<w.heap.size:=fun k hk=>by
  rcases List.mem_cons.1 hk with rfl | h1
  · have:=h.blt;omega
  · exact(h.ins k (List.mem_append_left _ h1)).2
theorem zHM {B:Nat} {e:TypeId} {z n:Nat} {v:Value} {ys:List Value} {S:List Nat} (h:w.ownsRow B e z v n ys) (hS:∀ k,k∈S→k<B):(zV S w).ownsRow B e z v n ys:=
  zDd h fun k hk=>zCj fun hm=>by have:=hS k hm;have:=(World.ownsRow.lt h k hk).1;omega
theorem zNg {g z:Nat} {T:TypeId} {ys:List Value} (A:Arr w g T ys) (hz:ys.length=z):Raw w (some ⟨g,0,none⟩) 1 1 z ys:=
  ⟨by omega,yf _,by unfold maxLen;omega,(fun e=>by cases e),fun _=>⟨g,0,rfl,fun j u hj=>by rw[Nat.zero_add,A.cell j];exact hj⟩⟩
def eL (e:EndD) (l:List MsgD):EndD:=(e.1,e.2.1,e.2.2.1,l,e.2.2.2.2.1,e.2.2.2.2.2)
def eSt (e:EndD) (k:Int):EndD:=(e.1,k,e.2.2.1,e.2.2.2.1,e.2.2.2.2.1,e.2.2.2.2.2)
def eMo (e:EndD) (k:Int):EndD:=(e.1,e.2.1,k,e.2.2.2.1,e.2.2.2.2.1,e.2.2.2.2.2)
def eBa (e:EndD) (x:List UInt8):EndD:=(e.1,e.2.1,e.2.2.1,e.2.2.2.1,x,e.2.2.2.2.2)
def eSe (e:EndD) (x:zZ):EndD:=(e.1,e.2.1,e.2.2.1,e.2.2.2.1,e.2.2.2.2.1,x)
theorem Shk.open (h:Shk w0 b w t):∃ us vh vs ho vk xs f,ShkB w0 b w vs t.send xs f (us++([vh,vs]++(ho++[vk])))∧endC.rep (zV (hide b vs) w) t.e us∧msgsC.rep (zV (hide b vs) w) t.heard [vh]∧helloC.rep (zV (hide b vs) w) t.other ho∧bytC.rep (zV (hide b vs) w) t.secret [vk]:=h
end
theorem zIi (w:World):Rd w none 0 []:=⟨yf _,by unfold maxLen;decide,fun _=>rfl,fun hp=>by simp at hp⟩
def Ent (N:Nat):Prop:=∀ (args:Array Value) (w:World),(callFunc N args).run prog w=.ok (.enter N args) w
def Tells (w:World) (f:Value) (bs:List UInt8):Prop:=
  ∃ (N:Nat) (cs:Array Value),f=.func (.func N) #[] cs∧Ent N∧∀ W,Below w.heap.size w W→Tabs W→Calls prog N cs W fun e W'=>∃ u,e=.returned u∧Own W' W.heap.size u bs∧Below W.heap.size W W'
def Steps (w:World) (f:Value) (bs out:List UInt8):Prop:=
  ∃ (N:Nat) (cs:Array Value),f=.func (.func N) #[] cs∧Ent N∧∀ W p q,Below w.heap.size w W→Tabs W→Rd W p q bs→Calls prog N (#[.slice p bs.length q]++cs) W fun e W'=>∃ u,e=.returned (.agg #[.int .i64 0,u])∧Own W' W.heap.size u out∧Below W.heap.size W W'
theorem Tells.keep {w w':World} {f:Value} {bs:List UInt8} (h:Tells w f bs) (hb:Below w.heap.size w w'):Tells w' f bs:=by
  obtain⟨N,cs,rfl,he,h⟩:=h;exact⟨N,cs,rfl,he,fun W hW hT=>h W (yn hb hW) hT⟩
theorem Steps.keep {w w':World} {f:Value} {bs out:List UInt8} (h:Steps w f bs out) (hb:Below w.heap.size w w'):Steps w' f bs out:=by
  obtain⟨N,cs,rfl,he,h⟩:=h;exact⟨N,cs,rfl,he,fun W p q hW hT=>h W p q (yn hb hW) hT⟩
theorem zBF (p:Option Addr) (q:Nat) (bs:List UInt8) (w:World):Calls prog 141 #[.slice p bs.length q] w fun e w'=>e=.returned (.bool (is32 bs))∧w'=w:=by
  by_cases h:bs.length=32
  · rw[show is32 bs=true by simp[is32,h]]
    have d1:((bs.length:Int)==32)=true:=by rw[beq_iff_eq];omega
    clear h;go_enter func141,ntmps141;go_wp2;go_ret;exact⟨rfl,rfl⟩
  · rw[show is32 bs=false by simp[is32,h]]
    have d1:((bs.length:Int)==32)=false:=by rw[beq_eq_false_iff_ne];omega
    clear h;go_enter func141,ntmps141;go_wp2;go_ret;exact⟨rfl,rfl⟩
theorem zJ4 (g:Nat) (p:Option Addr) (q:Nat) (bs:List UInt8) (W:World) (hg:Arr W g 22 [.slice p bs.length q]) (hr:Rd W p q bs) (hl:bs.length≤1000000):
    Calls prog 174 #[.pointer (some ⟨g,0,none⟩)] W fun e W'=>∃ u,e=.returned u∧Own W' W.heap.size u bs∧Below W.heap.size W W':=by
  have c0:W.cell? ⟨g,0,none⟩=some (.slice p bs.length q):=by rw[hg.cell 0];rfl
  go_enter func174,ntmps174;go_wp2_with fail;refine(zAZ p q bs W hr hl).mono ?_;rintro e W1 ⟨u,rfl,ho,hb⟩;go_wp2;go_ret;exact⟨_,rfl,ho,hb⟩
theorem zGB (p:Option Addr) (q:Nat) (bs:List UInt8) (w:World) (hr:Rd w p q bs) (hl:bs.length≤1000000):
    Calls prog 148 #[.slice p bs.length q] w fun e w'=>∃ f,e=.returned f∧Tells w' f bs∧Below w.heap.size w w':=by
  have hA:=yp w [.slice p bs.length q] 22
  have hmf:∀ (fn:Fn) (first cap:Array Value) (w:World),(Instr.makeFunc fn first cap).run prog w=.ok (.func fn first cap) w:=fun _ _ _ _=>rfl
  go_enter func148,ntmps148;go_wp2;go_ret;refine⟨_,rfl,⟨_,_,rfl,(fun _ _=>by kernel_rfl),fun W hW _=>?_⟩,zA _ _⟩;exact zJ4 w.heap.size p q bs W (hA.stay hW) ((hr.keep (zA _ _)).keep hW) hl
theorem zDt (b:Nat):∀ (vs:List Value) (o:Nat) (w:World),w.grownBy (w.setCells b o vs) (some b)
  | [],_,w=>World.grownBy.refl _ _
  | v :: vs,o,w=>by
    have h1:w.grownBy (w.setCell ⟨b,o,none⟩ v) (some b):=⟨rfl,rfl,rfl,by simp[World.setCell],fun k hk hne=>Below.heap_setCell _ _ _ _ (fun e=>hne (by rw[e]))⟩;have h2:=zDt b vs (o+1) (w.setCell ⟨b,o,none⟩ v);exact⟨h2.os.trans h1.os,h2.tape.trans h1.tape,h2.output.trans h1.output,yi h1.size h2.size,fun k hk hne=>(h2.block k (Nat.lt_of_lt_of_le hk h1.size) hne).trans (h1.block k hk hne)⟩
theorem zHN (w:World) (B:Nat) (p:Option Addr) (q:Nat) (bs:List UInt8) (ho:Own w B (.slice p bs.length q) bs):
    ∃ w',(∀ ty,(Builtin.clear_ #[22] ty #[.slice p bs.length q]).run prog w=.ok (.tuple #[]) w')∧w.grownBy w' (Value.slice p bs.length q).ownBlock:=by
  by_cases h0:bs.length=0
  · refine⟨w,fun ty=>?_,World.grownBy.refl _ _⟩;rw[h0]
    cases p <;> simp[Builtin.clear_,run_underlying underlying22]
  · have ho':=ho;rcases ho.2 with ⟨e,hn⟩ | ⟨g,cap,cur,e,hb,hg,hle,hm,hs,ht⟩
    · exact absurd hn h0
    · cases e;refine⟨_,fun ty=>Lib.run_clear_slice w 22 5 ty (.int .u8 0) underlying22 (fun _=>by kernel_rfl) rfl rfl g 0 _ _ (by omega) (fun j hj=>?_) (fun j hj=>?_),?_⟩
      · rw[Nat.zero_add,World.ownsRow.cellAt ho' j (by omega),zD9 hj];rfl
      · rw[Nat.zero_add];exact World.ownsRow.frozenAt ho' j
      · exact zDt _ _ _ _
theorem zLP (g1 g2 t1 t2:Nat) (f s:Value) (bs out:List UInt8) (W:World) (h1:Arr W g1 t1 [f]) (h2:Arr W g2 t2 [s]) (hf:Tells W f bs) (hs:Steps W s bs out) (hT:Tabs W):
    Calls prog 196 #[.pointer (some ⟨g1,0,none⟩),.pointer (some ⟨g2,0,none⟩)] W fun e W'=>∃ u,e=.returned u∧Own W' W.heap.size u out∧Below W.heap.size W W':=by
  obtain⟨N,cs,rfl,e1,K1⟩:=hf;obtain⟨M,ds,rfl,e2,K2⟩:=hs;have e1':∀ (args:Array Value) (w:World),(callFunc N args).run prog w=.ok (.enter N args) w:=e1;have e2':∀ (args:Array Value) (w:World),(callFunc M args).run prog w=.ok (.enter M args) w:=e2
  have c1:W.cell? ⟨g1,0,none⟩=some (.func (.func N) #[] cs):=by rw[h1.cell 0];rfl
  have k1:=K1 W (Below.refl _ _) hT;clear K1;go_enter func196,ntmps196;go_wp2_with fail;refine k1.mono ?_;rintro e W1 ⟨u,rfl,ho,hb⟩;obtain⟨p,q,rfl,rd⟩:=ho.rd
  have c2:W1.cell? ⟨g2,0,none⟩=some (.func (.func M) #[] ds):=by rw[(h2.stay hb).cell 0];rfl
  have k2:=K2 W1 p q hb (hT.keep hb) rd;clear k1 K2 c1;go_wp2_with fail;refine k2.mono ?_;rintro e W2 ⟨u2,rfl,ho2,hb2⟩;obtain⟨p2,q2,rfl,rd2⟩:=ho2.rd;obtain⟨W3,hcl,hg⟩:=zHN W2 W.heap.size p q bs (ho.stay hb2);have hf1:=zAk 0 p2 out.length q2 W2;have HO:Hid (Own W3 W.heap.size (.slice p2 out.length q2) out):=(ho2.other hg (fun k hk e=>by have h1:=ho2.ge k hk;have h2:=ho.lt k e;omega)).lower hb.size;have HB:Hid (Below W.heap.size W W3):=(yn hb hb2).grown hg (yi hb.size hb2.size) (fun k hk=>ho.ge k hk);clear k2 hg ho ho2 rd rd2 hb hb2;go_wp2;go_ret;exact⟨_,rfl,HO.out,HB.out⟩
theorem zLQ (f s:Value) (bs out:List UInt8) (w:World) (hf:Tells w f bs) (hs:Steps w s bs out):
    Calls prog 175 #[f,s] w fun e w'=>∃ g,e=.returned g∧Tells w' g out∧Below w.heap.size w w':=by
  have hA:=(yp w [f] 166).old _ (.cells #[s] 132);have hB:=yp (w.alloc (.cells #[f] 166)) [s] 132;rw[zB] at hB;have hb:Below w.heap.size w ((w.alloc (.cells #[f] 166)).alloc (.cells #[s] 132)):=yr (zA _ _) _
  have hmf:∀ (fn:Fn) (first cap:Array Value) (w:World),(Instr.makeFunc fn first cap).run prog w=.ok (.func fn first cap) w:=fun _ _ _ _=>rfl
  have hf':=hf.keep hb;have hs':=hs.keep hb;have sf:∃ N cs,f=.func (.func N) #[] cs:=⟨hf.choose,hf.choose_spec.choose,hf.choose_spec.choose_spec.1⟩;have ss:∃ N cs,s=.func (.func N) #[] cs:=⟨hs.choose,hs.choose_spec.choose,hs.choose_spec.choose_spec.1⟩;obtain⟨N,cs,rfl⟩:=sf;obtain⟨M,ds,rfl⟩:=ss;go_enter func175,ntmps175;go_wp2;go_ret;refine⟨_,rfl,⟨_,_,rfl,(fun _ _=>by kernel_rfl),fun W hW hT=>?_⟩,hb⟩;exact zLP _ _ _ _ _ _ bs out W (hA.stay hW) (hB.stay hW) (hf'.keep hW) (hs'.keep hW) hT
theorem zMT (g1:Nat) (p p2:Option Addr) (q q2:Nat) (key data:List UInt8) (W:World) (hg1:Arr W g1 22 [.slice p2 data.length q2]) (hr:Rd W p q key) (hr2:Rd W p2 q2 data) (hT:Tabs W) (hk:key.length≤64) (hd:data.length≤500):
    Calls prog 178 #[.slice p key.length q,.pointer (some ⟨g1,0,none⟩)] W fun e W'=>∃ u,e=.returned (.agg #[.int .i64 0,u])∧Own W' W.heap.size u (zAE key data)∧Below W.heap.size W W':=by
  have c0:(W.alloc (.cells #[.int .i64 0,.slice none 0 0] 130)).cell? ⟨g1,0,none⟩=some (.slice p2 data.length q2):=by rw[(hg1.old _ _).cell 0];rfl
  have K:Hid (∀ w,Rd w p q key→Rd w p2 q2 data→Tabs w→Calls prog 179 #[.slice p key.length q,.slice p2 data.length q2] w fun e w'=>∃ u,e=.returned (.agg #[.int .i64 0,u])∧Own w' w.heap.size u (zAE key data)∧Below w.heap.size w w'):=fun w h h' h''=>by
    have g:=zK5 p p2 q q2 key data w h h' h''
    have hm:zEo key data=true:=by simp[zEo,keyB,zEN,hk,hd]
    rw[show macC key data=0 by simp[macC,hm],show extL key data=zAE key data by simp[extL,hm]] at g;exact g
  clear hk hd;clear hg1;go_enter func178,ntmps178;go_wp2_with fail;refine(K.out _ (hr.keep (zA _ _)) (hr2.keep (zA _ _)) (hT.keep (zA _ _))).mono ?_;rintro e w1 ⟨u,rfl,ho,hb⟩;obtain⟨hc,hf⟩:=zHS hb;rw[zB] at hc hf ho;obtain⟨a,cap,rfl,-⟩:=ho.rd;have hres:=yt hb;clear K hb c0;go_wp2;refine bodyPost_ret (v:=.agg #[.int .i64 0,.slice a (zAE key data).length cap]) (by simp[results,results178,go_sem,hc]) rfl ⟨_,rfl,?_,(hres.setCell (yf _) _).setCell (yf _) _⟩;exact((ho.set (yg _) _).set (yg _) _).lower (yh _)
theorem zDk (f:Value) (bs data:List UInt8) (p2:Option Addr) (q2:Nat) (w:World) (hf:Tells w f bs) (hr2:Rd w p2 q2 data) (hk:bs.length≤64) (hd:data.length≤500):
    Calls prog 150 #[f,.slice p2 data.length q2] w fun e w'=>∃ g,e=.returned g∧Tells w' g (zAE bs data)∧Below w.heap.size w w':=by
  have hA:=yp w [.slice p2 data.length q2] 22;have hb:=zA w (.cells #[.slice p2 data.length q2] 22)
  have hs:Steps (w.alloc (.cells #[.slice p2 data.length q2] 22)) (.func (.func 178) #[] #[.pointer (some ⟨w.heap.size,0,none⟩)]) bs (zAE bs data):=
    ⟨_,_,rfl,(fun _ _=>by kernel_rfl),fun W p q hW hT rd=>zMT w.heap.size p p2 q q2 bs data W (hA.stay hW) rd ((hr2.keep hb).keep hW) hT hk hd⟩
  have K:=zLQ f _ bs (zAE bs data) _ (hf.keep hb) hs
  have hmf:∀ (fn:Fn) (first cap:Array Value) (w:World),(Instr.makeFunc fn first cap).run prog w=.ok (.func fn first cap) w:=fun _ _ _ _=>rfl
  obtain⟨N,cs,rfl⟩:∃ N cs,f=.func (.func N) #[] cs:=⟨hf.choose,hf.choose_spec.choose,hf.choose_spec.choose_spec.1⟩;clear hf hs hA hr2;go_enter func150,ntmps150;go_wp2_with fail;refine K.mono ?_;rintro e w1 ⟨g,rfl,hg,hb1⟩;go_wp2;go_ret;exact⟨_,rfl,hg,yn hb hb1⟩
theorem zMU (g1:Nat) (p:Option Addr) (q:Nat) (key l:List UInt8) (W:World) (hg1:Arr W g1 9 [.string (strB l)]) (hr:Rd W p q key) (hT:Tabs W) (hk:key.length≤64) (hl:zAU l=true):
    Calls prog 176 #[.slice p key.length q,.pointer (some ⟨g1,0,none⟩)] W fun e W'=>∃ u,e=.returned (.agg #[.int .i64 0,u])∧Own W' W.heap.size u (zAD key l [])∧Below W.heap.size W W':=by
  have c0:(W.alloc (.cells #[.int .i64 0,.slice none 0 0] 130)).cell? ⟨g1,0,none⟩=some (.string (strB l)):=by rw[(hg1.old _ _).cell 0];rfl
  have K:Hid (∀ w,Rd w p q key→Tabs w→Calls prog 177 #[.slice p key.length q,.string (strB l),.slice none 0 0] w fun e w'=>∃ u,e=.returned (.agg #[.int .i64 0,u])∧Own w' w.heap.size u (zAD key l [])∧Below w.heap.size w w'):=fun w h h'=>by
    have g:=zK6 p none q 0 key l [] w h (zIi w) (by have:=zCP hl;omega) h'
    have h1:keyB key=true:=by simp[keyB,hk]
    rw[show dkC key l []=0 by simp[dkC,h1,hl,zEN],show dkL key l []=zAD key l [] by simp[dkL,h1,hl,zEN]] at g;exact g
  clear hk hl;clear hg1;go_enter func176,ntmps176;go_wp2_with fail;refine(K.out _ (hr.keep (zA _ _)) (hT.keep (zA _ _))).mono ?_;rintro e w1 ⟨u,rfl,ho,hb⟩;obtain⟨hc,hf⟩:=zHS hb;rw[zB] at hc hf ho;obtain⟨a,cap,rfl,-⟩:=ho.rd;have hres:=yt hb;clear K hb c0;go_wp2;refine bodyPost_ret (v:=.agg #[.int .i64 0,.slice a (zAD key l []).length cap]) (by simp[results,results176,go_sem,hc]) rfl ⟨_,rfl,?_,(hres.setCell (yf _) _).setCell (yf _) _⟩;exact((ho.set (yg _) _).set (yg _) _).lower (yh _)
theorem zGn (f:Value) (bs l:List UInt8) (w:World) (hf:Tells w f bs) (hk:bs.length≤64) (hl:zAU l=true):
    Calls prog 149 #[f,.string (strB l)] w fun e w'=>∃ g,e=.returned g∧Tells w' g (zAD bs l [])∧Below w.heap.size w w':=by
  have hA:=yp w [.string (strB l)] 9;have hb:=zA w (.cells #[.string (strB l)] 9)
  have hs:Steps (w.alloc (.cells #[.string (strB l)] 9)) (.func (.func 176) #[] #[.pointer (some ⟨w.heap.size,0,none⟩)]) bs (zAD bs l []):=
    ⟨_,_,rfl,(fun _ _=>by kernel_rfl),fun W p q hW hT rd=>zMU w.heap.size p q bs l W (hA.stay hW) rd hT hk hl⟩
  have K:=zLQ f _ bs (zAD bs l []) _ (hf.keep hb) hs
  have hmf:∀ (fn:Fn) (first cap:Array Value) (w:World),(Instr.makeFunc fn first cap).run prog w=.ok (.func fn first cap) w:=fun _ _ _ _=>rfl
  obtain⟨N,cs,rfl⟩:∃ N cs,f=.func (.func N) #[] cs:=⟨hf.choose,hf.choose_spec.choose,hf.choose_spec.choose_spec.1⟩;clear hf hs hA;go_enter func149,ntmps149;go_wp2_with fail;refine K.mono ?_;rintro e w1 ⟨g,rfl,hg,hb1⟩;go_wp2;go_ret;exact⟨_,rfl,hg,yn hb hb1⟩
theorem zMV (g1:Nat) (g2:Nat) (g3:Nat) (p p2:Option Addr) (q q2:Nat) (key l ctx:List UInt8) (n:Nat) (W:World) (hg1:Arr W g1 9 [.string (strB l)]) (hg2:Arr W g2 22 [.slice p2 ctx.length q2]) (hg3:Arr W g3 2 [.int .i64 (n:Int)]) (hr:Rd W p q key) (hr2:Rd W p2 q2 ctx) (hT:Tabs W) (hk:key.length≤64) (hl:zAl l ctx (n:Int)=0):
    Calls prog 204 #[.slice p key.length q,.pointer (some ⟨g1,0,none⟩),.pointer (some ⟨g2,0,none⟩),.pointer (some ⟨g3,0,none⟩)] W fun e W'=>∃ u,e=.returned (.agg #[.int .i64 0,u])∧Own W' W.heap.size u (zAS key l ctx n)∧Below W.heap.size W W':=by
  have c0:(W.alloc (.cells #[.int .i64 0,.slice none 0 0] 130)).cell? ⟨g1,0,none⟩=some (.string (strB l)):=by rw[(hg1.old _ _).cell 0];rfl
  have c1:(W.alloc (.cells #[.int .i64 0,.slice none 0 0] 130)).cell? ⟨g2,0,none⟩=some (.slice p2 ctx.length q2):=by rw[(hg2.old _ _).cell 0];rfl
  have c2:(W.alloc (.cells #[.int .i64 0,.slice none 0 0] 130)).cell? ⟨g3,0,none⟩=some (.int .i64 (n:Int)):=by rw[(hg3.old _ _).cell 0];rfl
  have K:Hid (∀ w,Rd w p q key→Rd w p2 q2 ctx→Tabs w→Calls prog 197 #[.slice p key.length q,.string (strB l),.slice p2 ctx.length q2,.int .i64 (n:Int)] w fun e w'=>∃ u,e=.returned (.agg #[.int .i64 0,u])∧Own w' w.heap.size u (zAS key l ctx n)∧Below w.heap.size w w'):=fun w h h' h''=>by
    have g:=zEq p p2 q q2 key l ctx (n:Int) w h h' (by have:=zCP (zD1 hl).1;omega) h''
    have h1:keyB key=true:=by simp[keyB,hk]
    rw[show elC key l ctx (n:Int)=0 by simp[elC,h1,hl],show elL key l ctx (n:Int)=zAS key l ctx n by simp[elL,elC,h1,hl]] at g;exact g
  clear hk hl;clear hg1 hg2 hg3;go_enter func204,ntmps204;go_wp2_with fail;refine(K.out _ (hr.keep (zA _ _)) (hr2.keep (zA _ _)) (hT.keep (zA _ _))).mono ?_;rintro e w1 ⟨u,rfl,ho,hb⟩;obtain⟨hc,hf⟩:=zHS hb;rw[zB] at hc hf ho;obtain⟨a,cap,rfl,-⟩:=ho.rd;have hres:=yt hb;clear K hb c0 c1 c2;go_wp2;refine bodyPost_ret (v:=.agg #[.int .i64 0,.slice a (zAS key l ctx n).length cap]) (by simp[results,results204,go_sem,hc]) rfl ⟨_,rfl,?_,(hres.setCell (yf _) _).setCell (yf _) _⟩;exact((ho.set (yg _) _).set (yg _) _).lower (yh _)
theorem zJ5 (f:Value) (bs l ctx:List UInt8) (n:Nat) (p2:Option Addr) (q2:Nat) (w:World) (hf:Tells w f bs) (hr2:Rd w p2 q2 ctx) (hk:bs.length≤64) (hl:zAl l ctx (n:Int)=0):
    Calls prog 187 #[f,.string (strB l),.slice p2 ctx.length q2,.int .i64 (n:Int)] w fun e w'=>∃ g,e=.returned g∧Tells w' g (zAS bs l ctx n)∧Below w.heap.size w w':=by
  have hA1:=((yp w [.string (strB l)] 9).old _ (.cells #[.slice p2 ctx.length q2] 22)).old _ (.cells #[.int .i64 (n:Int)] 2);have hA2:=(yp (w.alloc (.cells #[.string (strB l)] 9)) [.slice p2 ctx.length q2] 22).old _ (.cells #[.int .i64 (n:Int)] 2);have hA3:=yp ((w.alloc (.cells #[.string (strB l)] 9)).alloc (.cells #[.slice p2 ctx.length q2] 22)) [.int .i64 (n:Int)] 2;rw[zB] at hA2;rw[zB,zB] at hA3;have hb:Below w.heap.size w (((w.alloc (.cells #[.string (strB l)] 9)).alloc (.cells #[.slice p2 ctx.length q2] 22)).alloc (.cells #[.int .i64 (n:Int)] 2)):=yr (yr (zA _ _) _) _
  have hs:Steps (((w.alloc (.cells #[.string (strB l)] 9)).alloc (.cells #[.slice p2 ctx.length q2] 22)).alloc (.cells #[.int .i64 (n:Int)] 2)) (.func (.func 204) #[] #[.pointer (some ⟨w.heap.size,0,none⟩),.pointer (some ⟨w.heap.size+1,0,none⟩),.pointer (some ⟨w.heap.size+1+1,0,none⟩)]) bs (zAS bs l ctx n):=
    ⟨_,_,rfl,(fun _ _=>by kernel_rfl),fun W p q hW hT rd=>zMV w.heap.size (w.heap.size+1) (w.heap.size+1+1) p p2 q q2 bs l ctx n W (hA1.stay hW) (hA2.stay hW) (hA3.stay hW) rd ((hr2.keep hb).keep hW) hT hk hl⟩
  have K:=zLQ f _ bs (zAS bs l ctx n) _ (hf.keep hb) hs
  have hmf:∀ (fn:Fn) (first cap:Array Value) (w:World),(Instr.makeFunc fn first cap).run prog w=.ok (.func fn first cap) w:=fun _ _ _ _=>rfl
  obtain⟨N,cs,rfl⟩:∃ N cs,f=.func (.func N) #[] cs:=⟨hf.choose,hf.choose_spec.choose,hf.choose_spec.choose_spec.1⟩;clear hf hs hA1 hA2 hA3 hr2 hl;go_enter func187,ntmps187;go_wp2_with fail;refine K.mono ?_;rintro e w1 ⟨g,rfl,hg,hb1⟩;go_wp2;go_ret;exact⟨_,rfl,hg,yn hb hb1⟩
theorem zEX (f:Value) (bs:List UInt8) (w:World) (hf:Tells w f bs) (hT:Tabs w):
    Calls prog 147 #[f] w fun e w'=>∃ u,e=.returned (.agg #[.int .i64 0,u])∧Own w' w.heap.size u bs∧Below w.heap.size w w':=by
  obtain⟨N,cs,rfl,e1,K1⟩:=hf;have e1':∀ (args:Array Value) (w:World),(callFunc N args).run prog w=.ok (.enter N args) w:=e1;have k1:=K1 (w.alloc (.cells #[.int .i64 0,.slice none 0 0] 130)) (zA _ _) (hT.keep (zA _ _));clear K1 hT;go_enter func147,ntmps147;go_wp2_with fail;refine k1.mono ?_;rintro e w1 ⟨u,rfl,ho,hb⟩;obtain⟨hc,hf⟩:=zHS hb;rw[zB] at hc hf ho;obtain⟨a,cap,rfl,-⟩:=ho.rd;have hres:=yt hb;clear k1 hb;go_wp2;refine bodyPost_ret (v:=.agg #[.int .i64 0,.slice a bs.length cap]) (by simp[results,results147,go_sem,hc]) rfl ⟨_,rfl,?_,(hres.setCell (yf _) _).setCell (yf _) _⟩;exact((ho.set (yg _) _).set (yg _) _).lower (yh _)
end Go.Proofs.YtiabacnmmojfjabGreatDoor
