import Derived.Test.YtiabacnmmojfjaaGreatDoorJoint21
import Derived.Test.YtiabacnmmojfjaaGreatDoorJoint4
import Derived.Test.YtiabacnmmojfjaaGreatDoorJoint19
import Derived.Test.YtiabacnmmojfjaaGreatDoorJoint16
import Derived.Test.YtiabacnmmojfjaaGreatDoorKeyI
import Derived.Test.YtiabacnmmojfjaaGreatDoorJoint13
import Derived.Lib.SliceRun
set_option maxHeartbeats 1000000
set_option maxRecDepth 4000
open Go.Proofs.Tryz
namespace Go.Proofs.YtiabacnmmojfjaaGreatDoor
open Go.ChangeShapes Go.WideShapes Go.ChangeAt Go.RowKit
structure ShkD where
  e:EndD
  heard:List MsgD
  send:List MsgD
  other:zAB
  secret:List UInt8
theorem zJe:sideC.Mono:=zAa (zCJ _) (zAa zBA (zAa (zCJ _) zBA))
theorem zG8:secretsC.Mono:=zAa zBA (zAa zBA (zAa zBA zBA))
theorem zB5:endC.Mono:=zAa zJe (zAa (zCJ _) (zAa (zCJ _) (zAa zEp (zAa zBA zG8))))
theorem zFz:helloC.Mono:=zAa zBA (zAa (zCJ _) (zCJ _))
def hide (b:Nat) (vs:Value):List Nat:=b :: vs.ownBlock.toList
structure ShkB (w0:World) (b:Nat) (w:World) (vs:Value) (send:List MsgD) (xs:List Value) (f:List Nat) (row:List Value):Prop where
  arr:Arr w b 86 row
  only:Only [b] w0 w
  lt:b<w0.heap.size
  own:OwnL 46 msgC w w0.heap.size vs send xs f
def Shk (w0:World) (b:Nat) (w:World) (t:ShkD):Prop:=
  ∃ us vh vs ho vk xs f,ShkB w0 b w vs t.send xs f (us++([vh,vs]++(ho++[vk])))∧endC.rep (zZ (hide b vs) w) t.e us∧msgsC.rep (zZ (hide b vs) w) t.heard [vh]∧helloC.rep (zZ (hide b vs) w) t.other ho∧bytC.rep (zZ (hide b vs) w) t.secret [vk]
section
variable {w0 w w':World} {b:Nat} {vs:Value} {send:List MsgD} {xs:List Value} {f:List Nat} {row:List Value} {t:ShkD}
theorem ShkB.b_out (h:ShkB w0 b w vs send xs f row):∀ k,k∈vs.ownBlock.toList++f→k≠b:=fun k hk e=>by have:=(h.own.ins k hk).1;have:=h.lt;omega
theorem ShkB.stay (h:ShkB w0 b w vs send xs f row) (hb:Below w.heap.size w w'):ShkB w0 b w' vs send xs f row:=
  ⟨h.arr.stay hb,h.only.trans (Only.below hb),h.lt,h.own.stay hb⟩
theorem zJC (b i:Nat) (v:Value) (w:World):Only [b] w (w.setCell ⟨b,i,none⟩ v):=
  ⟨rfl,rfl,rfl,by rw[World.size_setCell];exact yf _,fun k _ hn=>heap_setCell_other w ⟨b,i,none⟩ k v (fun e=>hn (by rw[e];exact List.mem_singleton.2 rfl))⟩
theorem ShkB.set (h:ShkB w0 b w vs send xs f row) (i:Nat) (v:Value):ShkB w0 b (w.setCell ⟨b,i,none⟩ v) vs send xs f (row.set i v):=
  ⟨h.arr.set i v,h.only.trans (zJC b i v w),h.lt,h.own.fr fun k hk=>heap_setCell_other w ⟨b,i,none⟩ k v (h.b_out k hk)⟩
theorem zA6 (b i:Nat) (v:Value) (w:World) (vs:Value):Sees (zZ (hide b vs) w) (zZ (hide b vs) (w.setCell ⟨b,i,none⟩ v)):=
  zEa fun k _ hn=>⟨hn,heap_setCell_other w ⟨b,i,none⟩ k v (fun e=>hn (by rw[e];exact List.mem_cons_self ..))⟩
theorem Shk.stay (h:Shk w0 b w t) (hb:Below w.heap.size w w'):Shk w0 b w' t:=by
  obtain⟨us,vh,vs,ho,vk,xs,f,hB,h1,h2,h3,h4⟩:=h;have hs:=zBT (S:=hide b vs) hb;exact⟨us,vh,vs,ho,vk,xs,f,hB.stay hb,zB5 hs h1,zEp hs h2,zFz hs h3,zBA hs h4⟩
theorem Shk.only (h:Shk w0 b w t):Only [b] w0 w:=by
  obtain⟨us,vh,vs,ho,vk,xs,f,hB,-⟩:=h;exact hB.only
def ShkV (w0:World) (b:Nat) (w:World) (t:ShkD) (vs:Value) (f:List Nat):Prop:=
  ∃ us vh ho vk xs,ShkB w0 b w vs t.send xs f (us++([vh,vs]++(ho++[vk])))∧endC.rep (zZ (hide b vs) w) t.e us∧msgsC.rep (zZ (hide b vs) w) t.heard [vh]∧helloC.rep (zZ (hide b vs) w) t.other ho∧bytC.rep (zZ (hide b vs) w) t.secret [vk]
theorem Shk.v (h:Shk w0 b w t):∃ vs f,ShkV w0 b w t vs f:=by
  obtain⟨us,vh,vs,ho,vk,xs,f,h1⟩:=h;exact⟨vs,f,us,vh,ho,vk,xs,h1⟩
theorem ShkV.shk (h:ShkV w0 b w t vs f):Shk w0 b w t:=by
  obtain⟨us,vh,ho,vk,xs,h1⟩:=h;exact⟨us,vh,vs,ho,vk,xs,f,h1⟩
theorem ShkV.stay (h:ShkV w0 b w t vs f) (hb:Below w.heap.size w w'):ShkV w0 b w' t vs f:=by
  obtain⟨us,vh,ho,vk,xs,hB,h1,h2,h3,h4⟩:=h;have hs:=zBT (S:=hide b vs) hb;exact⟨us,vh,ho,vk,xs,hB.stay hb,zB5 hs h1,zEp hs h2,zFz hs h3,zBA hs h4⟩
theorem ShkV.ins (h:ShkV w0 b w t vs f):∀ k,k∈vs.ownBlock.toList++f→w0.heap.size≤k∧k<w.heap.size:=by
  obtain⟨us,vh,ho,vk,xs,hB,-⟩:=h;exact hB.own.ins
theorem ShkV.blt (h:ShkV w0 b w t vs f):b<w0.heap.size∧w0.heap.size≤w.heap.size:=by
  obtain⟨us,vh,ho,vk,xs,hB,-⟩:=h;exact⟨hB.lt,hB.only.size⟩
theorem ShkV.hid (h:ShkV w0 b w t vs f):∀ k,k∈hide b vs→k<w.heap.size:=fun k hk=>by
  rcases List.mem_cons.1 hk with rfl | h1
  · have:=h.blt;omega
  · exact(h.ins k (List.mem_append_left _ h1)).2
theorem zG9 {B:Nat} {e:TypeId} {z n:Nat} {v:Value} {ys:List Value} {S:List Nat} (h:w.ownsRow B e z v n ys) (hS:∀ k,k∈S→k<B):(zZ S w).ownsRow B e z v n ys:=
  zDZ h fun k hk=>zCg fun hm=>by have:=hS k hm;have:=(World.ownsRow.lt h k hk).1;omega
theorem zNC {g z:Nat} {T:TypeId} {ys:List Value} (A:Arr w g T ys) (hz:ys.length=z):Raw w (some ⟨g,0,none⟩) 1 1 z ys:=
  ⟨by omega,yf _,by unfold maxLen;omega,(fun e=>by cases e),fun _=>⟨g,0,rfl,fun j u hj=>by rw[Nat.zero_add,A.cell j];exact hj⟩⟩
def eL (e:EndD) (l:List MsgD):EndD:=(e.1,e.2.1,e.2.2.1,l,e.2.2.2.2.1,e.2.2.2.2.2)
def eSt (e:EndD) (k:Int):EndD:=(e.1,k,e.2.2.1,e.2.2.2.1,e.2.2.2.2.1,e.2.2.2.2.2)
def eMo (e:EndD) (k:Int):EndD:=(e.1,e.2.1,k,e.2.2.2.1,e.2.2.2.2.1,e.2.2.2.2.2)
def eBa (e:EndD) (x:List UInt8):EndD:=(e.1,e.2.1,e.2.2.1,e.2.2.2.1,x,e.2.2.2.2.2)
def eSe (e:EndD) (x:zAQ):EndD:=(e.1,e.2.1,e.2.2.1,e.2.2.2.1,e.2.2.2.2.1,x)
theorem Shk.open (h:Shk w0 b w t):∃ us vh vs ho vk xs f,ShkB w0 b w vs t.send xs f (us++([vh,vs]++(ho++[vk])))∧endC.rep (zZ (hide b vs) w) t.e us∧msgsC.rep (zZ (hide b vs) w) t.heard [vh]∧helloC.rep (zZ (hide b vs) w) t.other ho∧bytC.rep (zZ (hide b vs) w) t.secret [vk]:=h
end
theorem zIT (w:World):Rd w none 0 []:=⟨yf _,by unfold maxLen;decide,fun _=>rfl,fun hp=>by simp at hp⟩
def Ent (N:Nat):Prop:=∀ (args:Array Value) (w:World),(callFunc N args).run prog w=.ok (.enter N args) w
def Tells (w:World) (f:Value) (bs:List UInt8):Prop:=
  ∃ (N:Nat) (cs:Array Value),f=.func (.func N) #[] cs∧Ent N∧∀ W,Below w.heap.size w W→Tabs W→Calls prog N cs W fun e W'=>∃ u,e=.returned u∧Own W' W.heap.size u bs∧Below W.heap.size W W'
def Steps (w:World) (f:Value) (bs out:List UInt8):Prop:=
  ∃ (N:Nat) (cs:Array Value),f=.func (.func N) #[] cs∧Ent N∧∀ W p q,Below w.heap.size w W→Tabs W→Rd W p q bs→Calls prog N (#[.slice p bs.length q]++cs) W fun e W'=>∃ u,e=.returned (.agg #[.int .i64 0,u])∧Own W' W.heap.size u out∧Below W.heap.size W W'
theorem Tells.keep {w w':World} {f:Value} {bs:List UInt8} (h:Tells w f bs) (hb:Below w.heap.size w w'):Tells w' f bs:=by
  obtain⟨N,cs,rfl,he,h⟩:=h;exact⟨N,cs,rfl,he,fun W hW hT=>h W (yn hb hW) hT⟩
theorem Steps.keep {w w':World} {f:Value} {bs out:List UInt8} (h:Steps w f bs out) (hb:Below w.heap.size w w'):Steps w' f bs out:=by
  obtain⟨N,cs,rfl,he,h⟩:=h;exact⟨N,cs,rfl,he,fun W p q hW hT=>h W p q (yn hb hW) hT⟩
theorem zBG (p:Option Addr) (q:Nat) (bs:List UInt8) (w:World):Calls prog 45 #[.slice p bs.length q] w fun e w'=>e=.returned (.bool (is32 bs))∧w'=w:=by
  by_cases h:bs.length=32
  · rw[show is32 bs=true by simp[is32,h]]
    have d1:((bs.length:Int)==32)=true:=by rw[beq_iff_eq];omega
    clear h;go_enter func45,ntmps45;go_wp2;go_ret;exact⟨rfl,rfl⟩
  · rw[show is32 bs=false by simp[is32,h]]
    have d1:((bs.length:Int)==32)=false:=by rw[beq_eq_false_iff_ne];omega
    clear h;go_enter func45,ntmps45;go_wp2;go_ret;exact⟨rfl,rfl⟩
theorem zJf (g:Nat) (p:Option Addr) (q:Nat) (bs:List UInt8) (W:World) (hg:Arr W g 22 [.slice p bs.length q]) (hr:Rd W p q bs) (hl:bs.length≤1000000):
    Calls prog 186 #[.pointer (some ⟨g,0,none⟩)] W fun e W'=>∃ u,e=.returned u∧Own W' W.heap.size u bs∧Below W.heap.size W W':=by
  have c0:W.cell? ⟨g,0,none⟩=some (.slice p bs.length q):=by rw[hg.cell 0];rfl
  go_enter func186,ntmps186;go_wp2_with fail;refine(zAZ p q bs W hr hl).mono ?_;rintro e W1 ⟨u,rfl,ho,hb⟩;go_wp2;go_ret;exact⟨_,rfl,ho,hb⟩
theorem zF0 (p:Option Addr) (q:Nat) (bs:List UInt8) (w:World) (hr:Rd w p q bs) (hl:bs.length≤1000000):
    Calls prog 150 #[.slice p bs.length q] w fun e w'=>∃ f,e=.returned f∧Tells w' f bs∧Below w.heap.size w w':=by
  have hA:=yr w [.slice p bs.length q] 22
  have hmf:∀ (fn:Fn) (first cap:Array Value) (w:World),(Instr.makeFunc fn first cap).run prog w=.ok (.func fn first cap) w:=fun _ _ _ _=>rfl
  go_enter func150,ntmps150;go_wp2;go_ret;refine⟨_,rfl,⟨_,_,rfl,(fun _ _=>by kernel_rfl),fun W hW _=>?_⟩,zA _ _⟩;exact zJf w.heap.size p q bs W (hA.stay hW) ((hr.keep (zA _ _)).keep hW) hl
theorem zDq (b:Nat):∀ (vs:List Value) (o:Nat) (w:World),w.grownBy (w.setCells b o vs) (some b)
  | [],_,w=>World.grownBy.refl _ _
  | v :: vs,o,w=>by
    have h1:w.grownBy (w.setCell ⟨b,o,none⟩ v) (some b):=⟨rfl,rfl,rfl,by simp[World.setCell],fun k hk hne=>Below.heap_setCell _ _ _ _ (fun e=>hne (by rw[e]))⟩;have h2:=zDq b vs (o+1) (w.setCell ⟨b,o,none⟩ v);exact⟨h2.os.trans h1.os,h2.tape.trans h1.tape,h2.output.trans h1.output,yi h1.size h2.size,fun k hk hne=>(h2.block k (Nat.lt_of_lt_of_le hk h1.size) hne).trans (h1.block k hk hne)⟩
theorem zHA (w:World) (B:Nat) (p:Option Addr) (q:Nat) (bs:List UInt8) (ho:Own w B (.slice p bs.length q) bs):
    ∃ w',(∀ ty,(Builtin.clear_ #[22] ty #[.slice p bs.length q]).run prog w=.ok (.tuple #[]) w')∧w.grownBy w' (Value.slice p bs.length q).ownBlock:=by
  by_cases h0:bs.length=0
  · refine⟨w,fun ty=>?_,World.grownBy.refl _ _⟩;rw[h0]
    cases p <;> simp[Builtin.clear_,run_underlying underlying22]
  · have ho':=ho;rcases ho.2 with ⟨e,hn⟩ | ⟨g,cap,cur,e,hb,hg,hle,hm,hs,ht⟩
    · exact absurd hn h0
    · cases e;refine⟨_,fun ty=>Lib.run_clear_slice w 22 5 ty (.int .u8 0) underlying22 (fun _=>by kernel_rfl) rfl rfl g 0 _ _ (by omega) (fun j hj=>?_) (fun j hj=>?_),?_⟩
      · rw[Nat.zero_add,World.ownsRow.cellAt ho' j (by omega),zCb hj];rfl
      · rw[Nat.zero_add];exact World.ownsRow.frozenAt ho' j
      · exact zDq _ _ _ _
theorem zKu (g1 g2 t1 t2:Nat) (f s:Value) (bs out:List UInt8) (W:World) (h1:Arr W g1 t1 [f]) (h2:Arr W g2 t2 [s]) (hf:Tells W f bs) (hs:Steps W s bs out) (hT:Tabs W):
    Calls prog 211 #[.pointer (some ⟨g1,0,none⟩),.pointer (some ⟨g2,0,none⟩)] W fun e W'=>∃ u,e=.returned u∧Own W' W.heap.size u out∧Below W.heap.size W W':=by
  obtain⟨N,cs,rfl,e1,K1⟩:=hf;obtain⟨M,ds,rfl,e2,K2⟩:=hs;have e1':∀ (args:Array Value) (w:World),(callFunc N args).run prog w=.ok (.enter N args) w:=e1;have e2':∀ (args:Array Value) (w:World),(callFunc M args).run prog w=.ok (.enter M args) w:=e2
  have c1:W.cell? ⟨g1,0,none⟩=some (.func (.func N) #[] cs):=by rw[h1.cell 0];rfl
  have k1:=K1 W (Below.refl _ _) hT;clear K1;go_enter func211,ntmps211;go_wp2_with fail;refine k1.mono ?_;rintro e W1 ⟨u,rfl,ho,hb⟩;obtain⟨p,q,rfl,rd⟩:=ho.rd
  have c2:W1.cell? ⟨g2,0,none⟩=some (.func (.func M) #[] ds):=by rw[(h2.stay hb).cell 0];rfl
  have k2:=K2 W1 p q hb (hT.keep hb) rd;clear k1 K2 c1;go_wp2_with fail;refine k2.mono ?_;rintro e W2 ⟨u2,rfl,ho2,hb2⟩;obtain⟨p2,q2,rfl,rd2⟩:=ho2.rd;obtain⟨W3,hcl,hg⟩:=zHA W2 W.heap.size p q bs (ho.stay hb2);have hf1:=zAk 0 p2 out.length q2 W2;have HO:Hid (Own W3 W.heap.size (.slice p2 out.length q2) out):=(ho2.other hg (fun k hk e=>by have h1:=ho2.ge k hk;have h2:=ho.lt k e;omega)).lower hb.size;have HB:Hid (Below W.heap.size W W3):=(yn hb hb2).grown hg (yi hb.size hb2.size) (fun k hk=>ho.ge k hk);clear k2 hg ho ho2 rd rd2 hb hb2;go_wp2;go_ret;exact⟨_,rfl,HO.out,HB.out⟩
theorem zKv (f s:Value) (bs out:List UInt8) (w:World) (hf:Tells w f bs) (hs:Steps w s bs out):
    Calls prog 187 #[f,s] w fun e w'=>∃ g,e=.returned g∧Tells w' g out∧Below w.heap.size w w':=by
  have hA:=(yr w [f] 165).old _ (.cells #[s] 131);have hB:=yr (w.alloc (.cells #[f] 165)) [s] 131;rw[zB] at hB;have hb:Below w.heap.size w ((w.alloc (.cells #[f] 165)).alloc (.cells #[s] 131)):=yt (zA _ _) _
  have hmf:∀ (fn:Fn) (first cap:Array Value) (w:World),(Instr.makeFunc fn first cap).run prog w=.ok (.func fn first cap) w:=fun _ _ _ _=>rfl
  have hf':=hf.keep hb;have hs':=hs.keep hb;have sf:∃ N cs,f=.func (.func N) #[] cs:=⟨hf.choose,hf.choose_spec.choose,hf.choose_spec.choose_spec.1⟩;have ss:∃ N cs,s=.func (.func N) #[] cs:=⟨hs.choose,hs.choose_spec.choose,hs.choose_spec.choose_spec.1⟩;obtain⟨N,cs,rfl⟩:=sf;obtain⟨M,ds,rfl⟩:=ss;go_enter func187,ntmps187;go_wp2;go_ret;refine⟨_,rfl,⟨_,_,rfl,(fun _ _=>by kernel_rfl),fun W hW hT=>?_⟩,hb⟩;exact zKu _ _ _ _ _ _ bs out W (hA.stay hW) (hB.stay hW) (hf'.keep hW) (hs'.keep hW) hT
theorem zLy (g1:Nat) (p p2:Option Addr) (q q2:Nat) (key data:List UInt8) (W:World) (hg1:Arr W g1 22 [.slice p2 data.length q2]) (hr:Rd W p q key) (hr2:Rd W p2 q2 data) (hT:Tabs W) (hk:key.length≤64) (hd:data.length≤500):
    Calls prog 190 #[.slice p key.length q,.pointer (some ⟨g1,0,none⟩)] W fun e W'=>∃ u,e=.returned (.agg #[.int .i64 0,u])∧Own W' W.heap.size u (zAH key data)∧Below W.heap.size W W':=by
  have c0:(W.alloc (.cells #[.int .i64 0,.slice none 0 0] 129)).cell? ⟨g1,0,none⟩=some (.slice p2 data.length q2):=by rw[(hg1.old _ _).cell 0];rfl
  have K:Hid (∀ w,Rd w p q key→Rd w p2 q2 data→Tabs w→Calls prog 191 #[.slice p key.length q,.slice p2 data.length q2] w fun e w'=>∃ u,e=.returned (.agg #[.int .i64 0,u])∧Own w' w.heap.size u (zAH key data)∧Below w.heap.size w w'):=fun w h h' h''=>by
    have g:=zKb p p2 q q2 key data w h h' h''
    have hm:zEl key data=true:=by simp[zEl,keyB,zEF,hk,hd]
    rw[show macC key data=0 by simp[macC,hm],show extL key data=zAH key data by simp[extL,hm]] at g;exact g
  clear hk hd;clear hg1;go_enter func190,ntmps190;go_wp2_with fail;refine(K.out _ (hr.keep (zA _ _)) (hr2.keep (zA _ _)) (hT.keep (zA _ _))).mono ?_;rintro e w1 ⟨u,rfl,ho,hb⟩;obtain⟨hc,hf⟩:=zHE hb;rw[zB] at hc hf ho;obtain⟨a,cap,rfl,-⟩:=ho.rd;have hres:=yu hb;clear K hb c0;go_wp2;refine bodyPost_ret (v:=.agg #[.int .i64 0,.slice a (zAH key data).length cap]) (by simp[results,results190,go_sem,hc]) rfl ⟨_,rfl,?_,(hres.setCell (yf _) _).setCell (yf _) _⟩;exact((ho.set (yg _) _).set (yg _) _).lower (yh _)
theorem zDf (f:Value) (bs data:List UInt8) (p2:Option Addr) (q2:Nat) (w:World) (hf:Tells w f bs) (hr2:Rd w p2 q2 data) (hk:bs.length≤64) (hd:data.length≤500):
    Calls prog 152 #[f,.slice p2 data.length q2] w fun e w'=>∃ g,e=.returned g∧Tells w' g (zAH bs data)∧Below w.heap.size w w':=by
  have hA:=yr w [.slice p2 data.length q2] 22;have hb:=zA w (.cells #[.slice p2 data.length q2] 22)
  have hs:Steps (w.alloc (.cells #[.slice p2 data.length q2] 22)) (.func (.func 190) #[] #[.pointer (some ⟨w.heap.size,0,none⟩)]) bs (zAH bs data):=
    ⟨_,_,rfl,(fun _ _=>by kernel_rfl),fun W p q hW hT rd=>zLy w.heap.size p p2 q q2 bs data W (hA.stay hW) rd ((hr2.keep hb).keep hW) hT hk hd⟩
  have K:=zKv f _ bs (zAH bs data) _ (hf.keep hb) hs
  have hmf:∀ (fn:Fn) (first cap:Array Value) (w:World),(Instr.makeFunc fn first cap).run prog w=.ok (.func fn first cap) w:=fun _ _ _ _=>rfl
  obtain⟨N,cs,rfl⟩:∃ N cs,f=.func (.func N) #[] cs:=⟨hf.choose,hf.choose_spec.choose,hf.choose_spec.choose_spec.1⟩;clear hf hs hA hr2;go_enter func152,ntmps152;go_wp2_with fail;refine K.mono ?_;rintro e w1 ⟨g,rfl,hg,hb1⟩;go_wp2;go_ret;exact⟨_,rfl,hg,yn hb hb1⟩
theorem zLz (g1:Nat) (p:Option Addr) (q:Nat) (key l:List UInt8) (W:World) (hg1:Arr W g1 9 [.string (strB l)]) (hr:Rd W p q key) (hT:Tabs W) (hk:key.length≤64) (hl:zAU l=true):
    Calls prog 188 #[.slice p key.length q,.pointer (some ⟨g1,0,none⟩)] W fun e W'=>∃ u,e=.returned (.agg #[.int .i64 0,u])∧Own W' W.heap.size u (zAG key l [])∧Below W.heap.size W W':=by
  have c0:(W.alloc (.cells #[.int .i64 0,.slice none 0 0] 129)).cell? ⟨g1,0,none⟩=some (.string (strB l)):=by rw[(hg1.old _ _).cell 0];rfl
  have K:Hid (∀ w,Rd w p q key→Tabs w→Calls prog 189 #[.slice p key.length q,.string (strB l),.slice none 0 0] w fun e w'=>∃ u,e=.returned (.agg #[.int .i64 0,u])∧Own w' w.heap.size u (zAG key l [])∧Below w.heap.size w w'):=fun w h h'=>by
    have g:=zKc p none q 0 key l [] w h (zIT w) (by have:=zCM hl;omega) h'
    have h1:keyB key=true:=by simp[keyB,hk]
    rw[show dkC key l []=0 by simp[dkC,h1,hl,zEF],show dkL key l []=zAG key l [] by simp[dkL,h1,hl,zEF]] at g;exact g
  clear hk hl;clear hg1;go_enter func188,ntmps188;go_wp2_with fail;refine(K.out _ (hr.keep (zA _ _)) (hT.keep (zA _ _))).mono ?_;rintro e w1 ⟨u,rfl,ho,hb⟩;obtain⟨hc,hf⟩:=zHE hb;rw[zB] at hc hf ho;obtain⟨a,cap,rfl,-⟩:=ho.rd;have hres:=yu hb;clear K hb c0;go_wp2;refine bodyPost_ret (v:=.agg #[.int .i64 0,.slice a (zAG key l []).length cap]) (by simp[results,results188,go_sem,hc]) rfl ⟨_,rfl,?_,(hres.setCell (yf _) _).setCell (yf _) _⟩;exact((ho.set (yg _) _).set (yg _) _).lower (yh _)
theorem zGd (f:Value) (bs l:List UInt8) (w:World) (hf:Tells w f bs) (hk:bs.length≤64) (hl:zAU l=true):
    Calls prog 151 #[f,.string (strB l)] w fun e w'=>∃ g,e=.returned g∧Tells w' g (zAG bs l [])∧Below w.heap.size w w':=by
  have hA:=yr w [.string (strB l)] 9;have hb:=zA w (.cells #[.string (strB l)] 9)
  have hs:Steps (w.alloc (.cells #[.string (strB l)] 9)) (.func (.func 188) #[] #[.pointer (some ⟨w.heap.size,0,none⟩)]) bs (zAG bs l []):=
    ⟨_,_,rfl,(fun _ _=>by kernel_rfl),fun W p q hW hT rd=>zLz w.heap.size p q bs l W (hA.stay hW) rd hT hk hl⟩
  have K:=zKv f _ bs (zAG bs l []) _ (hf.keep hb) hs
  have hmf:∀ (fn:Fn) (first cap:Array Value) (w:World),(Instr.makeFunc fn first cap).run prog w=.ok (.func fn first cap) w:=fun _ _ _ _=>rfl
  obtain⟨N,cs,rfl⟩:∃ N cs,f=.func (.func N) #[] cs:=⟨hf.choose,hf.choose_spec.choose,hf.choose_spec.choose_spec.1⟩;clear hf hs hA;go_enter func151,ntmps151;go_wp2_with fail;refine K.mono ?_;rintro e w1 ⟨g,rfl,hg,hb1⟩;go_wp2;go_ret;exact⟨_,rfl,hg,yn hb hb1⟩
theorem zL0 (g1:Nat) (g2:Nat) (g3:Nat) (p p2:Option Addr) (q q2:Nat) (key l ctx:List UInt8) (n:Nat) (W:World) (hg1:Arr W g1 9 [.string (strB l)]) (hg2:Arr W g2 22 [.slice p2 ctx.length q2]) (hg3:Arr W g3 2 [.int .i64 (n:Int)]) (hr:Rd W p q key) (hr2:Rd W p2 q2 ctx) (hT:Tabs W) (hk:key.length≤64) (hl:zAm l ctx (n:Int)=0):
    Calls prog 218 #[.slice p key.length q,.pointer (some ⟨g1,0,none⟩),.pointer (some ⟨g2,0,none⟩),.pointer (some ⟨g3,0,none⟩)] W fun e W'=>∃ u,e=.returned (.agg #[.int .i64 0,u])∧Own W' W.heap.size u (zAP key l ctx n)∧Below W.heap.size W W':=by
  have c0:(W.alloc (.cells #[.int .i64 0,.slice none 0 0] 129)).cell? ⟨g1,0,none⟩=some (.string (strB l)):=by rw[(hg1.old _ _).cell 0];rfl
  have c1:(W.alloc (.cells #[.int .i64 0,.slice none 0 0] 129)).cell? ⟨g2,0,none⟩=some (.slice p2 ctx.length q2):=by rw[(hg2.old _ _).cell 0];rfl
  have c2:(W.alloc (.cells #[.int .i64 0,.slice none 0 0] 129)).cell? ⟨g3,0,none⟩=some (.int .i64 (n:Int)):=by rw[(hg3.old _ _).cell 0];rfl
  have K:Hid (∀ w,Rd w p q key→Rd w p2 q2 ctx→Tabs w→Calls prog 212 #[.slice p key.length q,.string (strB l),.slice p2 ctx.length q2,.int .i64 (n:Int)] w fun e w'=>∃ u,e=.returned (.agg #[.int .i64 0,u])∧Own w' w.heap.size u (zAP key l ctx n)∧Below w.heap.size w w'):=fun w h h' h''=>by
    have g:=zEn p p2 q q2 key l ctx (n:Int) w h h' (by have:=zCM (zDx hl).1;omega) h''
    have h1:keyB key=true:=by simp[keyB,hk]
    rw[show elC key l ctx (n:Int)=0 by simp[elC,h1,hl],show elL key l ctx (n:Int)=zAP key l ctx n by simp[elL,elC,h1,hl]] at g;exact g
  clear hk hl;clear hg1 hg2 hg3;go_enter func218,ntmps218;go_wp2_with fail;refine(K.out _ (hr.keep (zA _ _)) (hr2.keep (zA _ _)) (hT.keep (zA _ _))).mono ?_;rintro e w1 ⟨u,rfl,ho,hb⟩;obtain⟨hc,hf⟩:=zHE hb;rw[zB] at hc hf ho;obtain⟨a,cap,rfl,-⟩:=ho.rd;have hres:=yu hb;clear K hb c0 c1 c2;go_wp2;refine bodyPost_ret (v:=.agg #[.int .i64 0,.slice a (zAP key l ctx n).length cap]) (by simp[results,results218,go_sem,hc]) rfl ⟨_,rfl,?_,(hres.setCell (yf _) _).setCell (yf _) _⟩;exact((ho.set (yg _) _).set (yg _) _).lower (yh _)
theorem zJg (f:Value) (bs l ctx:List UInt8) (n:Nat) (p2:Option Addr) (q2:Nat) (w:World) (hf:Tells w f bs) (hr2:Rd w p2 q2 ctx) (hk:bs.length≤64) (hl:zAm l ctx (n:Int)=0):
    Calls prog 198 #[f,.string (strB l),.slice p2 ctx.length q2,.int .i64 (n:Int)] w fun e w'=>∃ g,e=.returned g∧Tells w' g (zAP bs l ctx n)∧Below w.heap.size w w':=by
  have hA1:=((yr w [.string (strB l)] 9).old _ (.cells #[.slice p2 ctx.length q2] 22)).old _ (.cells #[.int .i64 (n:Int)] 2);have hA2:=(yr (w.alloc (.cells #[.string (strB l)] 9)) [.slice p2 ctx.length q2] 22).old _ (.cells #[.int .i64 (n:Int)] 2);have hA3:=yr ((w.alloc (.cells #[.string (strB l)] 9)).alloc (.cells #[.slice p2 ctx.length q2] 22)) [.int .i64 (n:Int)] 2;rw[zB] at hA2;rw[zB,zB] at hA3;have hb:Below w.heap.size w (((w.alloc (.cells #[.string (strB l)] 9)).alloc (.cells #[.slice p2 ctx.length q2] 22)).alloc (.cells #[.int .i64 (n:Int)] 2)):=yt (yt (zA _ _) _) _
  have hs:Steps (((w.alloc (.cells #[.string (strB l)] 9)).alloc (.cells #[.slice p2 ctx.length q2] 22)).alloc (.cells #[.int .i64 (n:Int)] 2)) (.func (.func 218) #[] #[.pointer (some ⟨w.heap.size,0,none⟩),.pointer (some ⟨w.heap.size+1,0,none⟩),.pointer (some ⟨w.heap.size+1+1,0,none⟩)]) bs (zAP bs l ctx n):=
    ⟨_,_,rfl,(fun _ _=>by kernel_rfl),fun W p q hW hT rd=>zL0 w.heap.size (w.heap.size+1) (w.heap.size+1+1) p p2 q q2 bs l ctx n W (hA1.stay hW) (hA2.stay hW) (hA3.stay hW) rd ((hr2.keep hb).keep hW) hT hk hl⟩
  have K:=zKv f _ bs (zAP bs l ctx n) _ (hf.keep hb) hs
  have hmf:∀ (fn:Fn) (first cap:Array Value) (w:World),(Instr.makeFunc fn first cap).run prog w=.ok (.func fn first cap) w:=fun _ _ _ _=>rfl
  obtain⟨N,cs,rfl⟩:∃ N cs,f=.func (.func N) #[] cs:=⟨hf.choose,hf.choose_spec.choose,hf.choose_spec.choose_spec.1⟩;clear hf hs hA1 hA2 hA3 hr2 hl;go_enter func198,ntmps198;go_wp2_with fail;refine K.mono ?_;rintro e w1 ⟨g,rfl,hg,hb1⟩;go_wp2;go_ret;exact⟨_,rfl,hg,yn hb hb1⟩
theorem zET (f:Value) (bs:List UInt8) (w:World) (hf:Tells w f bs) (hT:Tabs w):
    Calls prog 149 #[f] w fun e w'=>∃ u,e=.returned (.agg #[.int .i64 0,u])∧Own w' w.heap.size u bs∧Below w.heap.size w w':=by
  obtain⟨N,cs,rfl,e1,K1⟩:=hf;have e1':∀ (args:Array Value) (w:World),(callFunc N args).run prog w=.ok (.enter N args) w:=e1;have k1:=K1 (w.alloc (.cells #[.int .i64 0,.slice none 0 0] 129)) (zA _ _) (hT.keep (zA _ _));clear K1 hT;go_enter func149,ntmps149;go_wp2_with fail;refine k1.mono ?_;rintro e w1 ⟨u,rfl,ho,hb⟩;obtain⟨hc,hf⟩:=zHE hb;rw[zB] at hc hf ho;obtain⟨a,cap,rfl,-⟩:=ho.rd;have hres:=yu hb;clear k1 hb;go_wp2;refine bodyPost_ret (v:=.agg #[.int .i64 0,.slice a bs.length cap]) (by simp[results,results149,go_sem,hc]) rfl ⟨_,rfl,?_,(hres.setCell (yf _) _).setCell (yf _) _⟩;exact((ho.set (yg _) _).set (yg _) _).lower (yh _)
theorem zL1 (p:Option Addr) (q:Nat) (psk:List UInt8) (w:World) (hr:Rd w p q psk) (hT:Tabs w):
    Calls prog 108 #[.slice p psk.length q] w fun e w'=>∃ u,e=.returned (.agg #[.int .i64 (esC psk),u])∧Own w' w.heap.size u (esL psk)∧Below w.heap.size w w':=by
  have HT:Hid (Tabs w):=hT;clear hT
  by_cases hd:psk.length≤64
  · have hs:esC psk=0:=by simp[esC,hd]
    rw[show esL psk=zAp psk by simp[esL,hs],hs];clear hs
    by_cases h0:psk.length=0
    · have HE:Hid (zAH [] (zs 32)=zAp psk):=by show _=_;simp[zAp,pskN,h0]
      obtain⟨i0,hi,hz0,hz1,hz2⟩:=info_parts zCr
      have KG:Hid (∀ w,Calls prog 150 #[.slice none 0 0] w fun e w'=>∃ f,e=.returned f∧Tells w' f []∧Below w.heap.size w w'):=fun w=>zF0 none 0 [] w (zIT w) (by simp)
      have KX:Hid (∀ w f g,Tells w f []→Rd w (some ⟨g,0,none⟩) 32 (zs 32)→Calls prog 152 #[f,.slice (some ⟨g,0,none⟩) 32 32] w fun e w'=>∃ g,e=.returned g∧Tells w' g (zAp psk)∧Below w.heap.size w w'):=fun w f g h h'=>by
        have k:=zDf f [] (zs 32) (some ⟨g,0,none⟩) 32 w h h' (by simp) (by rw[zAX];decide);rw[zAX,HE.out] at k;exact k
      rw[h0];clear hd hr HE;go_enter func108,ntmps108;go_wp2_with (at_make;go_loud (refine wpList_make_full _ rfl (.const (.int .i64 32)) (.const (.int .i64 32)) 22 rfl w.heap.size 5 i0 (.int .u8 0) 1 underlying22 hi hz0 hz1 .i64 .i64 _ _ 32 rfl rfl rfl rfl (by rw[hz2];decide) (by unfold maxLen;decide) (by simp) ?_);intro wm hown hgrow);have BW:Below w.heap.size w wm:=(zA _ _).grown hgrow (by simp) (fun k hk=>by simp at hk);rw[zB] at hown;have RZ:=Rd.own (zAT hown);have CC:=(yr w [.int .i64 0,.slice none 0 0] 129).other hgrow (by simp)
      have hz:Hid (w.heap.size<wm.heap.size):=by show _<_;have:=hgrow.size;rw[zB] at this;omega
      clear hown hgrow hi hz0 hz1 hz2;refine(KG.out _).mono ?_;rintro e w1 ⟨f1,rfl,t1,b1⟩;replace BW:=yn BW b1;replace CC:=CC.stay b1;replace hz:Hid (w.heap.size<w1.heap.size):=Nat.lt_of_lt_of_le hz.out b1.size;replace RZ:=RZ.keep b1;clear b1;go_wp2_with fail;refine(KX.out _ f1 _ t1 RZ).mono ?_;rintro e w2 ⟨f2,rfl,t2,b2⟩;replace BW:=yn BW b2;replace CC:=CC.stay b2;replace hz:Hid (w.heap.size<w2.heap.size):=Nat.lt_of_lt_of_le hz.out b2.size;replace RZ:=RZ.keep b2;clear b2 t1;go_wp2_with fail;refine(zET f2 (zAp psk) _ t2 (HT.out.keep BW)).mono ?_;rintro e w3 ⟨u,rfl,ho,b3⟩;replace ho:=ho.lower (B':=w2.heap.size) (yf _);replace BW:=yn BW b3;replace CC:=CC.stay b3;clear b3 t2;obtain⟨a,cap,rfl,-⟩:=ho.rd;have c0:=CC.cell 0;have c1:=CC.cell 1;simp at c0 c1;have fz:=CC.frozen;clear HT KG KX RZ;go_wp2;refine bodyPost_ret (v:=.agg #[.int .i64 0,.slice a (zAp psk).length cap]) (by simp[results,results108,go_sem,c0,c1]) rfl ⟨_,rfl,?_,(BW.setCell (yf _) _).setCell (yf _) _⟩;exact((ho.set hz.out _).set hz.out _).lower (Nat.le_of_lt hz.out)
    · have HE:Hid (zAH [] psk=zAp psk):=by show _=_;simp[zAp,pskN,h0]
      have hne:((psk.length:Int)==0)=false:=by rw[beq_eq_false_iff_ne];omega
      have KG:Hid (∀ w,Calls prog 150 #[.slice none 0 0] w fun e w'=>∃ f,e=.returned f∧Tells w' f []∧Below w.heap.size w w'):=fun w=>zF0 none 0 [] w (zIT w) (by simp)
      have KX:Hid (∀ w f,Tells w f []→Rd w p q psk→Calls prog 152 #[f,.slice p psk.length q] w fun e w'=>∃ g,e=.returned g∧Tells w' g (zAp psk)∧Below w.heap.size w w'):=fun w f h h'=>by rw[← HE.out];exact zDf f [] psk p q w h h' (by simp) (by omega)
      have HR:Hid (Rd w p q psk):=hr;clear h0 hr HE;go_enter func108,ntmps108;go_wp2_with fail;refine(KG.out _).mono ?_;rintro e w1 ⟨f1,rfl,t1,b1⟩;have BW:=yu b1;have CC:=(yr w [.int .i64 0,.slice none 0 0] 129).stay b1;have hz:Hid (w.heap.size<w1.heap.size):=zC8 b1;clear b1;go_wp2_with fail;refine(KX.out _ f1 t1 (HR.out.keep BW)).mono ?_;rintro e w2 ⟨f2,rfl,t2,b2⟩;replace BW:=yn BW b2;replace CC:=CC.stay b2;replace hz:Hid (w.heap.size<w2.heap.size):=Nat.lt_of_lt_of_le hz.out b2.size;clear b2 t1;go_wp2_with fail;refine(zET f2 (zAp psk) _ t2 (HT.out.keep BW)).mono ?_;rintro e w3 ⟨u,rfl,ho,b3⟩;replace ho:=ho.lower (B':=w2.heap.size) (yf _);replace BW:=yn BW b3;replace CC:=CC.stay b3;clear b3 t2;obtain⟨a,cap,rfl,-⟩:=ho.rd;have c0:=CC.cell 0;have c1:=CC.cell 1;simp at c0 c1;have fz:=CC.frozen;clear HT HR KG KX;go_wp2;refine bodyPost_ret (v:=.agg #[.int .i64 0,.slice a (zAp psk).length cap]) (by simp[results,results108,go_sem,c0,c1]) rfl ⟨_,rfl,?_,(BW.setCell (yf _) _).setCell (yf _) _⟩;exact((ho.set hz.out _).set hz.out _).lower (Nat.le_of_lt hz.out)
  · have hs:esC psk=2:=by simp[esC,hd]
    rw[show esL psk=[] by simp[esL,hs],hs];clear hs;go_enter func108,ntmps108;go_wp2;exact bodyPost_ret (v:=.agg #[.int .i64 2,.slice none 0 0]) (by simp[results,results108,go_sem]) rfl ⟨_,rfl,zO _ _,zA _ _⟩
theorem zL2 (p p2:Option Addr) (q q2:Nat) (early shared:List UInt8) (w:World) (hr:Rd w p q early) (hr2:Rd w p2 q2 shared) (hT:Tabs w):
    Calls prog 107 #[.slice p early.length q,.slice p2 shared.length q2] w fun e w'=>∃ u,e=.returned (.agg #[.int .i64 (hsC early shared),u])∧Own w' w.heap.size u (hsL early shared)∧Below w.heap.size w w':=by
  have HT:Hid (Tabs w):=hT;clear hT;cases h1:is32 early
  · rw[show hsC early shared=1 by simp[hsC,h1],show hsL early shared=[] by simp[hsL,hsC,h1]];go_enter func107,ntmps107;go_wp2_with fail;refine(zBG p q early _).mono ?_;rintro e w' ⟨rfl,hw⟩;subst hw;rw[h1];go_wp2;exact bodyPost_ret (v:=.agg #[.int .i64 1,.slice none 0 0]) (by simp[results,results107,go_sem]) rfl ⟨_,rfl,zO _ _,zA _ _⟩
  · by_cases hd:shared.length≤64
    · have l1:early.length=32:=by simpa [is32] using h1
      rw[show hsC early shared=0 by simp[hsC,h1,hd],show hsL early shared=zEm early shared by simp[hsL,hsC,h1,hd]]
      have KG:Hid (∀ w,Rd w p q early→Calls prog 150 #[.slice p early.length q] w fun e w'=>∃ f,e=.returned f∧Tells w' f early∧Below w.heap.size w w'):=fun w h=>zF0 p q early w h (by omega)
      have KD:Hid (∀ w f,Tells w f early→Calls prog 151 #[f,.string ⟨#[100,101,114,105,118,101,100]⟩] w fun e w'=>∃ g,e=.returned g∧Tells w' g (zAG early zAb [])∧Below w.heap.size w w'):=fun w f h=>by
        rw[zCv];exact zGd f early zAb w h (by omega) (by decide)
      have KX:Hid (∀ w f,Tells w f (zAG early zAb [])→Rd w p2 q2 shared→Calls prog 152 #[f,.slice p2 shared.length q2] w fun e w'=>∃ g,e=.returned g∧Tells w' g (zEm early shared)∧Below w.heap.size w w'):=fun w f h h'=>zDf f _ shared p2 q2 w h h' (by rw[zCw];decide) (by omega)
      have HR:Hid (Rd w p q early):=hr;have HR2:Hid (Rd w p2 q2 shared):=hr2;clear l1 hr hr2;go_enter func107,ntmps107;go_wp2_with fail;refine(zBG p q early _).mono ?_;rintro e w' ⟨rfl,hw⟩;subst hw;rw[h1];go_wp2_with fail;refine(KG.out _ (HR.out.keep (zA _ _))).mono ?_;rintro e w1 ⟨f1,rfl,t1,b1⟩;have BW:=yu b1;have CC:=(yr w [.int .i64 0,.slice none 0 0] 129).stay b1;have hz:Hid (w.heap.size<w1.heap.size):=zC8 b1;clear b1;go_wp2_with fail;refine(KD.out _ f1 t1).mono ?_;rintro e w2 ⟨f2,rfl,t2,b2⟩;replace BW:=yn BW b2;replace CC:=CC.stay b2;replace hz:Hid (w.heap.size<w2.heap.size):=Nat.lt_of_lt_of_le hz.out b2.size;clear b2 t1;go_wp2_with fail;refine(KX.out _ f2 t2 (HR2.out.keep BW)).mono ?_;rintro e w3 ⟨f3,rfl,t3,b3⟩;replace BW:=yn BW b3;replace CC:=CC.stay b3;replace hz:Hid (w.heap.size<w3.heap.size):=Nat.lt_of_lt_of_le hz.out b3.size;clear b3 t2;go_wp2_with fail;refine(zET f3 (zEm early shared) _ t3 (HT.out.keep BW)).mono ?_;rintro e w4 ⟨u,rfl,ho,b4⟩;replace ho:=ho.lower (B':=w3.heap.size) (yf _);replace BW:=yn BW b4;replace CC:=CC.stay b4;clear b4 t3;obtain⟨a,cap,rfl,-⟩:=ho.rd;have c0:=CC.cell 0;have c1:=CC.cell 1;simp at c0 c1;have fz:=CC.frozen;clear HT HR HR2 KG KX KD;go_wp2;refine bodyPost_ret (v:=.agg #[.int .i64 0,.slice a (zEm early shared).length cap]) (by simp[results,results107,go_sem,c0,c1]) rfl ⟨_,rfl,?_,(BW.setCell (yf _) _).setCell (yf _) _⟩;exact((ho.set hz.out _).set hz.out _).lower (Nat.le_of_lt hz.out)
    · rw[show hsC early shared=2 by simp[hsC,h1,hd],show hsL early shared=[] by simp[hsL,hsC,h1,hd]];go_enter func107,ntmps107;go_wp2_with fail;refine(zBG p q early _).mono ?_;rintro e w' ⟨rfl,hw⟩;subst hw;rw[h1];go_wp2;exact bodyPost_ret (v:=.agg #[.int .i64 2,.slice none 0 0]) (by simp[results,results107,go_sem]) rfl ⟨_,rfl,zO _ _,zA _ _⟩
theorem zL3 (p:Option Addr) (q:Nat) (hand:List UInt8) (w:World) (hr:Rd w p q hand) (hT:Tabs w):
    Calls prog 110 #[.slice p hand.length q] w fun e w'=>∃ u,e=.returned (.agg #[.int .i64 (msC hand),u])∧Own w' w.heap.size u (msL hand)∧Below w.heap.size w w':=by
  have HT:Hid (Tabs w):=hT;clear hT;cases h1:is32 hand
  · rw[show msC hand=1 by simp[msC,h1],show msL hand=[] by simp[msL,msC,h1]];go_enter func110,ntmps110;go_wp2_with fail;refine(zBG p q hand _).mono ?_;rintro e w' ⟨rfl,hw⟩;subst hw;rw[h1];go_wp2;exact bodyPost_ret (v:=.agg #[.int .i64 1,.slice none 0 0]) (by simp[results,results110,go_sem]) rfl ⟨_,rfl,zO _ _,zA _ _⟩
  · have l1:hand.length=32:=by simpa [is32] using h1
    rw[show msC hand=0 by simp[msC,h1],show msL hand=zH hand by simp[msL,msC,h1]];obtain⟨i0,hi,hz0,hz1,hz2⟩:=info_parts zCr
    have KG:Hid (∀ w,Rd w p q hand→Calls prog 150 #[.slice p hand.length q] w fun e w'=>∃ f,e=.returned f∧Tells w' f hand∧Below w.heap.size w w'):=fun w h=>zF0 p q hand w h (by omega)
    have KD:Hid (∀ w f,Tells w f hand→Calls prog 151 #[f,.string ⟨#[100,101,114,105,118,101,100]⟩] w fun e w'=>∃ g,e=.returned g∧Tells w' g (zAG hand zAb [])∧Below w.heap.size w w'):=fun w f h=>by
      rw[zCv];exact zGd f hand zAb w h (by omega) (by decide)
    have KX:Hid (∀ w f g,Tells w f (zAG hand zAb [])→Rd w (some ⟨g,0,none⟩) 32 (zs 32)→Calls prog 152 #[f,.slice (some ⟨g,0,none⟩) 32 32] w fun e w'=>∃ g,e=.returned g∧Tells w' g (zH hand)∧Below w.heap.size w w'):=fun w f g h h'=>by
      have k:=zDf f _ (zs 32) (some ⟨g,0,none⟩) 32 w h h' (by rw[zCw];decide) (by rw[zAX];decide);rw[zAX] at k;exact k
    have HR:Hid (Rd w p q hand):=hr;clear l1 hr;go_enter func110,ntmps110;go_wp2_with fail;refine(zBG p q hand _).mono ?_;rintro e w' ⟨rfl,hw⟩;subst hw;rw[h1];go_wp2_with (at_make;go_loud (refine wpList_make_full _ rfl (.const (.int .i64 32)) (.const (.int .i64 32)) 22 rfl w.heap.size 5 i0 (.int .u8 0) 1 underlying22 hi hz0 hz1 .i64 .i64 _ _ 32 rfl rfl rfl rfl (by rw[hz2];decide) (by unfold maxLen;decide) (by simp) ?_);intro wm hown hgrow);have BW:Below w.heap.size w wm:=(zA _ _).grown hgrow (by simp) (fun k hk=>by simp at hk);rw[zB] at hown;have RZ:=Rd.own (zAT hown);have CC:=(yr w [.int .i64 0,.slice none 0 0] 129).other hgrow (by simp)
    have hz:Hid (w.heap.size<wm.heap.size):=by show _<_;have:=hgrow.size;rw[zB] at this;omega
    clear hown hgrow hi hz0 hz1 hz2;refine(KG.out _ (HR.out.keep BW)).mono ?_;rintro e w1 ⟨f1,rfl,t1,b1⟩;replace BW:=yn BW b1;replace CC:=CC.stay b1;replace hz:Hid (w.heap.size<w1.heap.size):=Nat.lt_of_lt_of_le hz.out b1.size;replace RZ:=RZ.keep b1;clear b1;go_wp2_with fail;refine(KD.out _ f1 t1).mono ?_;rintro e w2 ⟨f2,rfl,t2,b2⟩;replace BW:=yn BW b2;replace CC:=CC.stay b2;replace hz:Hid (w.heap.size<w2.heap.size):=Nat.lt_of_lt_of_le hz.out b2.size;replace RZ:=RZ.keep b2;clear b2 t1;go_wp2_with fail;refine(KX.out _ f2 _ t2 RZ).mono ?_;rintro e w3 ⟨f3,rfl,t3,b3⟩;replace BW:=yn BW b3;replace CC:=CC.stay b3;replace hz:Hid (w.heap.size<w3.heap.size):=Nat.lt_of_lt_of_le hz.out b3.size;replace RZ:=RZ.keep b3;clear b3 t2;go_wp2_with fail;refine(zET f3 (zH hand) _ t3 (HT.out.keep BW)).mono ?_;rintro e w4 ⟨u,rfl,ho,b4⟩;replace ho:=ho.lower (B':=w3.heap.size) (yf _);replace BW:=yn BW b4;replace CC:=CC.stay b4;clear b4 t3;obtain⟨a,cap,rfl,-⟩:=ho.rd;have c0:=CC.cell 0;have c1:=CC.cell 1;simp at c0 c1;have fz:=CC.frozen;clear HT HR KG KX KD RZ;go_wp2;refine bodyPost_ret (v:=.agg #[.int .i64 0,.slice a (zH hand).length cap]) (by simp[results,results110,go_sem,c0,c1]) rfl ⟨_,rfl,?_,(BW.setCell (yf _) _).setCell (yf _) _⟩;exact((ho.set hz.out _).set hz.out _).lower (Nat.le_of_lt hz.out)
theorem zEU (p p2:Option Addr) (q q2:Nat) (secret l digest:List UInt8) (w:World) (hr:Rd w p q secret) (hr2:Rd w p2 q2 digest) (hl:l.length≤1048576) (hT:Tabs w):
    Calls prog 159 #[.slice p secret.length q,.string (strB l),.slice p2 digest.length q2] w fun e w'=>∃ u,e=.returned (.agg #[.int .i64 (tfC secret l digest),u])∧Own w' w.heap.size u (tfL secret l digest)∧Below w.heap.size w w':=by
  have HT:Hid (Tabs w):=hT;clear hT;cases h1:is32 secret
  · rw[show tfC secret l digest=1 by simp[tfC,h1],show tfL secret l digest=[] by simp[tfL,tfC,h1]];go_enter func159,ntmps159;go_wp2_with fail;refine(zBG p q secret _).mono ?_;rintro e w' ⟨rfl,hw⟩;subst hw;rw[h1];go_wp2;exact bodyPost_ret (v:=.agg #[.int .i64 1,.slice none 0 0]) (by simp[results,results159,go_sem]) rfl ⟨_,rfl,zO _ _,zA _ _⟩
  · cases h2:is32 digest
    · rw[show tfC secret l digest=1 by simp[tfC,h1,h2],show tfL secret l digest=[] by simp[tfL,tfC,h1,h2]];go_enter func159,ntmps159;go_wp2_with fail;refine(zBG p q secret _).mono ?_;rintro e w' ⟨rfl,hw⟩;subst hw;rw[h1];go_wp2_with fail;refine(zBG p2 q2 digest _).mono ?_;rintro e w' ⟨rfl,hw⟩;subst hw;rw[h2];go_wp2;exact bodyPost_ret (v:=.agg #[.int .i64 1,.slice none 0 0]) (by simp[results,results159,go_sem]) rfl ⟨_,rfl,zO _ _,zA _ _⟩
    · cases h3:zAU l
      · rw[show tfC secret l digest=5 by simp[tfC,h1,h2,h3],show tfL secret l digest=[] by simp[tfL,tfC,h1,h2,h3]];go_enter func159,ntmps159;go_wp2_with fail;refine(zBG p q secret _).mono ?_;rintro e w' ⟨rfl,hw⟩;subst hw;rw[h1];go_wp2_with fail;refine(zBG p2 q2 digest _).mono ?_;rintro e w' ⟨rfl,hw⟩;subst hw;rw[h2];go_wp2_with fail;refine(zBg l _ hl).mono ?_;rintro e w' ⟨rfl,hw⟩;subst hw;rw[h3];go_wp2;exact bodyPost_ret (v:=.agg #[.int .i64 5,.slice none 0 0]) (by simp[results,results159,go_sem]) rfl ⟨_,rfl,zO _ _,zA _ _⟩
      · have l1:secret.length=32:=by simpa [is32] using h1
        have l2:digest.length=32:=by simpa [is32] using h2
        have hc:zAm l digest ((32:Nat):Int)=0:=by simp[zAm,h3,inB];omega
        rw[show tfC secret l digest=0 by simp[tfC,h1,h2,h3],show tfL secret l digest=zAI secret l digest by simp[tfL,tfC,h1,h2,h3]]
        have KG:Hid (∀ w,Rd w p q secret→Calls prog 150 #[.slice p secret.length q] w fun e w'=>∃ f,e=.returned f∧Tells w' f secret∧Below w.heap.size w w'):=fun w h=>zF0 p q secret w h (by omega)
        have KX:Hid (∀ w f,Tells w f secret→Rd w p2 q2 digest→Calls prog 198 #[f,.string (strB l),.slice p2 digest.length q2,.int .i64 32] w fun e w'=>∃ g,e=.returned g∧Tells w' g (zAI secret l digest)∧Below w.heap.size w w'):=fun w f h h'=>zJg f secret l digest 32 p2 q2 w h h' (by omega) hc
        have HR:Hid (Rd w p q secret):=hr;have HR2:Hid (Rd w p2 q2 digest):=hr2;clear l1 l2 hr hr2 hc;go_enter func159,ntmps159;go_wp2_with fail;refine(zBG p q secret _).mono ?_;rintro e w' ⟨rfl,hw⟩;subst hw;rw[h1];go_wp2_with fail;refine(zBG p2 q2 digest _).mono ?_;rintro e w' ⟨rfl,hw⟩;subst hw;rw[h2];go_wp2_with fail;refine(zBg l _ hl).mono ?_;rintro e w' ⟨rfl,hw⟩;subst hw;rw[h3];go_wp2_with fail;refine(KG.out _ (HR.out.keep (zA _ _))).mono ?_;rintro e w1 ⟨f1,rfl,t1,b1⟩;have BW:=yu b1;have CC:=(yr w [.int .i64 0,.slice none 0 0] 129).stay b1;have hz:Hid (w.heap.size<w1.heap.size):=zC8 b1;clear b1;go_wp2_with fail;refine(KX.out _ f1 t1 (HR2.out.keep BW)).mono ?_;rintro e w2 ⟨f2,rfl,t2,b2⟩;replace BW:=yn BW b2;replace CC:=CC.stay b2;replace hz:Hid (w.heap.size<w2.heap.size):=Nat.lt_of_lt_of_le hz.out b2.size;clear b2 t1;go_wp2_with fail;refine(zET f2 (zAI secret l digest) _ t2 (HT.out.keep BW)).mono ?_;rintro e w3 ⟨u,rfl,ho,b3⟩;replace ho:=ho.lower (B':=w2.heap.size) (yf _);replace BW:=yn BW b3;replace CC:=CC.stay b3;clear b3 t2;obtain⟨a,cap,rfl,-⟩:=ho.rd;have c0:=CC.cell 0;have c1:=CC.cell 1;simp at c0 c1;have fz:=CC.frozen;clear HT HR HR2 KG KX;go_wp2;refine bodyPost_ret (v:=.agg #[.int .i64 0,.slice a (zAI secret l digest).length cap]) (by simp[results,results159,go_sem,c0,c1]) rfl ⟨_,rfl,?_,(BW.setCell (yf _) _).setCell (yf _) _⟩;exact((ho.set hz.out _).set hz.out _).lower (Nat.le_of_lt hz.out)
end Go.Proofs.YtiabacnmmojfjaaGreatDoor
