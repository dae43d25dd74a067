import Derived.Test.YtbaldmmbphbinaaGreatDoorSesP
import Derived.Test.YtbaldmmbphbinaaGreatDoorJoint9
import Derived.Test.YtbaldmmbphbinaaGreatDoorJoint6
import Derived.Test.YtbaldmmbphbinaaGreatDoorJoint7
namespace Go.Proofs.YtbaldmmbphbinaaGreatDoor
open Go.ChangeShapes Go.WideShapes Go.ChangeAt Go.RowKit
structure SesL (W:World) (B g:Nat) (x:SesD) (a b c d:Value) (fb fc fd:List Nat):Prop where
 loc:Arr W g 27 [a,.int .i64 x.2.1,b,c,d]
 ex:Own W B a x.1
 ask:blksC.own W B x.2.2.1 [b] fb
 use:blksC.own W B x.2.2.2.1 [c] fc
 hel:holdsC.own W B x.2.2.2.2 [d] fd
 nd:(g :: (a.ownBlock.toList++(fb++(fc++fd)))).Nodup
 low:B≤g
theorem SesL.fr {W W':World} {B g:Nat} {x:SesD} {a b c d:Value} {fb fc fd:List Nat} (h:SesL W B g x a b c d fb fc fd) (hk:∀ k,B≤k→k<W.heap.size→W'.heap[k]?=W.heap[k]?):SesL W' B g x a b c d fb fc fd:=
 ⟨(hk g h.low h.loc.lt).trans h.loc,zM h.ex fun k e=>hk k (Own.ge h.ex k e) (World.ownsRow.lt h.ex k e).2,blksC.fr h.ask fun k e=>hk k (blksC.ins h.ask k e).1 (blksC.ins h.ask k e).2,blksC.fr h.use fun k e=>hk k (blksC.ins h.use k e).1 (blksC.ins h.use k e).2,holdsC.fr h.hel fun k e=>hk k (holdsC.ins h.hel k e).1 (holdsC.ins h.hel k e).2,h.nd,h.low⟩
theorem SesL.stay {W W':World} {B g:Nat} {x:SesD} {a b c d:Value} {fb fc fd:List Nat} (h:SesL W B g x a b c d fb fc fd) (hb:Below W.heap.size W W'):SesL W' B g x a b c d fb fc fd:=h.fr fun k _ hk=>hb.block k hk
theorem SesL.but {W W':World} {B g s:Nat} {x:SesD} {a b c d:Value} {fb fc fd:List Nat} (h:SesL W B g x a b c d fb fc fd) (hg:W.grownBy W' (some s)) (hs:s<B):SesL W' B g x a b c d fb fc fd:=h.fr fun k h1 hk=>hg.block k hk (fun e=>by have:=Option.some.inj e;omega)
theorem SesL.own {W:World} {B g:Nat} {x:SesD} {a b c d:Value} {fb fc fd:List Nat} (h:SesL W B g x a b c d fb fc fd):sessionC.own W B x [a,.int .i64 x.2.1,b,c,d] (a.ownBlock.toList++(fb++(fc++fd))):=
 zFZ h.ex h.ask h.use h.hel (List.nodup_cons.1 h.nd).2
theorem zCk {P Q f f':List Nat} {N:Nat} (h:(P++(f++Q)).Nodup) (hf:f'.Nodup) (hn:∀ k,k∈f'→k∈f∨N≤k) (hP:∀ k,k∈P→k<N) (hQ:∀ k,k∈Q→k<N):(P++(f'++Q)).Nodup:=by
 obtain⟨h1,h2,h3⟩:=List.nodup_append.1 h;obtain⟨h4,h5,h6⟩:=List.nodup_append.1 h2;refine List.nodup_append.2 ⟨h1,List.nodup_append.2 ⟨hf,h5,fun k hk j hj e=>?_⟩,fun k hk j hj e=>?_⟩
 ·subst e;rcases hn k hk with h | h
  ·exact h6 k h k hj rfl
  ·have:=hQ k hj;omega
 ·subst e;rcases List.mem_append.1 hj with hj | hj
  ·rcases hn k hj with h | h
   ·exact h3 k hk k (List.mem_append_left _ h) rfl
   ·have:=hP k hk;omega
  ·exact h3 k hk k (List.mem_append_right _ hj) rfl
theorem zFf {w w':World} {B:Nat} {v:Value} {bs:List UInt8} {F:List Nat} (h:Own w B v bs) (ho:Only F w w') (hd:∀ k,k∈v.ownBlock.toList→k∉F):Own w' B v bs:=zM h fun k e=>ho.block k (World.ownsRow.lt h k e).2 (hd k (mem_opt.2 e))
theorem zAw {w:World} {B:Nat} {l:List (List UInt8)} {v:Value} {fp:List Nat} (h:blksC.own w B l [v] fp):∃ xs f,OwnL 22 bytC w B v l xs f∧fp=v.ownBlock.toList++f:=by
 obtain⟨v9,xs,f,e,o,rfl⟩:=h;simp only[List.cons.injEq,and_true] at e;subst e;exact⟨xs,f,o,rfl⟩
theorem zEV {w:World} {B:Nat} {l:List (List UInt8)} {v:Value} {xs:List Value} {f:List Nat} (h:OwnL 22 bytC w B v l xs f):blksC.own w B l [v] (v.ownBlock.toList++f):=⟨v,xs,f,rfl,h,rfl⟩
theorem zHq {w:World} {B:Nat} {l:List zJ} {v:Value} {fp:List Nat} (h:holdsC.own w B l [v] fp):fp.Nodup:=by
 obtain⟨v9,xs,f,e,o,rfl⟩:=h;exact o.nd
theorem zBF {w:World} {B g i:Nat} {u:Value} {l:List (List UInt8)} {vs:List Value} {fp:List Nat} (h:blksC.own w B l vs fp) (hg:g∉fp):blksC.own (w.setCell ⟨g,i,none⟩ u) B l vs fp:=blksC.fr h fun k hk=>heap_setCell_other w ⟨g,i,none⟩ k u (fun e=>hg (by have e2:k=g:=e;rw[← e2];exact hk))
theorem zCY {w:World} {B g i:Nat} {u:Value} {l:List zJ} {vs:List Value} {fp:List Nat} (h:holdsC.own w B l vs fp) (hg:g∉fp):holdsC.own (w.setCell ⟨g,i,none⟩ u) B l vs fp:=holdsC.fr h fun k hk=>heap_setCell_other w ⟨g,i,none⟩ k u (fun e=>hg (by have e2:k=g:=e;rw[← e2];exact hk))
theorem zDI {w:World} {B g i:Nat} {u v:Value} {bs:List UInt8} (h:Own w B v bs) (hg:g∉v.ownBlock.toList):Own (w.setCell ⟨g,i,none⟩ u) B v bs:=zM h fun k hk=>heap_setCell_other w ⟨g,i,none⟩ k u (fun e=>hg (by have e2:k=g:=e;rw[← e2];exact mem_opt.2 hk))
theorem SesL.put2 {wn w6:World} {B g N:Nat} {x:SesD} {a b c d b':Value} {fb fc fd fb' F:List Nat} {l:List (List UInt8)} (h:SesL wn B g x a b c d fb fc fd) (hN:∀ k,k∈g :: (a.ownBlock.toList++(fb++(fc++fd)))→k<N) (hl:blksC.own w6 B l [b'] fb') (ho:Only F wn w6) (hF:∀ k,k∈F→k∈fb) (hin:∀ k,k∈fb'→k∈fb∨N≤k):
  SesL (w6.setCell ⟨g,2,none⟩ b') B g (x.1,x.2.1,l,x.2.2.2.1,x.2.2.2.2) a b' c d fb' fc fd:=by
 have nd:=h.nd;obtain⟨xs,f,ol,rfl⟩:=zAw hl;have nd2:(g :: (a.ownBlock.toList++((b'.ownBlock.toList++f)++(fc++fd)))).Nodup:=zCk (P:=g :: a.ownBlock.toList) (f:=fb) (Q:=fc++fd) (by simpa using nd) ol.nd hin (fun k hk=>hN k (by simp at hk ⊢;rcases hk with rfl | hk <;> simp[*])) (fun k hk=>hN k (by simp at hk ⊢;rcases hk with hk | hk <;> simp[hk]));obtain⟨n1,n2⟩:=List.nodup_cons.1 nd;obtain⟨m1,m2⟩:=List.nodup_cons.1 nd2;obtain⟨a1,a2,a3⟩:=List.nodup_append.1 n2;obtain⟨b1,b2,b3⟩:=List.nodup_append.1 a2
 have L6:Arr w6 g 27 [a,.int .i64 x.2.1,b,c,d]:=h.loc.only ho fun hk=>n1 (List.mem_append_right _ (List.mem_append_left _ (hF g hk)))
 exact⟨L6.set 2 b',zDI (zFf h.ex ho fun k hk hf=>a3 k hk k (List.mem_append_left _ (hF k hf)) rfl) (fun e=>m1 (List.mem_append_left _ e)),zBF (zEV ol) (fun e=>m1 (List.mem_append_right _ (List.mem_append_left _ e))),zBF (blksC.other h.use ho fun k hk hf=>b3 k (hF k hf) k (List.mem_append_left _ hk) rfl) (fun e=>m1 (List.mem_append_right _ (List.mem_append_right _ (List.mem_append_left _ e)))),zCY (holdsC.other h.hel ho fun k hk hf=>b3 k (hF k hf) k (List.mem_append_right _ hk) rfl) (fun e=>m1 (List.mem_append_right _ (List.mem_append_right _ (List.mem_append_right _ e)))),nd2,h.low⟩
theorem SesL.put3 {wn w6:World} {B g N:Nat} {x:SesD} {a b c d c':Value} {fb fc fd fc' F:List Nat} {l:List (List UInt8)} (h:SesL wn B g x a b c d fb fc fd) (hN:∀ k,k∈g :: (a.ownBlock.toList++(fb++(fc++fd)))→k<N) (hl:blksC.own w6 B l [c'] fc') (ho:Only F wn w6) (hF:∀ k,k∈F→k∈fc) (hin:∀ k,k∈fc'→k∈fc∨N≤k):
  SesL (w6.setCell ⟨g,3,none⟩ c') B g (x.1,x.2.1,x.2.2.1,l,x.2.2.2.2) a b c' d fb fc' fd:=by
 have nd:=h.nd;obtain⟨xs,f,ol,rfl⟩:=zAw hl
 have nd2:(g :: (a.ownBlock.toList++(fb++((c'.ownBlock.toList++f)++fd)))).Nodup:=by
  have h9:=zCk (P:=g :: (a.ownBlock.toList++fb)) (f:=fc) (Q:=fd) (by simpa using nd) ol.nd hin (fun k hk=>hN k (by simp at hk ⊢;rcases hk with rfl | hk | hk <;> simp[*])) (fun k hk=>hN k (by simp[hk]))
  simpa using h9
 obtain⟨n1,n2⟩:=List.nodup_cons.1 nd;obtain⟨m1,m2⟩:=List.nodup_cons.1 nd2;obtain⟨a1,a2,a3⟩:=List.nodup_append.1 n2;obtain⟨b1,b2,b3⟩:=List.nodup_append.1 a2;obtain⟨c1,c2,c3⟩:=List.nodup_append.1 b2
 have L6:Arr w6 g 27 [a,.int .i64 x.2.1,b,c,d]:=h.loc.only ho fun hk=>n1 (List.mem_append_right _ (List.mem_append_right _ (List.mem_append_left _ (hF g hk))))
 exact⟨L6.set 3 c',zDI (zFf h.ex ho fun k hk hf=>a3 k hk k (List.mem_append_right _ (List.mem_append_left _ (hF k hf))) rfl) (fun e=>m1 (List.mem_append_left _ e)),zBF (blksC.other h.ask ho fun k hk hf=>b3 k hk k (List.mem_append_left _ (hF k hf)) rfl) (fun e=>m1 (List.mem_append_right _ (List.mem_append_left _ e))),zBF (zEV ol) (fun e=>m1 (List.mem_append_right _ (List.mem_append_right _ (List.mem_append_left _ e)))),zCY (holdsC.other h.hel ho fun k hk hf=>c3 k (hF k hf) k hk rfl) (fun e=>m1 (List.mem_append_right _ (List.mem_append_right _ (List.mem_append_right _ e)))),nd2,h.low⟩
theorem SesL.put4 {w6:World} {B g N:Nat} {x:SesD} {a b c d d':Value} {fb fc fd fd':List Nat} {l:List zJ} (h:SesL w6 B g x a b c d fb fc fd) (hN:∀ k,k∈g :: (a.ownBlock.toList++(fb++(fc++fd)))→k<N) (hl:holdsC.own w6 B l [d'] fd') (hin:∀ k,k∈fd'→k∈fd∨N≤k):
  SesL (w6.setCell ⟨g,4,none⟩ d') B g (x.1,x.2.1,x.2.2.1,x.2.2.2.1,l) a b c d' fb fc fd':=by
 have nd:=h.nd
 have nd2:(g :: (a.ownBlock.toList++(fb++(fc++fd')))).Nodup:=by
  have h9:=zCk (P:=g :: (a.ownBlock.toList++(fb++fc))) (f:=fd) (Q:=[]) (by simpa using nd) (zHq hl) hin (fun k hk=>hN k (by simp at hk ⊢;rcases hk with rfl | hk | hk | hk <;> simp[*])) (fun k hk=>absurd hk (List.not_mem_nil))
  simpa using h9
 obtain⟨m1,m2⟩:=List.nodup_cons.1 nd2;exact⟨h.loc.set 4 d',zDI h.ex (fun e=>m1 (List.mem_append_left _ e)),zBF h.ask (fun e=>m1 (List.mem_append_right _ (List.mem_append_left _ e))),zBF h.use (fun e=>m1 (List.mem_append_right _ (List.mem_append_right _ (List.mem_append_left _ e)))),zCY hl (fun e=>m1 (List.mem_append_right _ (List.mem_append_right _ (List.mem_append_right _ e)))),nd2,h.low⟩
theorem SesL.put0 {W:World} {B g ge n:Nat} {x:SesD} {b c d v:Value} {fb fc fd:List Nat} {x1:List UInt8} (h:SesL W B g x (.slice (some ⟨ge,0,none⟩) n n) b c d fb fc fd) (ho:Own (W.setCell ⟨ge,0,none⟩ v) B (.slice (some ⟨ge,0,none⟩) n n) x1):
  SesL (W.setCell ⟨ge,0,none⟩ v) B g (x1,x.2.1,x.2.2.1,x.2.2.2.1,x.2.2.2.2) (.slice (some ⟨ge,0,none⟩) n n) b c d fb fc fd:=by
 have nd:=h.nd;obtain⟨n1,n2⟩:=List.nodup_cons.1 nd;obtain⟨a1,a2,a3⟩:=List.nodup_append.1 n2;have hge:ge∈(Value.slice (some ⟨ge,0,none⟩) n n).ownBlock.toList:=mem_opt.2 rfl;exact⟨h.loc.setOther (a:=⟨ge,0,none⟩) (fun e=>n1 (List.mem_append_left _ (by have e2:g=ge:=e;rw[e2];exact hge))) v,ho,zBF h.ask (fun e=>a3 ge hge ge (List.mem_append_left _ e) rfl),zBF h.use (fun e=>a3 ge hge ge (List.mem_append_right _ (List.mem_append_left _ e)) rfl),zCY h.hel (fun e=>a3 ge hge ge (List.mem_append_right _ (List.mem_append_right _ e)) rfl),nd,h.low⟩
theorem SesL.new {W:World} {B g ge n:Nat} {x1:List UInt8} {r:Int} (hA:Arr W g 27 [.slice (some ⟨ge,0,none⟩) n n,.int .i64 r,.slice none 0 0,.slice none 0 0,.slice none 0 0]) (ho:Own W B (.slice (some ⟨ge,0,none⟩) n n) x1) (hB:B≤g) (hne:ge≠g):
  SesL W B g (x1,r,[],[],[]) (.slice (some ⟨ge,0,none⟩) n n) (.slice none 0 0) (.slice none 0 0) (.slice none 0 0) [] [] []:=
 ⟨hA,ho,zDG,zDG,zHj,by simp[Value.ownBlock];exact fun e=>hne e.symm,hB⟩
theorem zAW (w:World) (g:Nat) (xs:Array Value):w.grownBy (w.setRow g xs) (some g):=⟨rfl,rfl,rfl,by rw[size_setRow];exact Nat.le_refl _,fun k _ hne=>setRow_other w g k xs (fun e=>hne (by rw[e]))⟩
theorem zA2 {w v:World} {row:Option Nat} (hg:w.grownBy v row) {g:Nat} (h:w.heap.size≤g) (xs:Array Value):w.grownBy (v.setRow g xs) row:=
 ⟨hg.os,hg.tape,hg.output,by rw[size_setRow];exact hg.size,fun k hk hne=>(setRow_other v g k xs (by omega)).trans (hg.block k hk hne)⟩
theorem zAf {w v:World} {row:Option Nat} (hg:w.grownBy v row) {g i:Nat} (h:w.heap.size≤g) (u:Value):w.grownBy (v.setCell ⟨g,i,none⟩ u) row:=
 ⟨hg.os,hg.tape,hg.output,by rw[World.size_setCell];exact hg.size,fun k hk hne=>(heap_setCell_other v ⟨g,i,none⟩ k u (by show k≠g;omega)).trans (hg.block k hk hne)⟩
theorem zBW {w:World} {b g i:Nat} {p:Option Addr} {q:Nat} {cs:List UInt8} {t:Int} (h:Src w b p q cs t) (hb:b<g) (u:Value):Src (w.setCell ⟨g,i,none⟩ u) b p q cs t:=h.other (zAM w g i u) (fun k hk=>by have:=Option.some.inj hk;omega)
theorem zBr {w v:World} (h:Below w.heap.size w v) (row:Option Nat):w.grownBy v row:=⟨h.os,h.tape,h.output,h.size,fun k hk _=>h.block k hk⟩
theorem SesL.at2 {wn w6:World} {B g:Nat} {x:SesD} {a b c d:Value} {fb fc fd F:List Nat} (h:SesL wn B g x a b c d fb fc fd) (ho:Only F wn w6) (hF:∀ k,k∈F→k∈fb):Arr w6 g 27 [a,.int .i64 x.2.1,b,c,d]:=
 h.loc.only ho fun hk=>(List.nodup_cons.1 h.nd).1 (List.mem_append_right _ (List.mem_append_left _ (hF g hk)))
theorem SesL.at3 {wn w6:World} {B g:Nat} {x:SesD} {a b c d:Value} {fb fc fd F:List Nat} (h:SesL wn B g x a b c d fb fc fd) (ho:Only F wn w6) (hF:∀ k,k∈F→k∈fc):Arr w6 g 27 [a,.int .i64 x.2.1,b,c,d]:=
 h.loc.only ho fun hk=>(List.nodup_cons.1 h.nd).1 (List.mem_append_right _ (List.mem_append_right _ (List.mem_append_left _ (hF g hk))))
theorem SesL.helRd {W:World} {B g:Nat} {x:SesD} {a b c:Value} {pH:Option Addr} {qH n:Nat} {fb fc fd:List Nat} (h:SesL W B g x a b c (.slice pH n qH) fb fc fd):RdL holdC W pH qH x.2.2.2.2:=by
 obtain⟨v9,xs,f,e,o,rfl⟩:=h.hel;simp only[List.cons.injEq,and_true] at e;subst e;obtain⟨p,q,e,r⟩:=o.rd;cases e;exact r
theorem SesL.helAt {W:World} {B g:Nat} {x:SesD} {a b c d:Value} {fb fc fd:List Nat} (h:SesL W B g x a b c d fb fc fd):∃ p q,d=.slice p x.2.2.2.2.length q:=by
 obtain⟨v9,xs,f,e,o,rfl⟩:=h.hel;simp only[List.cons.injEq,and_true] at e;subst e;obtain⟨p,q,e,r⟩:=o.rd;exact⟨p,q,e⟩
theorem zHr {w:World} {B:Nat} {v:Value} {l:List zJ} (h:w.ownsRow B 81 2 v l.length (zAV l)):holdsC.own w B l [v] (v.ownBlock.toList++[]):=⟨v,zAV l,[],rfl,⟨h,zDZ l,by rw[List.append_nil];exact zAn _⟩,rfl⟩
theorem SesL.lt {W:World} {B g:Nat} {x:SesD} {a b c d:Value} {fb fc fd:List Nat} (h:SesL W B g x a b c d fb fc fd):∀ k,k∈g :: (a.ownBlock.toList++(fb++(fc++fd)))→k<W.heap.size:=fun k hk=>by
 rcases List.mem_cons.1 hk with rfl | hk
 ·exact h.loc.lt
 ·exact(sessionC.ins h.own k hk).2
theorem zA6 {ops:Array Oper} {rest:List Oper} {o:Oper} {a:Act} {Q:Exit→Act→World→Prop} {wn:World} {B N g:Nat} {v u:Value} {out:List (List UInt8)} {xs:List Value} {fp:List Nat} {bs:List UInt8} (hgd:o.guard=none) (s x:Operand)
  (ho:o.op=.call { callee:=.builtin .append,args:=#[s,x],argTypes:=#[24,24] })
  (hO:OwnL 22 bytC wn B v out xs fp) (hins:∀ k,k∈v.ownBlock.toList++fp→k<N) (hu:Own wn N u bs) (hNs:N≤wn.heap.size) (hA:Arr wn g 22 [u]) (hs:a.eval s=v) (hx:a.eval x=.slice (some ⟨g,0,none⟩) 1 1) (hB:B≤N) (hn:out.length≤1000)
  (h:∀ p q w' xs' fp',OwnL 22 bytC w' B (.slice p (out.length+1) q) (out++[bs]) xs' fp'→wn.grownBy w' v.ownBlock→(∀ k,k∈(Value.slice p (out.length+1) q).ownBlock.toList++fp'→k∈v.ownBlock.toList++fp∨N≤k)→Below B wn w'→wpList Tryz.prog ops Q rest (a.put o.dst (.slice p (out.length+1) q)) w'):wpList Tryz.prog ops Q (o :: rest) a wn:=by
 obtain⟨i0,hi,hz0,hz1,hz2⟩:=info_parts zCv;obtain⟨pu,qu,rfl,-⟩:=hu.rd;obtain⟨po,qo,rfl,-⟩:=hO.rd
 have hnew:∀ j u,([.slice pu bs.length qu]:List Value)[j]?=some u→wn.cell? ((⟨g,0,none⟩:Addr).add j)=some u:=fun j u hj=>hA.cells j u hj
 have hz:B≤wn.heap.size:=Nat.le_trans hB hNs;refine wpList_append_lies _ hgd s x 24 ho B 22 i0 (.slice none 0 0) 1 24 Tryz.underlying24 hi hz0 hz1 hz2 rfl (by decide) _ out.length xs hs hO.row ⟨g,0,none⟩ 1 1 [.slice pu bs.length qu] hx rfl hnew (by intro u hu;simp at hu;subst hu;rfl) (by decide) (by unfold maxLen;omega) (by omega) hz _ rfl ?_;intro g6 c6 w6 hown6 hgrow6 hat6 hlt6;have ka:=zCf (a:=bs) (hu.lower (B':=B) hB)
 have OP:=hO.push ka (fun j hj hj2=>by
  have h1:=hu.ge j (mem_opt.1 hj);have h2:=hins j hj2
  omega) (k:=out.length+1) (v':=.slice (some ⟨g6,0,none⟩) (out.length+1) c6) (g:=g6) hown6 (by simp) hgrow6 rfl hat6
 refine h _ _ _ _ _ OP hgrow6 (fun k hk=>?_) ((Below.refl B _).grown hgrow6 hz (fun k hk=>(hO.ins k (List.mem_append_left _ (mem_opt.2 hk))).1));rcases List.mem_append.1 hk with hk | hk
 ·have hg:k=g6:=(Option.some.inj (mem_opt.1 hk)).symm;subst hg;rcases hat6 with h1 | h1
  ·exact .inl (List.mem_append_left _ (mem_opt.2 h1))
  ·exact .inr (by rw[h1];exact hNs)
 ·rcases List.mem_append.1 hk with hk | hk
  ·exact .inl (List.mem_append_right _ hk)
  ·exact .inr (hu.ge k (mem_opt.1 hk))
end Go.Proofs.YtbaldmmbphbinaaGreatDoor
