import Derived.Test.YtbaldmmbphbinaaGreatDoorJoint1
import Derived.Laws.BytesArg
import Derived.Laws.IdiomStrings
import Derived.Test.YtbaldmmbphbinaaGreatDoorRows
import Derived.ProofKit
import Derived.OpenShut
import Derived.Deep.WholeRow
set_option maxHeartbeats 400000
namespace Go.Proofs.YtbaldmmbphbinaaGreatDoor
open Go.RowKit
structure Src (w:World) (b:Nat) (p:Option Addr) (q:Nat) (cs:List UInt8) (n:Int):Prop where
  loc:Loc w b [.slice p cs.length q,.int .i64 n]
  rd:Rd w p q cs
  apart:0<cs.length→∀ x,p=some x→x.block<b
theorem Src.lt {w:World} {b:Nat} {p:Option Addr} {q:Nat} {cs:List UInt8} {n:Int} (h:Src w b p q cs n):b<w.heap.size:=h.loc.1.lt
theorem Rd.set {w:World} {a:Option Addr} {cap:Nat} {bs:List UInt8} (h:Rd w a cap bs) {x:Addr} (hne:0<bs.length→∀ y,a=some y→y.block≠x.block) (u:Value):Rd (w.setCell x u) a cap bs:=by
  obtain⟨h1,h2,h3,h4⟩:=h;refine⟨h1,h2,h3,fun hp=>?_⟩;obtain⟨b,o,rfl,hc⟩:=h4 hp;refine⟨b,o,rfl,fun i hi=>?_⟩;have e:(w.setCell x u).heap[b]?=w.heap[b]?:=Below.heap_setCell _ _ _ _ (hne hp _ rfl);rw[World.cell?_of_block (w:=w) (a:=⟨b,o+i,none⟩) e,hc i hi]
theorem Rd.other {w w':World} {a:Option Addr} {cap:Nat} {bs:List UInt8} {row:Option Nat} (h:Rd w a cap bs) (hg:w.grownBy w' row) (hne:0<bs.length→∀ y,a=some y→row≠some y.block):Rd w' a cap bs:=by
  obtain⟨h1,h2,h3,h4⟩:=h;refine⟨h1,h2,h3,fun hp=>?_⟩;obtain⟨b,o,rfl,hc⟩:=h4 hp;exact⟨b,o,rfl,fun i hi=>zR (hc i hi) hg (hne hp ⟨b,o,none⟩ rfl)⟩
theorem Src.next {w:World} {b:Nat} {p:Option Addr} {q:Nat} {cs:List UInt8} {n:Int} (h:Src w b p q cs n) (m:Int):Src (w.setCell ⟨b,1,none⟩ (.int .i64 m)) b p q cs m:=
  ⟨h.loc.set1 _,h.rd.set (fun hp y hy e=>by have:=h.apart hp y hy;simp at e;omega) _,h.apart⟩
theorem zAM (w:World) (b o:Nat) (u:Value):w.grownBy (w.setCell ⟨b,o,none⟩ u) (some b):=
  ⟨rfl,rfl,rfl,by simp[World.setCell],fun k _ hk=>Below.heap_setCell _ _ _ _ (fun e=>hk (by rw[e]))⟩
theorem zF (w:World) (n:Nat) (row:Option Nat):w.grownBy (w.drewN n) row:=⟨rfl,rfl,rfl,Nat.le_refl _,fun _ _ _=>rfl⟩
theorem Src.drewN {w:World} {b:Nat} {p:Option Addr} {q:Nat} {cs:List UInt8} {n:Int} (h:Src w b p q cs n) (k:Nat):Src (w.drewN k) b p q cs n:=⟨h.loc,h.rd,h.apart⟩
theorem Src.keep {w w':World} {b:Nat} {p:Option Addr} {q:Nat} {cs:List UInt8} {n:Int} (h:Src w b p q cs n) (hb:Below w.heap.size w w'):Src w' b p q cs n:=
  ⟨h.loc.keep hb h.lt,h.rd.keep hb,h.apart⟩
theorem zBQ (w:World) (c:Array Value) (t:TypeId) (xs:List Int) (h:c.toList=xs.map (Value.int .i64)):
    ∀ i,i<xs.length→(w.alloc (.cells c t)).cell? ⟨w.heap.size,i,none⟩=some (.int .i64 (xs.getD i 0)):=fun i hi=>by
  rw[World.cell?_alloc_new]
  have e:c[i]?=c.toList[i]?:=by simp
  rw[e,h];simp[hi]
def strB (bs:List UInt8):ByteArray:=⟨bs.toArray⟩
theorem zAt (bs:List UInt8):(strB bs).size=bs.length:=by simp[strB,ByteArray.size]
theorem zC3 (bs:List UInt8):(strB bs).toList=bs:=by rw[ByteArray.toList_eq];rfl
theorem zLe (l:List UInt8) (i:Nat) (h:i<(strB l).size):(((strB l)[i]'h).toNat:Int)=at8 l i:=by
  have h':i<l.length:=by rw[zAt] at h;exact h
  rw[zA8 h'];rfl
theorem zFA {P:Program} {w:World} {a:Option Addr} {cap:Nat} {bs:List UInt8} (hr:Rd w a cap bs) {src dst e:TypeId}
    (hs:P.underlying src=some (.slice e)) (he:P.underlying e=some (.int .u8)) (hd:P.underlying dst=some .string):
    (convert src dst (.slice a bs.length cap)).run P w=.ok (.string (strB bs)) w:=by
  by_cases h0:0<bs.length
  · obtain⟨b,o,rfl,hc⟩:=hr.2.2.2 h0;rw[run_convert_bytes_arg w src e hs he b o bs.length cap (bs.map fun x=>(x.toNat:Int)) (by simp) (fun i hi=>by rw[hc i hi,zA8 hi];simp[hi]) dst hd]
    congr 2
    have hid:(fun n:Int=>UInt8.ofNat n.toNat)∘(fun x:UInt8=>(x.toNat:Int))=id:=by funext x;simp
    simp[strOfNums,strB,hid]
  · have e0:bs=[]:=List.length_eq_zero_iff.1 (by omega);subst e0;cases a with
    | none=>exact run_convert_bytes_nil w src e hs he 0 cap dst hd
    | some x=>
      rw[show([]:List UInt8).length=0 from rfl,run_convert_bytes_string w src dst e _ 0 cap hs he hd,run_bytesToString w x 0 cap [] (by simpa using run_loadCells_list (P:=P) w x [] (fun j v hj=>by simp at hj))];rfl
def zCJ (w:World) (l:List UInt8):Nat:=grownCap w (strB l).size 0 5
def zDe (w:World) (l:List UInt8):World:=w.drew.alloc (.cells (bytesRow (strB l) (zCJ w l)) 5 ((bytesRow (strB l) (zCJ w l)).size,(bytesRow (strB l) (zCJ w l)).size+1))
theorem zFn {P:Program} {src dst:TypeId} (hs:P.underlying src=some .string) (hd:P.underlying dst=some (.slice 5)) (he:P.underlying 5=some (.int .u8)) (l:List UInt8) (w:World):
    (convert src dst (.string (strB l))).run P w=.ok (.slice (some ⟨w.heap.size,0,none⟩) l.length (zCJ w l)) (zDe w l):=by
  rw[run_bytes_of_string w src dst 5 (strB l) hs hd he,zAt];rfl
theorem zBG (w:World) (l:List UInt8):Below w.heap.size w (zDe w l):=(Below.refl _ _).drew.alloc (Nat.le_refl _) _
theorem zFo (w:World) (l:List UInt8) (hm:l.length≤maxLen):Rd (zDe w l) (some ⟨w.heap.size,0,none⟩) (zCJ w l) l:=by
  refine⟨?_,?_,fun h=>by simp at h,fun _=>⟨w.heap.size,0,rfl,fun i hi=>?_⟩⟩
  · have:=grownCap_ge w (strB l).size 0 5;rw[zAt] at this;unfold zCJ;rw[zAt];exact this
  · exact grownCap_le_maxLen _ _ _ _ (by rw[zAt];exact hm)
  · have h:=World.cell?_alloc_mark w.drew (bytesRow (strB l) (zCJ w l)) 5 ((bytesRow (strB l) (zCJ w l)).size,(bytesRow (strB l) (zCJ w l)).size+1) i;rw[Nat.zero_add];refine h.trans ?_;rw[bytesRow_at _ _ _ (by simpa [strB] using hi),zA8 hi];rfl
theorem zIh {P:Program} (x y:List UInt8) (h:x.length+y.length≤9223372036854775807) (w:World):
    (Op.stringOp .add (strB x) (strB y)).run P w=.ok (.string (strB (x++y))) w:=by
  rw[run_string_add_sum w _ _ (by rw[zAt,zAt];exact h)];unfold strB;rw[ByteArray.mk_append_mk]
theorem zFp (w:World) (a:Value) (t:TypeId):∀ j u,[a][j]?=some u→(w.alloc (.cells #[a] t)).cell? ((⟨w.heap.size,0,none⟩:Addr).add j)=some u:=by
  intro j u hj
  match j,hj with
  | 0,hj=>simp at hj;subst hj;simp[Addr.add]
  | j+1,hj=>simp at hj
theorem zLf {w:World} {B:Nat} {v:Value} {x:List UInt8} {a:UInt8} (h:w.ownsRow B 5 1 v (x.length+1) (x.map u8v++[.int .u8 a.toNat])):Own w B v (x++[a]):=by
  unfold Own;rw[show(x++[a]).length=x.length+1 by simp,show(x++[a]).map u8v=x.map u8v++[.int .u8 a.toNat] by simp[u8v]];exact h
end Go.Proofs.YtbaldmmbphbinaaGreatDoor
namespace Go.Proofs.YtbaldmmbphbinaaGreatDoor
open Go.ChangeShapes Go.WideShapes Go.ChangeAt Go.RowKit
theorem zAm (v lo hi:Int) (w:World):
    Calls Tryz.prog 56 #[.int .i64 v,.int .i64 lo,.int .i64 hi] w fun e w'=>e=.returned (.bool (inB v lo hi))∧w'=w:=by
  by_cases h1:lo≤v
  · by_cases h2:v≤hi
    · go_enter Tryz.func56,Tryz.ntmps56;go_wp2;go_ret;exact⟨by rw[zBP h1 h2];rfl,rfl⟩
    · go_enter Tryz.func56,Tryz.ntmps56;go_wp2;go_ret;exact⟨by rw[zAI (by omega)];rfl,rfl⟩
  · go_enter Tryz.func56,Tryz.ntmps56;go_wp2;go_ret;exact⟨by rw[zAI (by omega)];rfl,rfl⟩
def zM7 (v n:Int):Int:=if inB v 0 4294967295&&inB n 0 31 then 0 else 3
def zNE (v n:Int):Int:=if inB v 0 4294967295&&inB n 0 31 then (rotN v.toNat n.toNat:Nat) else 0
theorem zLg {a b:Int} (h:a=b):Ending.returned (Value.int .i64 a)=.returned (.int .i64 b):=by rw[h]
theorem zIi {a b:Int} (h:a=b):Ending.returned (Value.int .u32 a)=.returned (.int .u32 b):=by rw[h]
theorem zJ8 (v n:Nat) (w:World) (h2:v<4294967296) (h3:1≤n) (h4:n≤31):
    Calls Tryz.prog 108 #[.int .i64 v,.int .i64 n] w fun e w'=>e=.returned (.int .i64 (rotN v n:Nat))∧w'=w:=by
  have hw:=zLW n h4;have HS:Hid (wrap64 ((v:Int) / 2 ^ n+wrap64 ((v:Int) % wrap64 (2 ^ n)*2 ^ (32-n)))=(rotN v n:Nat)):=zJ2 v n h2 h3 h4
  have hn:(32-(n:Int)).toNat=32-n:=by omega
  go_enter Tryz.func108,Tryz.ntmps108;go_wp2;go_ret;exact⟨zLg HS.out,rfl⟩
theorem zNF (v n:Nat) (w:World) (h2:v<4294967296) (h4:n≤31):
    Calls Tryz.prog 191 #[.int .u32 v,.int .i64 (-(n:Int))] w fun e w'=>e=.returned (.int .u32 (rotN v n:Nat))∧w'=w:=by
  by_cases h0:n=0
  · subst h0
    have hk:bits .and .u64 0 31=0:=by decide
    have HS:Hid (bits BinOp.or IntKind.u32 (v:Int) ((v:Int) / 4294967296)=(rotN v 0:Nat)):=by
      rw[zIX,show((v:Int) / 4294967296)=((0:Nat):Int) by omega];exact(u32_or_nat v 0 h2 (by decide)).trans (by simp)
    go_enter Tryz.func191,Tryz.ntmps191;go_wp2;go_ret;exact⟨zIi HS.out,rfl⟩
  · have hk:=zM8 n h4;rw[Nat.mod_eq_of_lt (by omega)] at hk;have HS:Hid (bits .or .u32 ((v:Int)*2 ^ (32-n) % 4294967296) ((v:Int) / 2 ^ n)=(rotN v n:Nat)):=zMb v n h2 (by omega) h4
    have hn:(32-((32-n:Nat):Int)).toNat=n:=by omega
    have hl:((32-n:Nat):Int)≤32:=by omega
    generalize hm:32-n=m at *;go_enter Tryz.func191,Tryz.ntmps191;go_wp2;go_ret;exact⟨zIi HS.out,rfl⟩
theorem zBX (v n:Nat) (w:World) (h2:v<4294967296) (h4:n≤31):
    Calls Tryz.prog 189 #[.int .u32 v,.int .i64 n] w fun e w'=>e=.returned (.int .u32 (rotN v n:Nat))∧w'=w:=by
  go_enter Tryz.func189,Tryz.ntmps189;go_wp2_with fail;refine(zNF v n _ h2 h4).mono ?_;rintro e w1 ⟨rfl,rfl⟩;go_wp2;go_ret;exact⟨rfl,rfl⟩
end Go.Proofs.YtbaldmmbphbinaaGreatDoor
namespace Go.Proofs.YtbaldmmbphbinaaGreatDoor
open Go.RowKit
def Arr (w:World) (g:Nat) (t:TypeId) (vs:List Value):Prop:=w.heap[g]?=some (.cells vs.toArray t (0,0))
theorem Arr.cell {w:World} {g:Nat} {t:TypeId} {vs:List Value} (h:Arr w g t vs) (i:Nat):w.cell? ⟨g,i,none⟩=vs[i]?:=by
  rw[cell_of_row w g i vs.toArray t (0,0) h];simp
theorem Arr.frozen {w:World} {g:Nat} {t:TypeId} {vs:List Value} (h:Arr w g t vs) (i:Nat):w.frozen? ⟨g,i,none⟩=false:=frozen_of_row w g i _ t h
theorem Arr.lt {w:World} {g:Nat} {t:TypeId} {vs:List Value} (h:Arr w g t vs):g<w.heap.size:=(Array.getElem?_eq_some_iff.1 h).1
theorem Arr.set {w:World} {g:Nat} {t:TypeId} {vs:List Value} (h:Arr w g t vs) (i:Nat) (v:Value):Arr (w.setCell ⟨g,i,none⟩ v) g t (vs.set i v):=by
  unfold Arr;rw[heap_setCell_same w g i vs.toArray t v h];simp
theorem Arr.setOther {w:World} {g:Nat} {t:TypeId} {vs:List Value} (h:Arr w g t vs) {a:Addr} (ha:g≠a.block) (u:Value):Arr (w.setCell a u) g t vs:=by
  unfold Arr;rw[heap_setCell_other w a g u ha];exact h
theorem Arr.keep {w w':World} {g B:Nat} {t:TypeId} {vs:List Value} (h:Arr w g t vs) (hb:Below B w w') (hg:g<B):Arr w' g t vs:=(hb.block g hg).trans h
theorem Arr.stay {w w':World} {g:Nat} {t:TypeId} {vs:List Value} (h:Arr w g t vs) (hb:Below w.heap.size w w'):Arr w' g t vs:=h.keep hb h.lt
theorem Arr.other {w w':World} {g:Nat} {t:TypeId} {vs:List Value} {row:Option Nat} (h:Arr w g t vs) (hg:w.grownBy w' row) (hne:row≠some g):Arr w' g t vs:=
  (hg.block g h.lt (fun e=>hne e.symm)).trans h
theorem Arr.drew {w:World} {g n:Nat} {t:TypeId} {vs:List Value} (h:Arr w g t vs):Arr (w.drewN n) g t vs:=h
theorem Arr.new (w:World) (vs:List Value) (t:TypeId):Arr (w.alloc (.cells vs.toArray t)) w.heap.size t vs:=heap_alloc_new w _
theorem Arr.old (w:World) (o:Obj) {g:Nat} {t:TypeId} {vs:List Value} (h:Arr w g t vs):Arr (w.alloc o) g t vs:=h.stay (zA w o)
theorem Arr.row {w:World} {g:Nat} {t:TypeId} {vs:List Value} (h:Arr w g t vs) (us:List Value):Arr (w.setRow g us.toArray) g t us:=setRow_heap w g _ _ t _ h
theorem Arr.rowOther {w:World} {g k:Nat} {t:TypeId} {vs:List Value} (h:Arr w g t vs) (hk:g≠k) (us:Array Value):Arr (w.setRow k us) g t vs:=(setRow_other w k g us hk).trans h
theorem Below.row {B:Nat} {a w:World} (h:Below B a w) {g:Nat} (hg:B≤g) (us:Array Value):Below B a (w.setRow g us):=
  ⟨h.os,h.tape,h.output,by rw[size_setRow];exact h.size,fun k hk=>(setRow_other w g k us (by omega)).trans (h.block k hk)⟩
theorem Own.row {w:World} {B:Nat} {v:Value} {bs:List UInt8} (h:Own w B v bs) {g:Nat} (hg:∀ k,v.ownBlock=some k→k≠g) (us:Array Value):Own (w.setRow g us) B v bs:=by
  obtain⟨h1,h2⟩:=h;refine⟨h1,?_⟩;rcases h2 with h2 | ⟨k,cap,cur,rfl,hb,hh,r⟩
  · exact .inl h2
  · exact .inr ⟨k,cap,cur,rfl,hb,(setRow_other w g k us (hg k rfl)).trans hh,r⟩
theorem Loc.arr {w:World} {g:Nat} {t:TypeId} {vs:List Value} (h:Arr w g t vs):Loc w g vs:=⟨fun i _ hv=>(h.cell i).trans hv,fun o=>h.frozen o⟩
theorem zC4 (g o j:Nat):(⟨g,o,none⟩:Addr).add j=⟨g,o+j,none⟩:=by simp[Addr.add]
theorem Arr.cells {w:World} {g:Nat} {t:TypeId} {vs:List Value} (h:Arr w g t vs):∀ j u,vs[j]?=some u→w.cell? ((⟨g,0,none⟩:Addr).add j)=some u:=fun j u hu=>by
  rw[zC4,Nat.zero_add,h.cell];exact hu
theorem zFq {P:Program} {o:Oper} {a:Act} {w:World} {K:Act→World→Prop} {Q:Exit→Act→World→Prop} (t:TypeId) (ho:o.op=.alloc t) (cs:Array Value) (hz:∀ w,(zeroValue t).run P w=.ok (.agg cs) w)
    (h:K (a.put o.dst (.pointer (some ⟨w.heap.size,0,none⟩))) (w.alloc (.cells cs t))):o.wp P a w K Q:=by
  unfold Oper.wp execOp;simp only[ho,Instr.alloc,Sem.run_bind,hz,Result.andThen_ok,newVar,newRow,Value.cells,run_newObj_alloc,Sem.run_pure];exact h
theorem zS {P:Program} {ops:Array Oper} {rest:List Oper} {o:Oper} {a:Act} {w:World} {Q:Exit→Act→World→Prop} (hgd:o.guard=none) (t:TypeId) (ho:o.op=.alloc t) (cs:Array Value) (hz:∀ w,(zeroValue t).run P w=.ok (.agg cs) w) (H:Nat) (hH:w.heap.size=H)
    (h:wpList P ops Q rest (a.put o.dst (.pointer (some ⟨H,0,none⟩))) (w.alloc (.cells cs t))):wpList P ops Q (o :: rest) a w:=by
  subst hH
  exact wpList_plain hgd fun _ hK=>zFq t ho cs hz (hK _ _ h)
theorem zD9 {P:Program} {ops:Array Oper} {rest:List Oper} {o:Oper} {a:Act} {w:World} {Q:Exit→Act→World→Prop} (hgd:o.guard=none) (t:TypeId) (ho:o.op=.build t #[]) (cells:Array Value)
    (hb:P.built t []=some cells) (h:wpList P ops Q rest (a.put o.dst (.agg cells)) w):wpList P ops Q (o :: rest) a w:=
  wpList_build hgd t #[] ho (by simp[hb]) (by simpa [hb] using h)
theorem zAv {P:Program} {ops:Array Oper} {rest:List Oper} {o:Oper} {a:Act} {w:World} {Q:Exit→Act→World→Prop} (hgd:o.guard=none) (t:TypeId) (x i:Operand) (ho:o.op=.index t x i)
    (n:Nat) (e:TypeId) (cs:Array Value) (j:Nat) (k:IntKind) (k':IntKind) (v:Value) (hx:a.eval x=.agg cs) (hi:a.eval i=.int k (j:Int)) (hu:P.underlying t=some (.array n e)) (hj:j<n)
    (he:(P.info? e).map (·.size)=some 1) (hue:P.underlying e=some (.int k')) (hc:cs[j]?=some v)
    (h:wpList P ops Q rest (a.put o.dst v) w):wpList P ops Q (o :: rest) a w:=
  wpList_plain hgd fun _ hK=>by
    unfold Oper.wp execOp;cases hq:P.info? e with
    | none=>simp[hq] at he
    | some ie=>
      have hs:ie.size=1:=by simpa [hq] using he
      have hj':(0:Int)≤(j:Int)∧(j:Int)<(n:Int):=by omega
      have hz:(sizeOf e).run P w=.ok 1 w:=by simp[sizeOf,typeInfo,hq,hs]
      have hg:(isAgg e).run P w=.ok false w:=by simp[isAgg,run_underlying hue]
      have r:(Instr.index t (.agg cs) (.int k (j:Int))).run P w=.ok v w:=by
        simp only[Instr.index,asIntOf,Sem.run_bind,Sem.run_pure,Result.andThen_ok,run_underlying hu,if_pos hj',hz,Int.toNat_natCast,Nat.mul_one,Go.part,hg,hc];rfl
      simp only[ho,hx,hi,Sem.run_bind,Sem.run_pure,r,Result.andThen_ok];exact hK _ _ h
def zI:List Value:=List.replicate 64 (.int .i64 0)
def zU:List Value:=List.replicate 64 (.int .u32 0)
theorem zIj:zI.length=64:=by simp[zI]
theorem zLH:zU.length=64:=by simp[zU]
end Go.Proofs.YtbaldmmbphbinaaGreatDoor
