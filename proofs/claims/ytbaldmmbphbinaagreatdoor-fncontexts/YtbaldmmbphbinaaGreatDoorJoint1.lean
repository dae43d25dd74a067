import Derived.Test.YtbaldmmbphbinaaGreatDoorRows
import Derived.KernelRfl
import Derived.WalkKit
import Derived.WalkSmall
import Derived.OpenShut
namespace Go.Proofs.YtbaldmmbphbinaaGreatDoor
theorem zQ {α:Type} {a b:Option α} {c:α} (h:a=b) (k:b=some c):a=some c:=h.trans k
open Go
theorem zG5 (c:Int) (a:Option Addr) (n m:Nat) (w:World):(Instr.field 126 (.agg #[.int .i64 c,.slice a n m]) 0).run Tryz.prog w=.ok (.int .i64 c) w:=by kernel_rfl
theorem zBf (c:Int) (a:Option Addr) (n m:Nat) (w:World):(Instr.field 126 (.agg #[.int .i64 c,.slice a n m]) 1).run Tryz.prog w=.ok (.slice a n m) w:=by kernel_rfl
end Go.Proofs.YtbaldmmbphbinaaGreatDoor
namespace Go.Proofs.YtbaldmmbphbinaaGreatDoor
open Go.RowKit
def inB (v lo hi:Int):Bool:=decide (lo≤v∧v≤hi)
theorem zBP {v lo hi:Int} (h1:lo≤v) (h2:v≤hi):inB v lo hi=true:=by simp[inB,h1,h2]
theorem zAI {v lo hi:Int} (h:¬ (lo≤v∧v≤hi)):inB v lo hi=false:=by simpa [inB] using h
theorem zHu {B:Nat} {W w1:World} (hb:Below B W w1):(∀ b o,b<B→w1.cell? ⟨b,o,none⟩=W.cell? ⟨b,o,none⟩)∧(∀ b o,b<B→w1.frozen? ⟨b,o,none⟩=W.frozen? ⟨b,o,none⟩):=
  ⟨fun b o h=>hb.cell (p:=⟨b,o,none⟩) h,fun b o h=>hb.frozen (p:=⟨b,o,none⟩) h⟩
theorem zD (w:World) (o:Obj):(w.alloc o).heap.size=w.heap.size+1:=by simp
theorem zGW {w w1:World} {o:Obj} (hb:Below (w.alloc o).heap.size (w.alloc o) w1):w.heap.size<w1.heap.size:=by have:=hb.size;rw[zD] at this;omega
theorem Below.step {W a b:World} (h:Below W.heap.size W a) (k:Below a.heap.size a b):Below W.heap.size W b:=h.trans (k.mono h.size)
theorem Below.res {w w1:World} {o:Obj} (hb:Below (w.alloc o).heap.size (w.alloc o) w1):Below w.heap.size w w1:=
  Below.step ((Below.refl _ _).alloc (Nat.le_refl _) _) hb
theorem Below.mk {W a:World} (h:Below W.heap.size W a) (o:Obj):Below W.heap.size W (a.alloc o):=h.alloc h.size o
def rotN (v n:Nat):Nat:=v / 2 ^ n+v % 2 ^ n*2 ^ (32-n)
theorem zFi (n:Nat) (h:n≤32):2 ^ n*2 ^ (32-n)=4294967296:=by
  rw[← Nat.pow_add,show n+(32-n)=32 by omega]
theorem zW (v n:Nat) (hv:v<4294967296) (hn:n≤32):rotN v n<4294967296:=by
  have hp:=zFi n hn
  have h1:v / 2 ^ n<2 ^ (32-n):=by
    rw[Nat.div_lt_iff_lt_mul (Nat.two_pow_pos n),Nat.mul_comm,hp];exact hv
  have h2:v % 2 ^ n<2 ^ n:=Nat.mod_lt _ (Nat.two_pow_pos n);have h3:(v % 2 ^ n+1)*2 ^ (32-n)≤2 ^ n*2 ^ (32-n):=Nat.mul_le_mul_right _ h2;rw[hp,Nat.add_mul] at h3;unfold rotN;omega
theorem zIX (v:Nat):rotN v 0=v:=by simp[rotN,Nat.mod_one]
theorem zMb (v n:Nat) (hv:v<4294967296) (h1:1≤n) (h2:n≤31):
    bits .or .u32 ((v:Int)*2 ^ (32-n) % 4294967296) ((v:Int) / 2 ^ n)=(rotN v n:Nat):=by
  have hp:=zFi n (by omega)
  have e1:((v:Int)*2 ^ (32-n) % 4294967296)=((v % 2 ^ n*2 ^ (32-n):Nat):Int):=by
    rw[← Nat.mul_mod_mul_right (2 ^ (32-n)) v (2 ^ n),hp,Int.natCast_emod,Int.natCast_mul,Int.natCast_pow];rfl
  have e2:((v:Int) / 2 ^ n)=((v / 2 ^ n:Nat):Int):=by push_cast;rfl
  have a1:v % 2 ^ n*2 ^ (32-n)<4294967296:=by
    have:=zW v n hv (by omega);unfold rotN at this;omega
  have a2:v / 2 ^ n<2 ^ (32-n):=by
    rw[Nat.div_lt_iff_lt_mul (Nat.two_pow_pos n),Nat.mul_comm,hp];exact hv
  have a3:v / 2 ^ n<4294967296:=Nat.lt_of_le_of_lt (Nat.div_le_self _ _) hv;rw[e1,e2,u32_or_nat _ _ a1 a3,← Nat.shiftLeft_eq,← Nat.shiftLeft_add_eq_or_of_lt a2,Nat.shiftLeft_eq];unfold rotN;rw[Nat.add_comm]
theorem zM8 (n:Nat) (h:n≤31):bits .and .u64 (IntKind.u64.wrap (-(n:Int))) 31=((32-n) % 32:Nat):=by
  have:∀ n:Fin 32,bits .and .u64 (IntKind.u64.wrap (-(n.val:Int))) 31=((32-n.val) % 32:Nat):=by decide
  exact this ⟨n,by omega⟩
theorem zJ2 (v n:Nat) (hv:v<4294967296) (h1:1≤n) (h2:n≤31):
    wrap64 ((v:Int) / 2 ^ n+wrap64 ((v:Int) % wrap64 (2 ^ n)*2 ^ (32-n)))=(rotN v n:Nat):=by
  have hl:=zW v n hv (by omega)
  have e0:wrap64 (2 ^ n)=2 ^ n:=by
    have h3:(2:Nat) ^ n≤2 ^ 31:=Nat.pow_le_pow_right (by decide) h2
    have h4:((2 ^ n:Nat):Int)≤2147483648:=by omega
    have h5:(0:Int)≤((2 ^ n:Nat):Int):=Int.natCast_nonneg _
    push_cast at h4 h5
    unfold wrap64;omega
  rw[e0]
  have e1:((v:Int) % 2 ^ n*2 ^ (32-n))=((v % 2 ^ n*2 ^ (32-n):Nat):Int):=by push_cast;rfl
  have e2:((v:Int) / 2 ^ n)=((v / 2 ^ n:Nat):Int):=by push_cast;rfl
  rw[e1,e2];unfold rotN at hl ⊢;generalize v / 2 ^ n=A at *;generalize v % 2 ^ n*2 ^ (32-n)=B at *;clear e0 e1 e2;unfold wrap64;omega
theorem zLW (n:Nat) (h2:n≤31):wrap64 (2 ^ n)≠0:=by
    have h3:(2:Nat) ^ n≤2 ^ 31:=Nat.pow_le_pow_right (by decide) h2
    have h4:((2 ^ n:Nat):Int)≤2147483648:=by omega
    have h5:(0:Int)<((2 ^ n:Nat):Int):=by have:=Nat.two_pow_pos n;omega
    push_cast at h4 h5
    unfold wrap64;omega
theorem zBv (a:Nat) (h:a<9223372036854775808):(BitVec.ofInt 64 (a:Int)).toNat=a:=by
  rw[BitVec.toNat_ofInt];omega
theorem zCG (a:Nat) (h:a<9223372036854775808):IntKind.i64.wrap (a:Int)=a:=by
  rw[IntKind.wrap_i64];omega
theorem zGX (a b:Nat) (ha:a<9223372036854775808) (hb:b<9223372036854775808):bits .xor .i64 (a:Int) (b:Int)=((a ^^^ b:Nat):Int):=by
  have hx:a ^^^ b<2 ^ 63:=Nat.xor_lt_two_pow (by omega) (by omega)
  show IntKind.i64.wrap ((BitVec.ofInt 64 (a:Int) ^^^ BitVec.ofInt 64 (b:Int)).toNat:Int)=_
  rw[BitVec.toNat_xor,zBv a ha,zBv b hb,zCG _ (by omega)]
theorem zGY (a b:Nat) (ha:a<9223372036854775808) (hb:b<9223372036854775808):bits .and .i64 (a:Int) (b:Int)=((a &&& b:Nat):Int):=by
  have hx:a &&& b<2 ^ 63:=Nat.and_lt_two_pow _ (by omega)
  show IntKind.i64.wrap ((BitVec.ofInt 64 (a:Int) &&& BitVec.ofInt 64 (b:Int)).toNat:Int)=_
  rw[BitVec.toNat_and,zBv a ha,zBv b hb,zCG _ (by omega)]
def u8v (b:UInt8):Value:=.int .u8 (b.toNat:Int)
def at8 (bs:List UInt8) (i:Nat):Int:=((bs.getD i 0).toNat:Int)
theorem zDb (bs:List UInt8) (i:Nat):0≤at8 bs i:=by unfold at8;omega
theorem zDc (bs:List UInt8) (i:Nat):at8 bs i≤255:=by unfold at8;have:=(bs.getD i 0).toNat_lt;omega
theorem zA8 {bs:List UInt8} {i:Nat} (h:i<bs.length):at8 bs i=(bs[i].toNat:Int):=by simp[at8,h]
theorem zBg {bs:List UInt8} {i:Nat} (h:i<bs.length):(bs.map u8v)[i]?=some (.int .u8 (at8 bs i)):=by simp[u8v,at8,h]
def Rd (w:World) (a:Option Addr) (cap:Nat) (bs:List UInt8):Prop:=
  bs.length≤cap∧cap≤maxLen∧(a=none→cap=0)∧(0<bs.length→∃ b o,a=some ⟨b,o,none⟩∧∀ i,i<bs.length→w.cell? ⟨b,o+i,none⟩=some (.int .u8 (at8 bs i)))
def Own (w:World) (B:Nat) (v:Value) (bs:List UInt8):Prop:=w.ownsRow B 5 1 v bs.length (bs.map u8v)
theorem Own.rd {w:World} {B:Nat} {v:Value} {bs:List UInt8} (h:Own w B v bs):∃ a cap,v=.slice a bs.length cap∧Rd w a cap bs:=by
  have h0:=h;rcases h.2 with ⟨rfl,hn⟩ | ⟨g,cap,cur,rfl,hb,hg,hle,hm,hs,ht⟩
  · exact⟨none,0,by rw[hn],by omega,by simp[maxLen],fun _=>rfl,fun hp=>by omega⟩
  · refine⟨_,cap,rfl,hle,hm,fun hh=>by simp at hh,fun _=>⟨g,0,rfl,fun i hi=>?_⟩⟩;have:=World.ownsRow.cellAt h0 i (by omega);rw[Nat.zero_add,this,zBg hi]
theorem Rd.keep {w w':World} {a:Option Addr} {cap:Nat} {bs:List UInt8} (h:Rd w a cap bs) (hb:Below w.heap.size w w'):Rd w' a cap bs:=by
  obtain⟨h1,h2,h3,h4⟩:=h;refine⟨h1,h2,h3,fun hp=>?_⟩;obtain⟨b,o,rfl,hc⟩:=h4 hp;refine⟨b,o,rfl,fun i hi=>?_⟩;have hi':=hc i hi;rw[hb.cell (p:=⟨b,o+i,none⟩) (World.block_lt_of_cell? w _ hi'),hi']
theorem Own.keep {w w':World} {B N:Nat} {v:Value} {bs:List UInt8} (h:Own w B v bs) (hb:Below N w w') (hn:∀ k,v.ownBlock=some k→k<N):Own w' B v bs:=by
  obtain⟨h1,h2⟩:=h;refine⟨h1,?_⟩;rcases h2 with h2 | ⟨g,cap,cur,rfl,hg,hh,r⟩
  · exact .inl h2
  · exact .inr ⟨g,cap,cur,rfl,hg,(hb.block g (hn g rfl)).trans hh,r⟩
theorem Own.stay {w w':World} {B:Nat} {v:Value} {bs:List UInt8} (h:Own w B v bs) (hb:Below w.heap.size w w'):Own w' B v bs:=
  h.keep hb (fun k hk=>(World.ownsRow.lt h k hk).2)
theorem Own.set {w:World} {B:Nat} {v:Value} {bs:List UInt8} (h:Own w B v bs) {a:Addr} (ha:a.block<B) (u:Value):Own (w.setCell a u) B v bs:=
  ownsRow_setCell_below h ha u
theorem Own.lower {w:World} {B B':Nat} {v:Value} {bs:List UInt8} (h:Own w B v bs) (hb:B'≤B):Own w B' v bs:=by
  obtain⟨h1,h2⟩:=h;refine⟨h1,?_⟩;rcases h2 with h2 | ⟨g,cap,cur,rfl,hg,r⟩
  · exact .inl h2
  · exact .inr ⟨g,cap,cur,rfl,by omega,r⟩
theorem Own.lt {w:World} {B:Nat} {v:Value} {bs:List UInt8} (h:Own w B v bs):∀ k,v.ownBlock=some k→k<w.heap.size:=fun k hk=>(World.ownsRow.lt h k hk).2
theorem Own.ge {w:World} {B:Nat} {v:Value} {bs:List UInt8} (h:Own w B v bs):∀ k,v.ownBlock=some k→B≤k:=fun k hk=>(World.ownsRow.lt h k hk).1
def part (bs:List UInt8) (n k:Nat):List Value:=(bs.take k).map u8v++List.replicate (n-k) (.int .u8 0)
theorem zIY (bs:List UInt8) (n:Nat):part bs n 0=List.replicate n (.int .u8 0):=by simp[part]
theorem zJ3 (bs:List UInt8):part bs bs.length bs.length=bs.map u8v:=by simp[part]
theorem zJ4 (bs:List UInt8) (k:Nat) (h:k<bs.length):(part bs bs.length k).set k (.int .u8 (at8 bs k))=part bs bs.length (k+1):=by
  have e:u8v bs[k]=.int .u8 (at8 bs k):=by rw[zA8 h];rfl
  have hl:((bs.take k).map u8v).length=k:=by simp;omega
  unfold part;rw[List.set_append_right _ _ (by omega),hl,Nat.sub_self,List.take_succ_eq_append_getElem h,List.map_append,List.append_assoc]
  congr 1
  rw[show bs.length-k=(bs.length-(k+1))+1 by omega,List.replicate_succ,List.set_cons_zero,← e];rfl
theorem zLX (bs:List UInt8) (k:Nat) (h:k<bs.length):(part bs bs.length k)[k]?=some (.int .u8 0):=by
  have hl:((bs.take k).map u8v).length=k:=by simp;omega
  unfold part;rw[List.getElem?_append_right (by omega),hl,Nat.sub_self,List.getElem?_replicate,if_pos (by omega)]
theorem zCo (n:Nat):(madeCells (Value.cells (.int .u8 0)) (n*1)).toList=List.replicate n (.int .u8 0):=by
  rw[Nat.mul_one];exact toList_madeCells_one _ n
def zs (n:Nat):List UInt8:=List.replicate n 0
theorem zA3 (n:Nat):(zs n).length=n:=List.length_replicate
theorem zAT {w:World} {B:Nat} {v:Value} {n:Nat} (h:w.ownsRow B 5 1 v n (madeCells (Value.cells (.int .u8 0)) (n*1)).toList):Own w B v (zs n):=by
  rw[zCo] at h;unfold Own zs;rw[List.length_replicate,List.map_replicate];exact h
def zBd (k:Int):UInt8:=UInt8.ofNat (k % 256).toNat
def zNT (k:Nat) (n:Nat):List UInt8:=(List.range n).map (fun i:Nat=>zBd ((k:Int)+(i:Int)))
theorem zC2 (k:Int):((zBd k).toNat:Int)=k % 256:=by
  unfold zBd;have h0:(0:Int)≤k % 256:=Int.emod_nonneg _ (by decide);have h1:k % 256<256:=Int.emod_lt_of_pos _ (by decide);rw[UInt8.toNat_ofNat'];omega
theorem zE {w w':World} {p:Addr} {v:Value} (h:w.cell? p=some v) (hb:Below w.heap.size w w'):w'.cell? p=some v:=
  (hb.cell (World.block_lt_of_cell? w _ h)).trans h
theorem zR {w w':World} {p:Addr} {v:Value} {row:Option Nat} (h:w.cell? p=some v) (hg:w.grownBy w' row) (hne:row≠some p.block):w'.cell? p=some v:=
  hg.cell h (fun e=>hne e.symm)
theorem zA (w:World) (o:Obj):Below w.heap.size w (w.alloc o):=(Below.refl _ _).alloc (Nat.le_refl _) _
def Has (w:World) (b:Nat) (vs:List Value):Prop:=∀ i v,vs[i]?=some v→w.cell? ⟨b,i,none⟩=some v
theorem Has.keep {w w':World} {b:Nat} {vs:List Value} (h:Has w b vs) (hb:Below w.heap.size w w'):Has w' b vs:=fun i v hv=>zE (h i v hv) hb
theorem Has.other {w w':World} {b:Nat} {vs:List Value} {row:Option Nat} (h:Has w b vs) (hg:w.grownBy w' row) (hne:row≠some b):Has w' b vs:=fun i v hv=>zR (h i v hv) hg hne
theorem Has.new {w w':World} {vs:Array Value} {t:TypeId} (hb:Below (w.alloc (.cells vs t)).heap.size (w.alloc (.cells vs t)) w'):Has w' w.heap.size vs.toList:=fun i v hv=>
  zE ((World.cell?_alloc_new w vs t i).trans (by simpa using hv)) hb
theorem Has.lt {w:World} {b:Nat} {v:Value} {vs:List Value} (h:Has w b (v :: vs)):b<w.heap.size:=World.block_lt_of_cell? w _ (h 0 v rfl)
def Loc (w:World) (b:Nat) (vs:List Value):Prop:=Has w b vs∧∀ o,w.frozen? ⟨b,o,none⟩=false
theorem Loc.keep {w w':World} {b B:Nat} {vs:List Value} (h:Loc w b vs) (hb:Below B w w') (hB:b<B):Loc w' b vs:=
  ⟨fun i v hv=>(hb.cell (p:=⟨b,i,none⟩) hB).trans (h.1 i v hv),fun o=>(hb.frozen (p:=⟨b,o,none⟩) hB).trans (h.2 o)⟩
theorem Loc.other {w w':World} {b:Nat} {v0:Value} {vs:List Value} {row:Option Nat} (h:Loc w b (v0 :: vs)) (hg:w.grownBy w' row) (hne:row≠some b):Loc w' b (v0 :: vs):=
  ⟨h.1.other hg hne,fun o=>(World.frozen?_of_block (w:=w) (a:=⟨b,o,none⟩) (hg.block b h.1.lt (fun e=>hne e.symm))).trans (h.2 o)⟩
theorem Loc.setOther {w:World} {b:Nat} {vs:List Value} (h:Loc w b vs) {a:Addr} (ha:a.block≠b) (u:Value):Loc (w.setCell a u) b vs:=by
  have e:(w.setCell a u).heap[b]?=w.heap[b]?:=Below.heap_setCell _ _ _ _ (fun h=>ha h.symm);exact⟨fun i v hv=>(World.cell?_of_block (w:=w) (a:=⟨b,i,none⟩) e).trans (h.1 i v hv),fun o=>(World.frozen?_of_block (w:=w) (a:=⟨b,o,none⟩) e).trans (h.2 o)⟩
theorem Loc.set1 {w:World} {b:Nat} {v0 v1:Value} (h:Loc w b [v0,v1]) (u:Value):Loc (w.setCell ⟨b,1,none⟩ u) b [v0,u]:=by
  refine⟨fun i v hv=>?_,fun o=>(World.frozen?_setCell _ _ _ _).trans (h.2 o)⟩
  match i,hv with
  | 0,hv=>
    simp at hv;subst hv;rw[World.cell?_setCell_other _ _ _ _ (by simp)];exact h.1 0 _ rfl
  | 1,hv=>
    simp at hv;subst hv;exact World.cell?_setCell_same _ _ _ (h.1 1 _ rfl)
  | i+2,hv=>simp at hv
theorem Loc.new (w:World) (vs:Array Value) (t:TypeId):Loc (w.alloc (.cells vs t)) w.heap.size vs.toList:=
  ⟨fun i v hv=>(World.cell?_alloc_new w vs t i).trans (by simpa using hv),fun o=>by rw[frozen?_alloc_cells];simp[World.frozen?]⟩
theorem Rd.own {w:World} {B:Nat} {a:Option Addr} {n cap:Nat} {bs:List UInt8} (h:Own w B (.slice a n cap) bs):Rd w a cap bs:=by
  obtain⟨a',cap',e,hr⟩:=h.rd;simp only[Value.slice.injEq] at e;obtain⟨rfl,-,rfl⟩:=e;exact hr
theorem Own.other {w w':World} {B:Nat} {v:Value} {bs:List UInt8} {row:Option Nat} (h:Own w B v bs) (hg:w.grownBy w' row) (hne:∀ k,v.ownBlock=some k→row≠some k):Own w' B v bs:=by
  obtain⟨h1,h2⟩:=h;refine⟨h1,?_⟩;rcases h2 with h2 | ⟨g,cap,cur,rfl,hb,hh,r⟩
  · exact .inl h2
  · exact .inr ⟨g,cap,cur,rfl,hb,(hg.block g (Array.getElem?_eq_some_iff.1 hh).1 (fun e=>hne g rfl e.symm)).trans hh,r⟩
theorem zB {a b c:World} {r:Option Nat} (h:a.grownBy b r) (k:b.grownBy c r):a.grownBy c r:=
  ⟨k.os.trans h.os,k.tape.trans h.tape,k.output.trans h.output,Nat.le_trans h.size k.size,fun i hi hne=>(k.block i (Nat.lt_of_lt_of_le hi h.size) hne).trans (h.block i hi hne)⟩
theorem zM9 {w:World} {a:Option Addr} {len cap:Nat} {zs:List Int} (h:(a=none∧len=0∧cap=0∧zs=[])∨
    ∃ x,a=some x∧len≤cap∧cap≤maxLen∧zs.length=cap∧(∀ i,i<zs.length→w.cell? (x.add i)=some (.int .u8 (zs.getD i 0)))∧∀ n∈zs,(Lit.int .u8 n).wf=true):
    ∃ bs:List UInt8,len=bs.length∧Rd w a cap bs:=by
  rcases h with ⟨rfl,rfl,rfl,rfl⟩ | ⟨x,rfl,hl,hm,hz,hc,hw⟩
  · exact⟨[],rfl,by simp,by simp[maxLen],fun _=>rfl,fun hp=>by simp at hp⟩
  · refine⟨(zs.take len).map (fun z=>UInt8.ofNat z.toNat),by simp;omega,by simp;omega,hm,fun hh=>by simp at hh,fun hp=>?_⟩
    have hp':0<zs.length:=by simp at hp;omega
    obtain⟨b,o,rfl,hc'⟩:=ints_at hc hp';refine⟨b,o,rfl,fun i hi=>?_⟩
    have hi':i<len∧i<zs.length:=by simp at hi;omega
    rw[hc' i hi'.2];have hb:=bounds_u8 (hw zs[i] (List.getElem_mem hi'.2))
    have e:at8 ((zs.take len).map (fun z=>UInt8.ofNat z.toNat)) i=zs.getD i 0:=by
      rw[zA8 hi];simp only[List.getElem_map,List.getElem_take,UInt8.toNat_ofNat'];rw[show zs.getD i 0=zs[i]'hi'.2 by simp[hi'.2]];omega
    rw[e]
theorem Rd.cut {w:World} {b o cap:Nat} {bs:List UInt8} (h:Rd w (some ⟨b,o,none⟩) cap bs) (i n c:Nat) (hn:i+n≤bs.length) (hc:n≤c) (hm:c≤maxLen):Rd w (some ⟨b,o+i,none⟩) c ((bs.drop i).take n):=by
  obtain⟨h1,h2,h3,h4⟩:=h
  have hl:((bs.drop i).take n).length=n:=by simp;omega
  refine⟨by omega,hm,fun e=>by simp at e,fun hp=>⟨b,o+i,rfl,fun j hj=>?_⟩⟩;obtain⟨b',o',e,hcl⟩:=h4 (by omega);simp at e;obtain⟨rfl,rfl⟩:=e;rw[Nat.add_assoc,hcl (i+j) (by omega),zA8 hj,zA8 (by omega)];simp
theorem Rd.take {w:World} {a:Option Addr} {cap:Nat} {bs:List UInt8} (h:Rd w a cap bs) (m:Nat):Rd w a cap (bs.take m):=by
  obtain⟨h1,h2,h3,h4⟩:=h
  have hl:(bs.take m).length≤bs.length:=by rw[List.length_take];omega
  refine⟨by omega,h2,h3,fun hp=>?_⟩;obtain⟨b,o,rfl,hc⟩:=h4 (by omega);refine⟨b,o,rfl,fun i hi=>?_⟩;rw[hc i (by omega),zA8 hi,zA8 (by omega)];simp
def putB (v:Nat):Nat→List UInt8
  | 0=>[]
  | k+1=>UInt8.ofNat (v / 256 ^ k % 256) :: putB v k
theorem zZ (v k:Nat):(putB v k).length=k:=by
  induction k with
  | zero=>rfl
  | succ k ih=>simp[putB,ih]
def zBh (v n k:Nat):List Value:=List.replicate (n-k) (.int .u8 0)++(putB v k).map u8v
theorem zGZ (v n:Nat):zBh v n 0=List.replicate n (.int .u8 0):=by simp[zBh,putB]
theorem zHv (v n:Nat):zBh v n n=(putB v n).map u8v:=by simp[zBh]
theorem zIZ (v n k:Nat) (h:k<n):(zBh v n k)[n-1-k]?=some (.int .u8 0):=by
  unfold zBh;rw[List.getElem?_append_left (by simp;omega),List.getElem?_replicate,if_pos (by omega)]
theorem zEh (v n k:Nat) (h:k<n):(zBh v n k).set (n-1-k) (.int .u8 ((v / 256 ^ k % 256:Nat):Int))=zBh v n (k+1):=by
  have e:u8v (UInt8.ofNat (v / 256 ^ k % 256))=.int .u8 ((v / 256 ^ k % 256:Nat):Int):=by
    unfold u8v;rw[UInt8.toNat_ofNat',Nat.mod_mod]
  unfold zBh;rw[show n-k=(n-(k+1))+1 by omega,List.replicate_succ',List.append_assoc,List.set_append_right _ _ (by simp;omega)];rw[List.length_replicate,show n-1-k-(n-(k+1))=0 by omega];simp only[putB,List.map_cons,e];rfl
def getB (bs:List UInt8):Nat:=bs.foldl (fun n b=>n*256+b.toNat) 0
theorem zFj (bs:List UInt8) (b:UInt8):getB (bs++[b])=getB bs*256+b.toNat:=by simp[getB]
theorem zIa (bs:List UInt8) (k:Nat) (h:k<bs.length):((getB (bs.take (k+1)):Nat):Int)=(getB (bs.take k):Int)*256+at8 bs k:=by
  rw[List.take_succ_eq_append_getElem h,zFj,zA8 h];omega
theorem zGa (bs:List UInt8):getB bs<256 ^ bs.length:=by
  suffices h:∀ (bs:List UInt8) (m k:Nat),m<256 ^ k→bs.foldl (fun n b=>n*256+b.toNat) m<256 ^ (k+bs.length) by
    have:=h bs 0 0 (by decide);simpa [getB] using this
  intro bs
  induction bs with
  | nil=>intro m k hm;simpa using hm
  | cons b bs ih=>
    intro m k hm;have hb:=b.toNat_lt;have:=ih (m*256+b.toNat) (k+1) (by rw[Nat.pow_succ];omega);rw[List.foldl_cons,List.length_cons,show k+(bs.length+1)=k+1+bs.length by omega];exact this
theorem zLY (m:Nat) (b:Int) (hm:m<16777216) (h0:0≤b) (h1:b≤255):bits .or .u32 ((m:Int)*256) b=(m:Int)*256+b:=by
  obtain⟨b,rfl⟩:=Int.eq_ofNat_of_zero_le h0
  have h2:b<2 ^ 8:=by omega
  rw[show((m:Int)*256)=((m*256:Nat):Int) by omega,u32_or_nat _ _ (by omega) (by omega),show m*256=m <<< 8 by rw[Nat.shiftLeft_eq],← Nat.shiftLeft_add_eq_or_of_lt h2,Nat.shiftLeft_eq];omega
end Go.Proofs.YtbaldmmbphbinaaGreatDoor
