import Derived.Test.YtiabacnmmojfjaaGreatDoorRows
import Derived.KernelRfl
import Derived.WalkKit
import Derived.WalkSmall
import Derived.OpenShut
namespace Go.Proofs.YtiabacnmmojfjaaGreatDoor
abbrev ya:=@List.getElem?_toArray
abbrev yb:=@List.getElem?_cons_zero
abbrev yc:=@List.getElem?_cons_succ
abbrev yd:=@List.drop_succ_cons
abbrev ye:=@List.drop_zero
abbrev yf:=@Nat.le_refl
abbrev yg:=@Nat.lt_succ_self
abbrev yh:=@Nat.le_succ
abbrev yi:=@Nat.le_trans
abbrev yj:=@List.cons.injEq
abbrev yk:=@List.cons_append
abbrev yl:=@List.nil_append
abbrev ym:=@List.mem_append
open Go
abbrev xZ0:Array Value:=#[.int .i64 0,.int .i64 0,.slice none 0 0,.int .i64 0,.slice none 0 0,.int .i64 0,.int .i64 0,.slice none 0 0,.slice none 0 0,.slice none 0 0,.slice none 0 0,.slice none 0 0,.slice none 0 0,.slice none 0 0]
abbrev xZ1:Array Value:=#[.int .i64 0,.slice none 0 0,.int .i64 0,.slice none 0 0,.int .i64 0,.int .i64 0,.slice none 0 0,.slice none 0 0,.slice none 0 0,.slice none 0 0,.slice none 0 0,.slice none 0 0]
abbrev xZ2:List Value:=[.int .i64 0,.int .i64 0,.slice none 0 0,.int .i64 0,.slice none 0 0,.int .i64 0,.int .i64 0,.slice none 0 0,.slice none 0 0,.slice none 0 0,.slice none 0 0,.slice none 0 0,.slice none 0 0,.slice none 0 0]
abbrev xZ3:List Value:=[.int .i64 0,.slice none 0 0,.int .i64 0,.slice none 0 0,.int .i64 0,.int .i64 0,.slice none 0 0,.slice none 0 0,.slice none 0 0,.slice none 0 0,.slice none 0 0,.slice none 0 0]
section
open Go Go.RowKit
theorem zs3 {B k:Nat} {a w:World} (h:Below B a w) (e:B≤k) {i0 i1 i2:Nat} {v0 v1 v2:Value}:Below B a (((w.setCell ⟨k,i0,none⟩ v0).setCell ⟨k,i1,none⟩ v1).setCell ⟨k,i2,none⟩ v2):=(((h.setCell e v0).setCell e v1).setCell e v2)
theorem zs4 {B k:Nat} {a w:World} (h:Below B a w) (e:B≤k) {i0 i1 i2 i3:Nat} {v0 v1 v2 v3:Value}:Below B a ((((w.setCell ⟨k,i0,none⟩ v0).setCell ⟨k,i1,none⟩ v1).setCell ⟨k,i2,none⟩ v2).setCell ⟨k,i3,none⟩ v3):=((((h.setCell e v0).setCell e v1).setCell e v2).setCell e v3)
theorem zs12 {B k:Nat} {a w:World} (h:Below B a w) (e:B≤k) {i0 i1 i2 i3 i4 i5 i6 i7 i8 i9 i10 i11:Nat} {v0 v1 v2 v3 v4 v5 v6 v7 v8 v9 v10 v11:Value}:Below B a ((((((((((((w.setCell ⟨k,i0,none⟩ v0).setCell ⟨k,i1,none⟩ v1).setCell ⟨k,i2,none⟩ v2).setCell ⟨k,i3,none⟩ v3).setCell ⟨k,i4,none⟩ v4).setCell ⟨k,i5,none⟩ v5).setCell ⟨k,i6,none⟩ v6).setCell ⟨k,i7,none⟩ v7).setCell ⟨k,i8,none⟩ v8).setCell ⟨k,i9,none⟩ v9).setCell ⟨k,i10,none⟩ v10).setCell ⟨k,i11,none⟩ v11):=((((((((((((h.setCell e v0).setCell e v1).setCell e v2).setCell e v3).setCell e v4).setCell e v5).setCell e v6).setCell e v7).setCell e v8).setCell e v9).setCell e v10).setCell e v11)
theorem zs14 {B k:Nat} {a w:World} (h:Below B a w) (e:B≤k) {i0 i1 i2 i3 i4 i5 i6 i7 i8 i9 i10 i11 i12 i13:Nat} {v0 v1 v2 v3 v4 v5 v6 v7 v8 v9 v10 v11 v12 v13:Value}:Below B a ((((((((((((((w.setCell ⟨k,i0,none⟩ v0).setCell ⟨k,i1,none⟩ v1).setCell ⟨k,i2,none⟩ v2).setCell ⟨k,i3,none⟩ v3).setCell ⟨k,i4,none⟩ v4).setCell ⟨k,i5,none⟩ v5).setCell ⟨k,i6,none⟩ v6).setCell ⟨k,i7,none⟩ v7).setCell ⟨k,i8,none⟩ v8).setCell ⟨k,i9,none⟩ v9).setCell ⟨k,i10,none⟩ v10).setCell ⟨k,i11,none⟩ v11).setCell ⟨k,i12,none⟩ v12).setCell ⟨k,i13,none⟩ v13):=((((((((((((((h.setCell e v0).setCell e v1).setCell e v2).setCell e v3).setCell e v4).setCell e v5).setCell e v6).setCell e v7).setCell e v8).setCell e v9).setCell e v10).setCell e v11).setCell e v12).setCell e v13)
theorem zzA {n:Nat}:n≤n+1:=yh n
theorem zzB {n:Nat}:n≤n+2:=Nat.le_add_right n 2
theorem zzC {n:Nat}:n<n+1:=yg n
theorem zQ {α:Type} {a b:Option α} {c:α} (h:a=b) (k:b=some c):a=some c:=h.trans k
open Go
theorem zNH (c v:Int) (w:World):(Instr.field 126 (.agg #[.int .i64 c,.int .i64 v]) 1).run Tryz.prog w=.ok (.int .i64 v) w:=by kernel_rfl
theorem zIX (c:Int) (a:Option Addr) (n m:Nat) (w:World):(Instr.field 129 (.agg #[.int .i64 c,.slice a n m]) 0).run Tryz.prog w=.ok (.int .i64 c) w:=by kernel_rfl
theorem zAk (c:Int) (a:Option Addr) (n m:Nat) (w:World):(Instr.field 129 (.agg #[.int .i64 c,.slice a n m]) 1).run Tryz.prog w=.ok (.slice a n m) w:=by kernel_rfl
end
section
open Go.RowKit
def inB (v lo hi:Int):Bool:=decide (lo≤v∧v≤hi)
theorem zIY {v lo hi:Int} (h1:lo≤v) (h2:v≤hi):inB v lo hi=true:=by simp[inB,h1,h2]
theorem zD5 {v lo hi:Int} (h:¬ (lo≤v∧v≤hi)):inB v lo hi=false:=by simpa [inB] using h
theorem zHE {B:Nat} {W w1:World} (hb:Below B W w1):(∀ b o,b<B→w1.cell? ⟨b,o,none⟩=W.cell? ⟨b,o,none⟩)∧(∀ b o,b<B→w1.frozen? ⟨b,o,none⟩=W.frozen? ⟨b,o,none⟩):=
  ⟨fun b o h=>hb.cell (p:=⟨b,o,none⟩) h,fun b o h=>hb.frozen (p:=⟨b,o,none⟩) h⟩
theorem zB (w:World) (o:Obj):(w.alloc o).heap.size=w.heap.size+1:=by simp
theorem zC8 {w w1:World} {o:Obj} (hb:Below (w.alloc o).heap.size (w.alloc o) w1):w.heap.size<w1.heap.size:=by have:=hb.size;rw[zB] at this;omega
theorem Below.step {W a b:World} (h:Below W.heap.size W a) (k:Below a.heap.size a b):Below W.heap.size W b:=h.trans (k.mono h.size)
abbrev yn:=@Below.step
theorem yu {w w1:World} {o:Obj} (hb:Below (w.alloc o).heap.size (w.alloc o) w1):Below w.heap.size w w1:=
  yn ((Below.refl _ _).alloc (yf _) _) hb
theorem Below.mk {W a:World} (h:Below W.heap.size W a) (o:Obj):Below W.heap.size W (a.alloc o):=h.alloc h.size o
abbrev yt:=@Below.mk
def rotN (v n:Nat):Nat:=v / 2 ^ n+v % 2 ^ n*2 ^ (32-n)
theorem zHF (n:Nat) (h:n≤32):2 ^ n*2 ^ (32-n)=4294967296:=by
  rw[← Nat.pow_add,show n+(32-n)=32 by omega]
theorem zAD (v n:Nat) (hv:v<4294967296) (hn:n≤32):rotN v n<4294967296:=by
  have hp:=zHF n hn
  have h1:v / 2 ^ n<2 ^ (32-n):=by
    rw[Nat.div_lt_iff_lt_mul (Nat.two_pow_pos n),Nat.mul_comm,hp];exact hv
  have h2:v % 2 ^ n<2 ^ n:=Nat.mod_lt _ (Nat.two_pow_pos n);have h3:(v % 2 ^ n+1)*2 ^ (32-n)≤2 ^ n*2 ^ (32-n):=Nat.mul_le_mul_right _ h2;rw[hp,Nat.add_mul] at h3;unfold rotN;omega
theorem zJj (v:Nat):rotN v 0=v:=by simp[rotN,Nat.mod_one]
theorem zNI (v n:Nat) (hv:v<4294967296) (h1:1≤n) (h2:n≤31):
    bits .or .u32 ((v:Int)*2 ^ (32-n) % 4294967296) ((v:Int) / 2 ^ n)=(rotN v n:Nat):=by
  have hp:=zHF n (by omega)
  have e1:((v:Int)*2 ^ (32-n) % 4294967296)=((v % 2 ^ n*2 ^ (32-n):Nat):Int):=by
    rw[← Nat.mul_mod_mul_right (2 ^ (32-n)) v (2 ^ n),hp,Int.natCast_emod,Int.natCast_mul,Int.natCast_pow];rfl
  have e2:((v:Int) / 2 ^ n)=((v / 2 ^ n:Nat):Int):=by push_cast;rfl
  have a1:v % 2 ^ n*2 ^ (32-n)<4294967296:=by
    have:=zAD v n hv (by omega);unfold rotN at this;omega
  have a2:v / 2 ^ n<2 ^ (32-n):=by
    rw[Nat.div_lt_iff_lt_mul (Nat.two_pow_pos n),Nat.mul_comm,hp];exact hv
  have a3:v / 2 ^ n<4294967296:=Nat.lt_of_le_of_lt (Nat.div_le_self _ _) hv;rw[e1,e2,u32_or_nat _ _ a1 a3,← Nat.shiftLeft_eq,← Nat.shiftLeft_add_eq_or_of_lt a2,Nat.shiftLeft_eq];unfold rotN;rw[Nat.add_comm]
theorem zN4 (n:Nat) (h:n≤31):bits .and .u64 (IntKind.u64.wrap (-(n:Int))) 31=((32-n) % 32:Nat):=by
  have:∀ n:Fin 32,bits .and .u64 (IntKind.u64.wrap (-(n.val:Int))) 31=((32-n.val) % 32:Nat):=by decide
  exact this ⟨n,by omega⟩
theorem zK1 (v n:Nat) (hv:v<4294967296) (h1:1≤n) (h2:n≤31):
    wrap64 ((v:Int) / 2 ^ n+wrap64 ((v:Int) % wrap64 (2 ^ n)*2 ^ (32-n)))=(rotN v n:Nat):=by
  have hl:=zAD v n hv (by omega)
  have e0:wrap64 (2 ^ n)=2 ^ n:=by
    have h3:(2:Nat) ^ n≤2 ^ 31:=Nat.pow_le_pow_right (by decide) h2
    have h4:((2 ^ n:Nat):Int)≤2147483648:=by omega
    have h5:(0:Int)≤((2 ^ n:Nat):Int):=Int.natCast_nonneg _
    push_cast at h4 h5
    unfold wrap64;omega
  rw[e0]
  have e1:((v:Int) % 2 ^ n*2 ^ (32-n))=((v % 2 ^ n*2 ^ (32-n):Nat):Int):=by push_cast;rfl
  have e2:((v:Int) / 2 ^ n)=((v / 2 ^ n:Nat):Int):=by push_cast;rfl
  rw[e1,e2];unfold rotN at hl ⊢;generalize v / 2 ^ n=A at *;generalize v % 2 ^ n*2 ^ (32-n)=B at *;clear e0 e1 e2;unfold wrap64;omega
theorem zMS (n:Nat) (h2:n≤31):wrap64 (2 ^ n)≠0:=by
    have h3:(2:Nat) ^ n≤2 ^ 31:=Nat.pow_le_pow_right (by decide) h2
    have h4:((2 ^ n:Nat):Int)≤2147483648:=by omega
    have h5:(0:Int)<((2 ^ n:Nat):Int):=by have:=Nat.two_pow_pos n;omega
    push_cast at h4 h5
    unfold wrap64;omega
theorem zCa (a:Nat) (h:a<9223372036854775808):(BitVec.ofInt 64 (a:Int)).toNat=a:=by
  rw[BitVec.toNat_ofInt];omega
theorem zC9 (a:Nat) (h:a<9223372036854775808):IntKind.i64.wrap (a:Int)=a:=by
  rw[IntKind.wrap_i64];omega
theorem zHx (a b:Nat) (ha:a<9223372036854775808) (hb:b<9223372036854775808):bits .xor .i64 (a:Int) (b:Int)=((a ^^^ b:Nat):Int):=by
  have hx:a ^^^ b<2 ^ 63:=Nat.xor_lt_two_pow (by omega) (by omega)
  show IntKind.i64.wrap ((BitVec.ofInt 64 (a:Int) ^^^ BitVec.ofInt 64 (b:Int)).toNat:Int)=_
  rw[BitVec.toNat_xor,zCa a ha,zCa b hb,zC9 _ (by omega)]
theorem zHy (a b:Nat) (ha:a<9223372036854775808) (hb:b<9223372036854775808):bits .and .i64 (a:Int) (b:Int)=((a &&& b:Nat):Int):=by
  have hx:a &&& b<2 ^ 63:=Nat.and_lt_two_pow _ (by omega)
  show IntKind.i64.wrap ((BitVec.ofInt 64 (a:Int) &&& BitVec.ofInt 64 (b:Int)).toNat:Int)=_
  rw[BitVec.toNat_and,zCa a ha,zCa b hb,zC9 _ (by omega)]
def u8v (b:UInt8):Value:=.int .u8 (b.toNat:Int)
def at8 (bs:List UInt8) (i:Nat):Int:=((bs.getD i 0).toNat:Int)
theorem zDj (bs:List UInt8) (i:Nat):0≤at8 bs i:=by unfold at8;omega
theorem zDk (bs:List UInt8) (i:Nat):at8 bs i≤255:=by unfold at8;have:=(bs.getD i 0).toNat_lt;omega
theorem zBk {bs:List UInt8} {i:Nat} (h:i<bs.length):at8 bs i=(bs[i].toNat:Int):=by simp[at8,h]
theorem zCb {bs:List UInt8} {i:Nat} (h:i<bs.length):(bs.map u8v)[i]?=some (.int .u8 (at8 bs i)):=by simp[u8v,at8,h]
def Rd (w:World) (a:Option Addr) (cap:Nat) (bs:List UInt8):Prop:=
  bs.length≤cap∧cap≤maxLen∧(a=none→cap=0)∧(0<bs.length→∃ b o,a=some ⟨b,o,none⟩∧∀ i,i<bs.length→w.cell? ⟨b,o+i,none⟩=some (.int .u8 (at8 bs i)))
def Own (w:World) (B:Nat) (v:Value) (bs:List UInt8):Prop:=w.ownsRow B 5 1 v bs.length (bs.map u8v)
theorem Own.rd {w:World} {B:Nat} {v:Value} {bs:List UInt8} (h:Own w B v bs):∃ a cap,v=.slice a bs.length cap∧Rd w a cap bs:=by
  have h0:=h;rcases h.2 with ⟨rfl,hn⟩ | ⟨g,cap,cur,rfl,hb,hg,hle,hm,hs,ht⟩
  · exact⟨none,0,by rw[hn],by omega,by simp[maxLen],fun _=>rfl,fun hp=>by omega⟩
  · refine⟨_,cap,rfl,hle,hm,fun hh=>by simp at hh,fun _=>⟨g,0,rfl,fun i hi=>?_⟩⟩;have:=World.ownsRow.cellAt h0 i (by omega);rw[Nat.zero_add,this,zCb hi]
theorem Rd.keep {w w':World} {a:Option Addr} {cap:Nat} {bs:List UInt8} (h:Rd w a cap bs) (hb:Below w.heap.size w w'):Rd w' a cap bs:=by
  obtain⟨h1,h2,h3,h4⟩:=h;refine⟨h1,h2,h3,fun hp=>?_⟩;obtain⟨b,o,rfl,hc⟩:=h4 hp;refine⟨b,o,rfl,fun i hi=>?_⟩;have hi':=hc i hi;rw[hb.cell (p:=⟨b,o+i,none⟩) (World.block_lt_of_cell? w _ hi'),hi']
theorem Own.keep {w w':World} {B N:Nat} {v:Value} {bs:List UInt8} (h:Own w B v bs) (hb:Below N w w') (hn:∀ k,v.ownBlock=some k→k<N):Own w' B v bs:=by
  obtain⟨h1,h2⟩:=h;refine⟨h1,?_⟩;rcases h2 with h2 | ⟨g,cap,cur,rfl,hg,hh,r⟩
  · exact .inl h2
  · exact .inr ⟨g,cap,cur,rfl,hg,(hb.block g (hn g rfl)).trans hh,r⟩
theorem Own.stay {w w':World} {B:Nat} {v:Value} {bs:List UInt8} (h:Own w B v bs) (hb:Below w.heap.size w w'):Own w' B v bs:=
  h.keep hb (fun k hk=>(World.ownsRow.lt h k hk).2)
theorem Own.set {w:World} {B:Nat} {v:Value} {bs:List UInt8} (h:Own w B v bs) {a:Addr} (ha:a.block<B) (u:Value):Own (w.setCell a u) B v bs:=
  ownsRow_setCell_below h ha u
theorem zu12 {w:World} {B k:Nat} {v:Value} {bs:List UInt8} (h:Own w B v bs) (e:k<B) {i0 i1 i2 i3 i4 i5 i6 i7 i8 i9 i10 i11:Nat} {v0 v1 v2 v3 v4 v5 v6 v7 v8 v9 v10 v11:Value}:Own ((((((((((((w.setCell ⟨k,i0,none⟩ v0).setCell ⟨k,i1,none⟩ v1).setCell ⟨k,i2,none⟩ v2).setCell ⟨k,i3,none⟩ v3).setCell ⟨k,i4,none⟩ v4).setCell ⟨k,i5,none⟩ v5).setCell ⟨k,i6,none⟩ v6).setCell ⟨k,i7,none⟩ v7).setCell ⟨k,i8,none⟩ v8).setCell ⟨k,i9,none⟩ v9).setCell ⟨k,i10,none⟩ v10).setCell ⟨k,i11,none⟩ v11) B v bs:=((((((((((((h.set e v0).set e v1).set e v2).set e v3).set e v4).set e v5).set e v6).set e v7).set e v8).set e v9).set e v10).set e v11)
theorem Own.lower {w:World} {B B':Nat} {v:Value} {bs:List UInt8} (h:Own w B v bs) (hb:B'≤B):Own w B' v bs:=by
  obtain⟨h1,h2⟩:=h;refine⟨h1,?_⟩;rcases h2 with h2 | ⟨g,cap,cur,rfl,hg,r⟩
  · exact .inl h2
  · exact .inr ⟨g,cap,cur,rfl,by omega,r⟩
theorem Own.lt {w:World} {B:Nat} {v:Value} {bs:List UInt8} (h:Own w B v bs):∀ k,v.ownBlock=some k→k<w.heap.size:=fun k hk=>(World.ownsRow.lt h k hk).2
theorem Own.ge {w:World} {B:Nat} {v:Value} {bs:List UInt8} (h:Own w B v bs):∀ k,v.ownBlock=some k→B≤k:=fun k hk=>(World.ownsRow.lt h k hk).1
def part (bs:List UInt8) (n k:Nat):List Value:=(bs.take k).map u8v++List.replicate (n-k) (.int .u8 0)
theorem zJk (bs:List UInt8) (n:Nat):part bs n 0=List.replicate n (.int .u8 0):=by simp[part]
theorem zK2 (bs:List UInt8):part bs bs.length bs.length=bs.map u8v:=by simp[part]
theorem zK3 (bs:List UInt8) (k:Nat) (h:k<bs.length):(part bs bs.length k).set k (.int .u8 (at8 bs k))=part bs bs.length (k+1):=by
  have e:u8v bs[k]=.int .u8 (at8 bs k):=by rw[zBk h];rfl
  have hl:((bs.take k).map u8v).length=k:=by simp;omega
  unfold part;rw[List.set_append_right _ _ (by omega),hl,Nat.sub_self,List.take_succ_eq_append_getElem h,List.map_append,List.append_assoc]
  congr 1
  rw[show bs.length-k=(bs.length-(k+1))+1 by omega,List.replicate_succ,List.set_cons_zero,← e];rfl
theorem zMT (bs:List UInt8) (k:Nat) (h:k<bs.length):(part bs bs.length k)[k]?=some (.int .u8 0):=by
  have hl:((bs.take k).map u8v).length=k:=by simp;omega
  unfold part;rw[List.getElem?_append_right (by omega),hl,Nat.sub_self,List.getElem?_replicate,if_pos (by omega)]
theorem zDl (n:Nat):(madeCells (Value.cells (.int .u8 0)) (n*1)).toList=List.replicate n (.int .u8 0):=by
  rw[Nat.mul_one];exact toList_madeCells_one _ n
def zs (n:Nat):List UInt8:=List.replicate n 0
theorem zAX (n:Nat):(zs n).length=n:=List.length_replicate
theorem zAT {w:World} {B:Nat} {v:Value} {n:Nat} (h:w.ownsRow B 5 1 v n (madeCells (Value.cells (.int .u8 0)) (n*1)).toList):Own w B v (zs n):=by
  rw[zDl] at h;unfold Own zs;rw[List.length_replicate,List.map_replicate];exact h
def zBl (k:Int):UInt8:=UInt8.ofNat (k % 256).toNat
def zOM (k:Nat) (n:Nat):List UInt8:=(List.range n).map (fun i:Nat=>zBl ((k:Int)+(i:Int)))
theorem zDA (k:Int):((zBl k).toNat:Int)=k % 256:=by
  unfold zBl;have h0:(0:Int)≤k % 256:=Int.emod_nonneg _ (by decide);have h1:k % 256<256:=Int.emod_lt_of_pos _ (by decide);rw[UInt8.toNat_ofNat'];omega
theorem zHz {w w':World} (h:Below w.heap.size w w') (row:Option Nat):w.grownBy w' row:=⟨h.os,h.tape,h.output,h.size,fun k hk _=>h.block k hk⟩
theorem zN {w w':World} {p:Addr} {v:Value} (h:w.cell? p=some v) (hb:Below w.heap.size w w'):w'.cell? p=some v:=
  (hb.cell (World.block_lt_of_cell? w _ h)).trans h
theorem zDT {w w':World} {p:Addr} {v:Value} {row:Option Nat} (h:w.cell? p=some v) (hg:w.grownBy w' row) (hne:row≠some p.block):w'.cell? p=some v:=
  hg.cell h (fun e=>hne e.symm)
theorem zA (w:World) (o:Obj):Below w.heap.size w (w.alloc o):=(Below.refl _ _).alloc (yf _) _
def Has (w:World) (b:Nat) (vs:List Value):Prop:=∀ i v,vs[i]?=some v→w.cell? ⟨b,i,none⟩=some v
theorem Has.keep {w w':World} {b:Nat} {vs:List Value} (h:Has w b vs) (hb:Below w.heap.size w w'):Has w' b vs:=fun i v hv=>zN (h i v hv) hb
theorem Has.other {w w':World} {b:Nat} {vs:List Value} {row:Option Nat} (h:Has w b vs) (hg:w.grownBy w' row) (hne:row≠some b):Has w' b vs:=fun i v hv=>zDT (h i v hv) hg hne
theorem Has.new {w w':World} {vs:Array Value} {t:TypeId} (hb:Below (w.alloc (.cells vs t)).heap.size (w.alloc (.cells vs t)) w'):Has w' w.heap.size vs.toList:=fun i v hv=>
  zN ((World.cell?_alloc_new w vs t i).trans (by simpa using hv)) hb
theorem Has.lt {w:World} {b:Nat} {v:Value} {vs:List Value} (h:Has w b (v :: vs)):b<w.heap.size:=World.block_lt_of_cell? w _ (h 0 v rfl)
def Loc (w:World) (b:Nat) (vs:List Value):Prop:=Has w b vs∧∀ o,w.frozen? ⟨b,o,none⟩=false
theorem Loc.keep {w w':World} {b B:Nat} {vs:List Value} (h:Loc w b vs) (hb:Below B w w') (hB:b<B):Loc w' b vs:=
  ⟨fun i v hv=>(hb.cell (p:=⟨b,i,none⟩) hB).trans (h.1 i v hv),fun o=>(hb.frozen (p:=⟨b,o,none⟩) hB).trans (h.2 o)⟩
theorem Loc.other {w w':World} {b:Nat} {v0:Value} {vs:List Value} {row:Option Nat} (h:Loc w b (v0 :: vs)) (hg:w.grownBy w' row) (hne:row≠some b):Loc w' b (v0 :: vs):=
  ⟨h.1.other hg hne,fun o=>(World.frozen?_of_block (w:=w) (a:=⟨b,o,none⟩) (hg.block b h.1.lt (fun e=>hne e.symm))).trans (h.2 o)⟩
theorem Loc.setOther {w:World} {b:Nat} {vs:List Value} (h:Loc w b vs) {a:Addr} (ha:a.block≠b) (u:Value):Loc (w.setCell a u) b vs:=by
  have e:(w.setCell a u).heap[b]?=w.heap[b]?:=Below.heap_setCell _ _ _ _ (fun h=>ha h.symm);exact⟨fun i v hv=>(World.cell?_of_block (w:=w) (a:=⟨b,i,none⟩) e).trans (h.1 i v hv),fun o=>(World.frozen?_of_block (w:=w) (a:=⟨b,o,none⟩) e).trans (h.2 o)⟩
theorem Loc.set1 {w:World} {b:Nat} {v0 v1:Value} (h:Loc w b [v0,v1]) (u:Value):Loc (w.setCell ⟨b,1,none⟩ u) b [v0,u]:=by
  refine⟨fun i v hv=>?_,fun o=>(World.frozen?_setCell _ _ _ _).trans (h.2 o)⟩
  match i,hv with
  | 0,hv=>
    simp at hv;subst hv;rw[World.cell?_setCell_other _ _ _ _ (by simp)];exact h.1 0 _ rfl
  | 1,hv=>
    simp at hv;subst hv;exact World.cell?_setCell_same _ _ _ (h.1 1 _ rfl)
  | i+2,hv=>simp at hv
theorem Loc.new (w:World) (vs:Array Value) (t:TypeId):Loc (w.alloc (.cells vs t)) w.heap.size vs.toList:=
  ⟨fun i v hv=>(World.cell?_alloc_new w vs t i).trans (by simpa using hv),fun o=>by rw[frozen?_alloc_cells];simp[World.frozen?]⟩
theorem Rd.own {w:World} {B:Nat} {a:Option Addr} {n cap:Nat} {bs:List UInt8} (h:Own w B (.slice a n cap) bs):Rd w a cap bs:=by
  obtain⟨a',cap',e,hr⟩:=h.rd;simp only[Value.slice.injEq] at e;obtain⟨rfl,-,rfl⟩:=e;exact hr
theorem Own.other {w w':World} {B:Nat} {v:Value} {bs:List UInt8} {row:Option Nat} (h:Own w B v bs) (hg:w.grownBy w' row) (hne:∀ k,v.ownBlock=some k→row≠some k):Own w' B v bs:=by
  obtain⟨h1,h2⟩:=h;refine⟨h1,?_⟩;rcases h2 with h2 | ⟨g,cap,cur,rfl,hb,hh,r⟩
  · exact .inl h2
  · exact .inr ⟨g,cap,cur,rfl,hb,(hg.block g (Array.getElem?_eq_some_iff.1 hh).1 (fun e=>hne g rfl e.symm)).trans hh,r⟩
theorem zC {a b c:World} {r:Option Nat} (h:a.grownBy b r) (k:b.grownBy c r):a.grownBy c r:=
  ⟨k.os.trans h.os,k.tape.trans h.tape,k.output.trans h.output,yi h.size k.size,fun i hi hne=>(k.block i (Nat.lt_of_lt_of_le hi h.size) hne).trans (h.block i hi hne)⟩
theorem zN5 {w:World} {a:Option Addr} {len cap:Nat} {zs:List Int} (h:(a=none∧len=0∧cap=0∧zs=[])∨
    ∃ x,a=some x∧len≤cap∧cap≤maxLen∧zs.length=cap∧(∀ i,i<zs.length→w.cell? (x.add i)=some (.int .u8 (zs.getD i 0)))∧∀ n∈zs,(Lit.int .u8 n).wf=true):
    ∃ bs:List UInt8,len=bs.length∧Rd w a cap bs:=by
  rcases h with ⟨rfl,rfl,rfl,rfl⟩ | ⟨x,rfl,hl,hm,hz,hc,hw⟩
  · exact⟨[],rfl,by simp,by simp[maxLen],fun _=>rfl,fun hp=>by simp at hp⟩
  · refine⟨(zs.take len).map (fun z=>UInt8.ofNat z.toNat),by simp;omega,by simp;omega,hm,fun hh=>by simp at hh,fun hp=>?_⟩
    have hp':0<zs.length:=by simp at hp;omega
    obtain⟨b,o,rfl,hc'⟩:=ints_at hc hp';refine⟨b,o,rfl,fun i hi=>?_⟩
    have hi':i<len∧i<zs.length:=by simp at hi;omega
    rw[hc' i hi'.2];have hb:=bounds_u8 (hw zs[i] (List.getElem_mem hi'.2))
    have e:at8 ((zs.take len).map (fun z=>UInt8.ofNat z.toNat)) i=zs.getD i 0:=by
      rw[zBk hi];simp only[List.getElem_map,List.getElem_take,UInt8.toNat_ofNat'];rw[show zs.getD i 0=zs[i]'hi'.2 by simp[hi'.2]];omega
    rw[e]
theorem Rd.cut {w:World} {b o cap:Nat} {bs:List UInt8} (h:Rd w (some ⟨b,o,none⟩) cap bs) (i n c:Nat) (hn:i+n≤bs.length) (hc:n≤c) (hm:c≤maxLen):Rd w (some ⟨b,o+i,none⟩) c ((bs.drop i).take n):=by
  obtain⟨h1,h2,h3,h4⟩:=h
  have hl:((bs.drop i).take n).length=n:=by simp;omega
  refine⟨by omega,hm,fun e=>by simp at e,fun hp=>⟨b,o+i,rfl,fun j hj=>?_⟩⟩;obtain⟨b',o',e,hcl⟩:=h4 (by omega);simp at e;obtain⟨rfl,rfl⟩:=e;rw[Nat.add_assoc,hcl (i+j) (by omega),zBk hj,zBk (by omega)];simp
theorem Rd.take {w:World} {a:Option Addr} {cap:Nat} {bs:List UInt8} (h:Rd w a cap bs) (m:Nat):Rd w a cap (bs.take m):=by
  obtain⟨h1,h2,h3,h4⟩:=h
  have hl:(bs.take m).length≤bs.length:=by rw[List.length_take];omega
  refine⟨by omega,h2,h3,fun hp=>?_⟩;obtain⟨b,o,rfl,hc⟩:=h4 (by omega);refine⟨b,o,rfl,fun i hi=>?_⟩;rw[hc i (by omega),zBk hi,zBk (by omega)];simp
def putB (v:Nat):Nat→List UInt8
  | 0=>[]
  | k+1=>UInt8.ofNat (v / 256 ^ k % 256) :: putB v k
theorem zP (v k:Nat):(putB v k).length=k:=by
  induction k with
  | zero=>rfl
  | succ k ih=>simp[putB,ih]
def zCQ (v n k:Nat):List Value:=List.replicate (n-k) (.int .u8 0)++(putB v k).map u8v
theorem zH0 (v n:Nat):zCQ v n 0=List.replicate n (.int .u8 0):=by simp[zCQ,putB]
theorem zJH (v n:Nat):zCQ v n n=(putB v n).map u8v:=by simp[zCQ]
theorem zJl (v n k:Nat) (h:k<n):(zCQ v n k)[n-1-k]?=some (.int .u8 0):=by
  unfold zCQ;rw[List.getElem?_append_left (by simp;omega),List.getElem?_replicate,if_pos (by omega)]
theorem zGC (v n k:Nat) (h:k<n):(zCQ v n k).set (n-1-k) (.int .u8 ((v / 256 ^ k % 256:Nat):Int))=zCQ v n (k+1):=by
  have e:u8v (UInt8.ofNat (v / 256 ^ k % 256))=.int .u8 ((v / 256 ^ k % 256:Nat):Int):=by
    unfold u8v;rw[UInt8.toNat_ofNat',Nat.mod_mod]
  unfold zCQ;rw[show n-k=(n-(k+1))+1 by omega,List.replicate_succ',List.append_assoc,List.set_append_right _ _ (by simp;omega)];rw[List.length_replicate,show n-1-k-(n-(k+1))=0 by omega];simp only[putB,List.map_cons,e];rfl
def getB (bs:List UInt8):Nat:=bs.foldl (fun n b=>n*256+b.toNat) 0
theorem zHG (bs:List UInt8) (b:UInt8):getB (bs++[b])=getB bs*256+b.toNat:=by simp[getB]
theorem zJm (bs:List UInt8) (k:Nat) (h:k<bs.length):((getB (bs.take (k+1)):Nat):Int)=(getB (bs.take k):Int)*256+at8 bs k:=by
  rw[List.take_succ_eq_append_getElem h,zHG,zBk h];omega
theorem zH1 (bs:List UInt8):getB bs<256 ^ bs.length:=by
  suffices h:∀ (bs:List UInt8) (m k:Nat),m<256 ^ k→bs.foldl (fun n b=>n*256+b.toNat) m<256 ^ (k+bs.length) by
    have:=h bs 0 0 (by decide);simpa [getB] using this
  intro bs
  induction bs with
  | nil=>intro m k hm;simpa using hm
  | cons b bs ih=>
    intro m k hm;have hb:=b.toNat_lt;have:=ih (m*256+b.toNat) (k+1) (by rw[Nat.pow_succ];omega);rw[List.foldl_cons,List.length_cons,show k+(bs.length+1)=k+1+bs.length by omega];exact this
theorem zMU (m:Nat) (b:Int) (hm:m<16777216) (h0:0≤b) (h1:b≤255):bits .or .u32 ((m:Int)*256) b=(m:Int)*256+b:=by
  obtain⟨b,rfl⟩:=Int.eq_ofNat_of_zero_le h0
  have h2:b<2 ^ 8:=by omega
  rw[show((m:Int)*256)=((m*256:Nat):Int) by omega,u32_or_nat _ _ (by omega) (by omega),show m*256=m <<< 8 by rw[Nat.shiftLeft_eq],← Nat.shiftLeft_add_eq_or_of_lt h2,Nat.shiftLeft_eq];omega
def zF (k:Int) (n:Nat):Int:=if inB k 0 255 then (if n≤160 then 0 else 2) else 3
def zD6 (k:Int) (b:List UInt8):List UInt8:=zBl k :: (putB b.length 3++b)
theorem zDB (k:Int) (b:List UInt8):(zD6 k b).length=b.length+4:=by simp[zD6,zP];omega
def zG (l:List (Int×List UInt8)):List UInt8:=l.flatMap fun a=>zD6 a.1 a.2
theorem zDm (l r:List (Int×List UInt8)):zG (l++r)=zG l++zG r:=by simp[zG]
theorem zH2 (a:Int×List UInt8):zG [a]=zD6 a.1 a.2:=by simp[zG]
theorem zB0 (a:Int×List UInt8) (l:List (Int×List UInt8)):zG (a :: l)=zD6 a.1 a.2++zG l:=by simp[zG]
theorem zHH {l:List (Int×List UInt8)} {k:Nat} {a:Int×List UInt8} (h:l[k]?=some a):zG (l.take (k+1))=zG (l.take k)++zD6 a.1 a.2:=by
  rw[List.take_add_one,h,zDm];simp[zG]
theorem zGD (l:List (Int×List UInt8)) (k:Nat):(zG (l.take k)).length≤(zG l).length:=by
  conv=>rhs;rw[← List.take_append_drop k l,zDm,List.length_append]
  omega
def zAJ:List (Int×List UInt8)→Int
  | []=>0
  | a :: l=>if zF a.1 a.2.length=0 then zAJ l else zF a.1 a.2.length
theorem zFS {l:List (Int×List UInt8)} {k:Nat} {a:Int×List UInt8} (h:l[k]?=some a) (hz:∀ (j:Nat) (b:Int×List UInt8),j<k→l[j]?=some b→zF b.1 b.2.length=0) (hn:¬ zF a.1 a.2.length=0):zAJ l=zF a.1 a.2.length:=by
  induction l generalizing k with
  | nil=>simp at h
  | cons b l ih=>
    cases k with
    | zero=>simp at h;subst h;rw[zAJ,if_neg hn]
    | succ k=>
      rw[zAJ,if_pos (hz 0 b (by omega) rfl)]
      exact ih (by simpa using h) fun j c hj hc=>hz (j+1) c (by omega) (by simpa using hc)
theorem zCm {l:List (Int×List UInt8)}:(∀ (j:Nat) (b:Int×List UInt8),l[j]?=some b→zF b.1 b.2.length=0)→zAJ l=0:=by
  induction l with
  | nil=>intro _;rfl
  | cons b l ih=>intro h;rw[zAJ,if_pos (h 0 b rfl)];exact ih fun j c hc=>h (j+1) c (by simpa using hc)
theorem zAw {l:List (Int×List UInt8)} (h:zAJ l=0):∀ a∈l,zF a.1 a.2.length=0:=by
  induction l with
  | nil=>intro a ha;cases ha
  | cons b l ih=>
    unfold zAJ at h;split at h
    · rename_i h1;intro a ha;rcases List.mem_cons.1 ha with rfl | h2
      · exact h1
      · exact ih h a h2
    · rename_i h1;exact absurd h h1
def psC (l:List (Int×List UInt8)):Int:=if l.length≤12 then (if zAJ l=0 then (if (zG l).length≤600 then 0 else 2) else zAJ l) else 2
def psL (l:List (Int×List UInt8)):List UInt8:=if psC l=0 then zG l else []
theorem zAx {k:Int} {n:Nat} (h:zF k n=0):inB k 0 255=true∧n≤160:=by
  unfold zF at h;split at h
  · rename_i h1;split at h
    · rename_i h2;exact⟨h1,h2⟩
    · cases h
  · cases h
theorem zIZ {l:List (Int×List UInt8)} (h:psC l=0):l.length≤12∧zAJ l=0∧(zG l).length≤600:=by
  unfold psC at h;split at h
  · rename_i h1;split at h
    · rename_i h2;split at h
      · rename_i h3;exact⟨h1,h2,h3⟩
      · cases h
    · rename_i h2;exact absurd h h2
  · cases h
def zK4 (data:List UInt8) (at_:Nat):Nat:=getB ((data.drop (at_+1)).take 3)
def zNJ (data:List UInt8) (at_:Nat):List UInt8:=(data.drop (at_+4)).take (zK4 data at_)
def zN6 (data:List UInt8) (at_:Nat):Int×List UInt8:=(at8 data at_,zNJ data at_)
def zMV (data:List UInt8) (at_:Nat) (out:List (Int×List UInt8)):Int×Int×List (Int×List UInt8):=
  if at_<data.length then
    if data.length-at_<4 then (5,at_,[])
    else if 160<zK4 data at_∨12≤out.length then (2,at_,[])
    else if data.length-at_-4<zK4 data at_ then (5,at_,[])
    else zMV data (at_+4+zK4 data at_) (out++[zN6 data at_])
  else (0,0,out)
termination_by data.length-at_
theorem zJn {α:Type} (xs ys:List α) (n:Nat):(xs++ys).drop (xs.length+n)=ys.drop n:=by
  rw[← List.drop_drop,List.drop_left]
def blkW (b:List UInt8):List UInt8:=zBl (b.length:Int) :: b
def zA2 (l:List (List UInt8)):List UInt8:=l.flatMap blkW
theorem zDU (b:List UInt8):(blkW b).length=b.length+1:=by simp[blkW]
theorem zDC (l r:List (List UInt8)):zA2 (l++r)=zA2 l++zA2 r:=by simp[zA2]
theorem zBm (b:List UInt8) (l:List (List UInt8)):zA2 (b :: l)=blkW b++zA2 l:=by simp[zA2]
theorem zHI (b:List UInt8):zA2 [b]=blkW b:=by simp[zA2]
theorem zJI {l:List (List UInt8)} {k:Nat} {b:List UInt8} (h:l[k]?=some b):zA2 (l.take (k+1))=zA2 (l.take k)++blkW b:=by
  rw[List.take_add_one,h,zDC];simp[zA2]
theorem zK5 (l:List (List UInt8)) (k:Nat):(zA2 (l.take k)).length≤(zA2 l).length:=by
  conv=>rhs;rw[← List.take_append_drop k l,zDC,List.length_append]
  omega
def okBl (l:List (List UInt8)):Bool:=l.all fun b=>decide (b.length≤120)
def pbC (l:List (List UInt8)):Int:=if l.length≤8∧okBl l=true∧(zA2 l).length≤160 then 0 else 2
def pbL (l:List (List UInt8)):List UInt8:=if pbC l=0 then zA2 l else []
def zAK (data:List UInt8) (at_:Nat):Nat:=(data.getD at_ 0).toNat
def zA7 (data:List UInt8) (at_:Nat):List UInt8:=(data.drop (at_+1)).take (zAK data at_)
def zAe (data:List UInt8) (at_:Nat) (out:List (List UInt8)):Option (List (List UInt8)):=
  if at_<data.length then
    if 120<zAK data at_∨8≤out.length∨data.length<at_+1+zAK data at_ then none
    else zAe data (at_+1+zAK data at_) (out++[zA7 data at_])
  else some out
termination_by data.length-at_
theorem zCc {data:List UInt8} {at_:Nat} {out:List (List UInt8)} (h:¬ at_<data.length):zAe data at_ out=some out:=by rw[zAe,if_neg h]
theorem zCn {data:List UInt8} {at_:Nat} {out:List (List UInt8)} (h:at_<data.length) (h2:120<zAK data at_∨8≤out.length∨data.length<at_+1+zAK data at_):zAe data at_ out=none:=by rw[zAe,if_pos h,if_pos h2]
theorem zCo {data:List UInt8} {at_:Nat} {out:List (List UInt8)} (h:at_<data.length) (h2:¬ (120<zAK data at_∨8≤out.length∨data.length<at_+1+zAK data at_)):zAe data at_ out=zAe data (at_+1+zAK data at_) (out++[zA7 data at_]):=by
  conv=>lhs;rw[zAe,if_pos h,if_neg h2]
def ubC (data:List UInt8):Int:=if data.length≤160 then (if (zAe data 0 []).isSome then 0 else 5) else 2
def ubL (data:List UInt8):List (List UInt8):=if data.length≤160 then (zAe data 0 []).getD [] else []
theorem zHJ (pre rest b:List UInt8) (hb:b.length≤120):zAK (pre++(blkW b++rest)) pre.length=b.length:=by
  unfold zAK blkW;rw[List.getD_eq_getElem?_getD,List.getElem?_append_right (yf _),Nat.sub_self,yk];simp only[yb,Option.getD_some];have:=zDA (b.length:Int);omega
theorem zJo (pre rest b:List UInt8) (hb:b.length≤120):zA7 (pre++(blkW b++rest)) pre.length=b:=by
  unfold zA7;rw[zHJ pre rest b hb,zJn];unfold blkW;rw[yk,yd,ye];exact List.take_left' rfl
theorem zGE:∀ (l:List (List UInt8)) (pre:List UInt8) (out:List (List UInt8)),(∀ b∈l,b.length≤120)→out.length+l.length≤8→zAe (pre++zA2 l) pre.length out=some (out++l)
  | [],pre,out,_,_=>by rw[zCc (by simp[zA2]),List.append_nil]
  | b :: l,pre,out,hf,hl=>by
    have hb:=hf b List.mem_cons_self
    have hlen:(pre++zA2 (b :: l)).length=pre.length+(b.length+1)+(zA2 l).length:=by rw[zBm,List.length_append,List.length_append,zDU];omega
    have e1:zAK (pre++zA2 (b :: l)) pre.length=b.length:=by rw[zBm];exact zHJ pre _ b hb
    have e2:zA7 (pre++zA2 (b :: l)) pre.length=b:=by rw[zBm];exact zJo pre _ b hb
    simp only[List.length_cons] at hl;rw[zCo (by rw[hlen];omega) (by rw[hlen,e1];omega),e1,e2];have h:=zGE l (pre++blkW b) (out++[b]) (fun c hc=>hf c (List.mem_cons_of_mem _ hc)) (by rw[List.length_append,List.length_singleton];omega);rw[List.append_assoc,← zBm,List.length_append,zDU,show pre.length+(b.length+1)=pre.length+1+b.length by omega,List.append_assoc] at h;exact h
theorem zMW {data:List UInt8} {at_:Nat} (h:at_<data.length) (h3:¬ data.length<at_+1+zAK data at_):blkW (zA7 data at_)=(data.drop at_).take (1+zAK data at_):=by
  have hb:(zA7 data at_).length=zAK data at_:=by unfold zA7;rw[List.length_take,List.length_drop];omega
  unfold blkW;rw[hb]
  have e2:zBl ((zAK data at_:Nat):Int)=data[at_]:=by
    unfold zBl zAK
    have e:data.getD at_ 0=data[at_]:=by simp[h]
    rw[e];have:=data[at_].toNat_lt;rw[show(((data[at_].toNat:Nat):Int) % 256).toNat=data[at_].toNat by omega,UInt8.ofNat_toNat]
  rw[e2];unfold zA7;have e3:data.drop at_=data[at_] :: data.drop (at_+1):=List.drop_eq_getElem_cons h;rw[e3,Nat.add_comm 1,List.take_succ_cons]
theorem zGF (data:List UInt8):∀ (m at_:Nat) (out r:List (List UInt8)),data.length-at_≤m→at_≤data.length→zA2 out=data.take at_→out.length≤8→(∀ b∈out,b.length≤120)→zAe data at_ out=some r→zA2 r=data∧r.length≤8∧∀ b∈r,b.length≤120
  | 0,at_,out,r,hm,hle,ho,hl,hf,hr=>by
    rw[zCc (by omega)] at hr;cases hr;exact⟨by rw[ho];exact List.take_of_length_le (by omega),hl,hf⟩
  | m+1,at_,out,r,hm,hle,ho,hl,hf,hr=>by
    by_cases h:at_<data.length
    · by_cases h2:120<zAK data at_∨8≤out.length∨data.length<at_+1+zAK data at_
      · rw[zCn h h2] at hr;cases hr
      · rw[zCo h h2] at hr;refine zGF data m _ _ r (by omega) (by omega) ?_ (by rw[List.length_append,List.length_singleton];omega) (fun b hb=>?_) hr
        · rw[zDC,zHI,zMW h (by omega),ho,Nat.add_assoc];exact(List.take_add (i:=at_) (j:=1+zAK data at_) (l:=data)).symm
        · rcases List.mem_append.1 hb with h4 | h4
          · exact hf b h4
          · rw[List.mem_singleton.1 h4];unfold zA7;rw[List.length_take];omega
    · rw[zCc h] at hr;cases hr;exact⟨by rw[ho];exact List.take_of_length_le (by omega),hl,hf⟩
end
end Go.Proofs.YtiabacnmmojfjaaGreatDoor
