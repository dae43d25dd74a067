import Derived.Test.YtiabacnmmojfjabGreatDoorRows
import Derived.KernelRfl
import Derived.WalkKit
import Derived.WalkSmall
import Derived.OpenShut
namespace Go.Proofs.YtiabacnmmojfjabGreatDoor
abbrev ya:=@List.getElem?_toArray
abbrev yb:=@List.getElem?_cons_zero
abbrev yc:=@List.getElem?_cons_succ
abbrev yd:=@List.drop_succ_cons
abbrev ye:=@List.drop_zero
abbrev yf:=@Nat.le_refl
abbrev yg:=@Nat.lt_succ_self
abbrev yh:=@Nat.le_succ
abbrev yi:=@Nat.le_trans
abbrev yj:=@List.cons.injEq
abbrev yk:=@List.cons_append
abbrev yl:=@List.nil_append
abbrev ym:=@List.mem_append
section
open Go Go.RowKit
theorem zs3 {B k:Nat} {a w:World} (h:Below B a w) (e:B≤k) {i0 i1 i2:Nat} {v0 v1 v2:Value}:Below B a (((w.setCell ⟨k,i0,none⟩ v0).setCell ⟨k,i1,none⟩ v1).setCell ⟨k,i2,none⟩ v2):=(((h.setCell e v0).setCell e v1).setCell e v2)
theorem zs4 {B k:Nat} {a w:World} (h:Below B a w) (e:B≤k) {i0 i1 i2 i3:Nat} {v0 v1 v2 v3:Value}:Below B a ((((w.setCell ⟨k,i0,none⟩ v0).setCell ⟨k,i1,none⟩ v1).setCell ⟨k,i2,none⟩ v2).setCell ⟨k,i3,none⟩ v3):=((((h.setCell e v0).setCell e v1).setCell e v2).setCell e v3)
theorem zs12 {B k:Nat} {a w:World} (h:Below B a w) (e:B≤k) {i0 i1 i2 i3 i4 i5 i6 i7 i8 i9 i10 i11:Nat} {v0 v1 v2 v3 v4 v5 v6 v7 v8 v9 v10 v11:Value}:Below B a ((((((((((((w.setCell ⟨k,i0,none⟩ v0).setCell ⟨k,i1,none⟩ v1).setCell ⟨k,i2,none⟩ v2).setCell ⟨k,i3,none⟩ v3).setCell ⟨k,i4,none⟩ v4).setCell ⟨k,i5,none⟩ v5).setCell ⟨k,i6,none⟩ v6).setCell ⟨k,i7,none⟩ v7).setCell ⟨k,i8,none⟩ v8).setCell ⟨k,i9,none⟩ v9).setCell ⟨k,i10,none⟩ v10).setCell ⟨k,i11,none⟩ v11):=((((((((((((h.setCell e v0).setCell e v1).setCell e v2).setCell e v3).setCell e v4).setCell e v5).setCell e v6).setCell e v7).setCell e v8).setCell e v9).setCell e v10).setCell e v11)
theorem zs14 {B k:Nat} {a w:World} (h:Below B a w) (e:B≤k) {i0 i1 i2 i3 i4 i5 i6 i7 i8 i9 i10 i11 i12 i13:Nat} {v0 v1 v2 v3 v4 v5 v6 v7 v8 v9 v10 v11 v12 v13:Value}:Below B a ((((((((((((((w.setCell ⟨k,i0,none⟩ v0).setCell ⟨k,i1,none⟩ v1).setCell ⟨k,i2,none⟩ v2).setCell ⟨k,i3,none⟩ v3).setCell ⟨k,i4,none⟩ v4).setCell ⟨k,i5,none⟩ v5).setCell ⟨k,i6,none⟩ v6).setCell ⟨k,i7,none⟩ v7).setCell ⟨k,i8,none⟩ v8).setCell ⟨k,i9,none⟩ v9).setCell ⟨k,i10,none⟩ v10).setCell ⟨k,i11,none⟩ v11).setCell ⟨k,i12,none⟩ v12).setCell ⟨k,i13,none⟩ v13):=((((((((((((((h.setCell e v0).setCell e v1).setCell e v2).setCell e v3).setCell e v4).setCell e v5).setCell e v6).setCell e v7).setCell e v8).setCell e v9).setCell e v10).setCell e v11).setCell e v12).setCell e v13)
theorem zzA {n:Nat}:n≤n+1:=yh n
theorem zzB {n:Nat}:n≤n+2:=Nat.le_add_right n 2
theorem zzC {n:Nat}:n<n+1:=yg n
theorem zQ {α:Type} {a b:Option α} {c:α} (h:a=b) (k:b=some c):a=some c:=h.trans k
open Go
theorem zNk (c v:Int) (w:World):(Instr.field 127 (.agg #[.int .i64 c,.int .i64 v]) 1).run Tryz.prog w=.ok (.int .i64 v) w:=by kernel_rfl
theorem zIm (c:Int) (a:Option Addr) (n m:Nat) (w:World):(Instr.field 130 (.agg #[.int .i64 c,.slice a n m]) 0).run Tryz.prog w=.ok (.int .i64 c) w:=by kernel_rfl
theorem zAk (c:Int) (a:Option Addr) (n m:Nat) (w:World):(Instr.field 130 (.agg #[.int .i64 c,.slice a n m]) 1).run Tryz.prog w=.ok (.slice a n m) w:=by kernel_rfl
end
section
open Go.RowKit
def inB (v lo hi:Int):Bool:=decide (lo≤v∧v≤hi)
theorem zIn {v lo hi:Int} (h1:lo≤v) (h2:v≤hi):inB v lo hi=true:=by simp[inB,h1,h2]
theorem zD8 {v lo hi:Int} (h:¬ (lo≤v∧v≤hi)):inB v lo hi=false:=by simpa [inB] using h
theorem zHS {B:Nat} {W w1:World} (hb:Below B W w1):(∀ b o,b<B→w1.cell? ⟨b,o,none⟩=W.cell? ⟨b,o,none⟩)∧(∀ b o,b<B→w1.frozen? ⟨b,o,none⟩=W.frozen? ⟨b,o,none⟩):=
  ⟨fun b o h=>hb.cell (p:=⟨b,o,none⟩) h,fun b o h=>hb.frozen (p:=⟨b,o,none⟩) h⟩
theorem zB (w:World) (o:Obj):(w.alloc o).heap.size=w.heap.size+1:=by simp
theorem zBj {w w1:World} {o:Obj} (hb:Below (w.alloc o).heap.size (w.alloc o) w1):w.heap.size<w1.heap.size:=by have:=hb.size;rw[zB] at this;omega
theorem Below.step {W a b:World} (h:Below W.heap.size W a) (k:Below a.heap.size a b):Below W.heap.size W b:=h.trans (k.mono h.size)
abbrev yn:=@Below.step
theorem yt {w w1:World} {o:Obj} (hb:Below (w.alloc o).heap.size (w.alloc o) w1):Below w.heap.size w w1:=
  yn ((Below.refl _ _).alloc (yf _) _) hb
theorem Below.mk {W a:World} (h:Below W.heap.size W a) (o:Obj):Below W.heap.size W (a.alloc o):=h.alloc h.size o
abbrev yr:=@Below.mk
def rotN (v n:Nat):Nat:=v / 2 ^ n+v % 2 ^ n*2 ^ (32-n)
theorem zHT (n:Nat) (h:n≤32):2 ^ n*2 ^ (32-n)=4294967296:=by
  rw[← Nat.pow_add,show n+(32-n)=32 by omega]
theorem zY (v n:Nat) (hv:v<4294967296) (hn:n≤32):rotN v n<4294967296:=by
  have hp:=zHT n hn
  have h1:v / 2 ^ n<2 ^ (32-n):=by
    rw[Nat.div_lt_iff_lt_mul (Nat.two_pow_pos n),Nat.mul_comm,hp];exact hv
  have h2:v % 2 ^ n<2 ^ n:=Nat.mod_lt _ (Nat.two_pow_pos n);have h3:(v % 2 ^ n+1)*2 ^ (32-n)≤2 ^ n*2 ^ (32-n):=Nat.mul_le_mul_right _ h2;rw[hp,Nat.add_mul] at h3;unfold rotN;omega
theorem zJ8 (v:Nat):rotN v 0=v:=by simp[rotN,Nat.mod_one]
theorem zNl (v n:Nat) (hv:v<4294967296) (h1:1≤n) (h2:n≤31):
    bits .or .u32 ((v:Int)*2 ^ (32-n) % 4294967296) ((v:Int) / 2 ^ n)=(rotN v n:Nat):=by
  have hp:=zHT n (by omega)
  have e1:((v:Int)*2 ^ (32-n) % 4294967296)=((v % 2 ^ n*2 ^ (32-n):Nat):Int):=by
    rw[← Nat.mul_mod_mul_right (2 ^ (32-n)) v (2 ^ n),hp,Int.natCast_emod,Int.natCast_mul,Int.natCast_pow];rfl
  have e2:((v:Int) / 2 ^ n)=((v / 2 ^ n:Nat):Int):=by push_cast;rfl
  have a1:v % 2 ^ n*2 ^ (32-n)<4294967296:=by
    have:=zY v n hv (by omega);unfold rotN at this;omega
  have a2:v / 2 ^ n<2 ^ (32-n):=by
    rw[Nat.div_lt_iff_lt_mul (Nat.two_pow_pos n),Nat.mul_comm,hp];exact hv
  have a3:v / 2 ^ n<4294967296:=Nat.lt_of_le_of_lt (Nat.div_le_self _ _) hv;rw[e1,e2,u32_or_nat _ _ a1 a3,← Nat.shiftLeft_eq,← Nat.shiftLeft_add_eq_or_of_lt a2,Nat.shiftLeft_eq];unfold rotN;rw[Nat.add_comm]
theorem zOW (n:Nat) (h:n≤31):bits .and .u64 (IntKind.u64.wrap (-(n:Int))) 31=((32-n) % 32:Nat):=by
  have:∀ n:Fin 32,bits .and .u64 (IntKind.u64.wrap (-(n.val:Int))) 31=((32-n.val) % 32:Nat):=by decide
  exact this ⟨n,by omega⟩
theorem zLV (v n:Nat) (hv:v<4294967296) (h1:1≤n) (h2:n≤31):
    wrap64 ((v:Int) / 2 ^ n+wrap64 ((v:Int) % wrap64 (2 ^ n)*2 ^ (32-n)))=(rotN v n:Nat):=by
  have hl:=zY v n hv (by omega)
  have e0:wrap64 (2 ^ n)=2 ^ n:=by
    have h3:(2:Nat) ^ n≤2 ^ 31:=Nat.pow_le_pow_right (by decide) h2
    have h4:((2 ^ n:Nat):Int)≤2147483648:=by omega
    have h5:(0:Int)≤((2 ^ n:Nat):Int):=Int.natCast_nonneg _
    push_cast at h4 h5
    unfold wrap64;omega
  rw[e0]
  have e1:((v:Int) % 2 ^ n*2 ^ (32-n))=((v % 2 ^ n*2 ^ (32-n):Nat):Int):=by push_cast;rfl
  have e2:((v:Int) / 2 ^ n)=((v / 2 ^ n:Nat):Int):=by push_cast;rfl
  rw[e1,e2];unfold rotN at hl ⊢;generalize v / 2 ^ n=A at *;generalize v % 2 ^ n*2 ^ (32-n)=B at *;clear e0 e1 e2;unfold wrap64;omega
theorem zMy (n:Nat) (h2:n≤31):wrap64 (2 ^ n)≠0:=by
    have h3:(2:Nat) ^ n≤2 ^ 31:=Nat.pow_le_pow_right (by decide) h2
    have h4:((2 ^ n:Nat):Int)≤2147483648:=by omega
    have h5:(0:Int)<((2 ^ n:Nat):Int):=by have:=Nat.two_pow_pos n;omega
    push_cast at h4 h5
    unfold wrap64;omega
theorem zCe (a:Nat) (h:a<9223372036854775808):(BitVec.ofInt 64 (a:Int)).toNat=a:=by
  rw[BitVec.toNat_ofInt];omega
theorem zDA (a:Nat) (h:a<9223372036854775808):IntKind.i64.wrap (a:Int)=a:=by
  rw[IntKind.wrap_i64];omega
theorem zIC (a b:Nat) (ha:a<9223372036854775808) (hb:b<9223372036854775808):bits .xor .i64 (a:Int) (b:Int)=((a ^^^ b:Nat):Int):=by
  have hx:a ^^^ b<2 ^ 63:=Nat.xor_lt_two_pow (by omega) (by omega)
  show IntKind.i64.wrap ((BitVec.ofInt 64 (a:Int) ^^^ BitVec.ofInt 64 (b:Int)).toNat:Int)=_
  rw[BitVec.toNat_xor,zCe a ha,zCe b hb,zDA _ (by omega)]
theorem zID (a b:Nat) (ha:a<9223372036854775808) (hb:b<9223372036854775808):bits .and .i64 (a:Int) (b:Int)=((a &&& b:Nat):Int):=by
  have hx:a &&& b<2 ^ 63:=Nat.and_lt_two_pow _ (by omega)
  show IntKind.i64.wrap ((BitVec.ofInt 64 (a:Int) &&& BitVec.ofInt 64 (b:Int)).toNat:Int)=_
  rw[BitVec.toNat_and,zCe a ha,zCe b hb,zDA _ (by omega)]
def u8v (b:UInt8):Value:=.int .u8 (b.toNat:Int)
def at8 (bs:List UInt8) (i:Nat):Int:=((bs.getD i 0).toNat:Int)
theorem zE1 (bs:List UInt8) (i:Nat):0≤at8 bs i:=by unfold at8;omega
theorem zE2 (bs:List UInt8) (i:Nat):at8 bs i≤255:=by unfold at8;have:=(bs.getD i 0).toNat_lt;omega
theorem zBQ {bs:List UInt8} {i:Nat} (h:i<bs.length):at8 bs i=(bs[i].toNat:Int):=by simp[at8,h]
theorem zD9 {bs:List UInt8} {i:Nat} (h:i<bs.length):(bs.map u8v)[i]?=some (.int .u8 (at8 bs i)):=by simp[u8v,at8,h]
def Rd (w:World) (a:Option Addr) (cap:Nat) (bs:List UInt8):Prop:=
  bs.length≤cap∧cap≤maxLen∧(a=none→cap=0)∧(0<bs.length→∃ b o,a=some ⟨b,o,none⟩∧∀ i,i<bs.length→w.cell? ⟨b,o+i,none⟩=some (.int .u8 (at8 bs i)))
def Own (w:World) (B:Nat) (v:Value) (bs:List UInt8):Prop:=w.ownsRow B 5 1 v bs.length (bs.map u8v)
theorem Own.rd {w:World} {B:Nat} {v:Value} {bs:List UInt8} (h:Own w B v bs):∃ a cap,v=.slice a bs.length cap∧Rd w a cap bs:=by
  have h0:=h;rcases h.2 with ⟨rfl,hn⟩ | ⟨g,cap,cur,rfl,hb,hg,hle,hm,hs,ht⟩
  · exact⟨none,0,by rw[hn],by omega,by simp[maxLen],fun _=>rfl,fun hp=>by omega⟩
  · refine⟨_,cap,rfl,hle,hm,fun hh=>by simp at hh,fun _=>⟨g,0,rfl,fun i hi=>?_⟩⟩;have:=World.ownsRow.cellAt h0 i (by omega);rw[Nat.zero_add,this,zD9 hi]
theorem Rd.keep {w w':World} {a:Option Addr} {cap:Nat} {bs:List UInt8} (h:Rd w a cap bs) (hb:Below w.heap.size w w'):Rd w' a cap bs:=by
  obtain⟨h1,h2,h3,h4⟩:=h;refine⟨h1,h2,h3,fun hp=>?_⟩;obtain⟨b,o,rfl,hc⟩:=h4 hp;refine⟨b,o,rfl,fun i hi=>?_⟩;have hi':=hc i hi;rw[hb.cell (p:=⟨b,o+i,none⟩) (World.block_lt_of_cell? w _ hi'),hi']
theorem Own.keep {w w':World} {B N:Nat} {v:Value} {bs:List UInt8} (h:Own w B v bs) (hb:Below N w w') (hn:∀ k,v.ownBlock=some k→k<N):Own w' B v bs:=by
  obtain⟨h1,h2⟩:=h;refine⟨h1,?_⟩;rcases h2 with h2 | ⟨g,cap,cur,rfl,hg,hh,r⟩
  · exact .inl h2
  · exact .inr ⟨g,cap,cur,rfl,hg,(hb.block g (hn g rfl)).trans hh,r⟩
theorem Own.stay {w w':World} {B:Nat} {v:Value} {bs:List UInt8} (h:Own w B v bs) (hb:Below w.heap.size w w'):Own w' B v bs:=
  h.keep hb (fun k hk=>(World.ownsRow.lt h k hk).2)
theorem Own.set {w:World} {B:Nat} {v:Value} {bs:List UInt8} (h:Own w B v bs) {a:Addr} (ha:a.block<B) (u:Value):Own (w.setCell a u) B v bs:=
  ownsRow_setCell_below h ha u
theorem zu12 {w:World} {B k:Nat} {v:Value} {bs:List UInt8} (h:Own w B v bs) (e:k<B) {i0 i1 i2 i3 i4 i5 i6 i7 i8 i9 i10 i11:Nat} {v0 v1 v2 v3 v4 v5 v6 v7 v8 v9 v10 v11:Value}:Own ((((((((((((w.setCell ⟨k,i0,none⟩ v0).setCell ⟨k,i1,none⟩ v1).setCell ⟨k,i2,none⟩ v2).setCell ⟨k,i3,none⟩ v3).setCell ⟨k,i4,none⟩ v4).setCell ⟨k,i5,none⟩ v5).setCell ⟨k,i6,none⟩ v6).setCell ⟨k,i7,none⟩ v7).setCell ⟨k,i8,none⟩ v8).setCell ⟨k,i9,none⟩ v9).setCell ⟨k,i10,none⟩ v10).setCell ⟨k,i11,none⟩ v11) B v bs:=((((((((((((h.set e v0).set e v1).set e v2).set e v3).set e v4).set e v5).set e v6).set e v7).set e v8).set e v9).set e v10).set e v11)
theorem Own.lower {w:World} {B B':Nat} {v:Value} {bs:List UInt8} (h:Own w B v bs) (hb:B'≤B):Own w B' v bs:=by
  obtain⟨h1,h2⟩:=h;refine⟨h1,?_⟩;rcases h2 with h2 | ⟨g,cap,cur,rfl,hg,r⟩
  · exact .inl h2
  · exact .inr ⟨g,cap,cur,rfl,by omega,r⟩
theorem Own.lt {w:World} {B:Nat} {v:Value} {bs:List UInt8} (h:Own w B v bs):∀ k,v.ownBlock=some k→k<w.heap.size:=fun k hk=>(World.ownsRow.lt h k hk).2
theorem Own.ge {w:World} {B:Nat} {v:Value} {bs:List UInt8} (h:Own w B v bs):∀ k,v.ownBlock=some k→B≤k:=fun k hk=>(World.ownsRow.lt h k hk).1
def part (bs:List UInt8) (n k:Nat):List Value:=(bs.take k).map u8v++List.replicate (n-k) (.int .u8 0)
theorem zHU (bs:List UInt8) (n:Nat):part bs n 0=List.replicate n (.int .u8 0):=by simp[part]
theorem zIo (bs:List UInt8):part bs bs.length bs.length=bs.map u8v:=by simp[part]
theorem zIp (bs:List UInt8) (k:Nat) (h:k<bs.length):(part bs bs.length k).set k (.int .u8 (at8 bs k))=part bs bs.length (k+1):=by
  have e:u8v bs[k]=.int .u8 (at8 bs k):=by rw[zBQ h];rfl
  have hl:((bs.take k).map u8v).length=k:=by simp;omega
  unfold part;rw[List.set_append_right _ _ (by omega),hl,Nat.sub_self,List.take_succ_eq_append_getElem h,List.map_append,List.append_assoc]
  congr 1
  rw[show bs.length-k=(bs.length-(k+1))+1 by omega,List.replicate_succ,List.set_cons_zero,← e];rfl
theorem zJ9 (bs:List UInt8) (k:Nat) (h:k<bs.length):(part bs bs.length k)[k]?=some (.int .u8 0):=by
  have hl:((bs.take k).map u8v).length=k:=by simp;omega
  unfold part;rw[List.getElem?_append_right (by omega),hl,Nat.sub_self,List.getElem?_replicate,if_pos (by omega)]
theorem zCc (n:Nat):(madeCells (Value.cells (.int .u8 0)) (n*1)).toList=List.replicate n (.int .u8 0):=by
  rw[Nat.mul_one];exact toList_madeCells_one _ n
def zs (n:Nat):List UInt8:=List.replicate n 0
theorem zAs (n:Nat):(zs n).length=n:=List.length_replicate
theorem zAm {w:World} {B:Nat} {v:Value} {n:Nat} (h:w.ownsRow B 5 1 v n (madeCells (Value.cells (.int .u8 0)) (n*1)).toList):Own w B v (zs n):=by
  rw[zCc] at h;unfold Own zs;rw[List.length_replicate,List.map_replicate];exact h
def zBk (k:Int):UInt8:=UInt8.ofNat (k % 256).toNat
def zBg (k:Nat) (n:Nat):List UInt8:=(List.range n).map (fun i:Nat=>zBk ((k:Int)+(i:Int)))
theorem zBz (k n:Nat):(zBg k n).length=n:=by simp[zBg]
theorem zCf (k:Int):((zBk k).toNat:Int)=k % 256:=by
  unfold zBk;have h0:(0:Int)≤k % 256:=Int.emod_nonneg _ (by decide);have h1:k % 256<256:=Int.emod_lt_of_pos _ (by decide);rw[UInt8.toNat_ofNat'];omega
theorem zHV {k n i:Nat} (h:i<n):at8 (zBg k n) i=((k:Int)+i) % 256:=by
  rw[zBQ (by rw[zBz];exact h),← zCf];simp[zBg]
def zDB (bs:List UInt8) (k j:Nat):List UInt8:=(zBg k bs.length).take j++bs.drop j
theorem zGK (bs:List UInt8) (k j:Nat) (h:j≤bs.length):(zDB bs k j).length=bs.length:=by simp[zDB,zBz];omega
theorem zIE (bs:List UInt8) (k:Nat):zDB bs k 0=bs:=by simp[zDB]
theorem zJZ (bs:List UInt8) (k:Nat):zDB bs k bs.length=zBg k bs.length:=by
  simp only[zDB,List.drop_length,List.append_nil];exact List.take_of_length_le (by rw[zBz];exact yf _)
theorem zJa (bs:List UInt8) (k j:Nat) (h:j<bs.length):((zDB bs k j).map u8v).set j (.int .u8 (((k:Int)+j) % 256))=(zDB bs k (j+1)).map u8v:=by
  have hm:j<(zBg k bs.length).length:=by rw[zBz];exact h
  have e:u8v (zBg k bs.length)[j]=.int .u8 (((k:Int)+j) % 256):=by rw[← zHV h,zBQ hm];rfl
  have hl:(((zBg k bs.length).take j).map u8v).length=j:=by simp[zBz];omega
  unfold zDB;rw[List.map_append,List.set_append_right _ _ (by omega),hl,Nat.sub_self,List.take_succ_eq_append_getElem hm,List.append_assoc,List.map_append]
  congr 1
  rw[List.drop_eq_getElem_cons h,List.map_cons,List.set_cons_zero,← e];simp
theorem zL {w w':World} {p:Addr} {v:Value} (h:w.cell? p=some v) (hb:Below w.heap.size w w'):w'.cell? p=some v:=
  (hb.cell (World.block_lt_of_cell? w _ h)).trans h
theorem zGL {w w':World} {p:Addr} {v:Value} {row:Option Nat} (h:w.cell? p=some v) (hg:w.grownBy w' row) (hne:row≠some p.block):w'.cell? p=some v:=
  hg.cell h (fun e=>hne e.symm)
theorem zA (w:World) (o:Obj):Below w.heap.size w (w.alloc o):=(Below.refl _ _).alloc (yf _) _
def Has (w:World) (b:Nat) (vs:List Value):Prop:=∀ i v,vs[i]?=some v→w.cell? ⟨b,i,none⟩=some v
theorem Has.keep {w w':World} {b:Nat} {vs:List Value} (h:Has w b vs) (hb:Below w.heap.size w w'):Has w' b vs:=fun i v hv=>zL (h i v hv) hb
theorem Has.other {w w':World} {b:Nat} {vs:List Value} {row:Option Nat} (h:Has w b vs) (hg:w.grownBy w' row) (hne:row≠some b):Has w' b vs:=fun i v hv=>zGL (h i v hv) hg hne
theorem Has.new {w w':World} {vs:Array Value} {t:TypeId} (hb:Below (w.alloc (.cells vs t)).heap.size (w.alloc (.cells vs t)) w'):Has w' w.heap.size vs.toList:=fun i v hv=>
  zL ((World.cell?_alloc_new w vs t i).trans (by simpa using hv)) hb
theorem Has.lt {w:World} {b:Nat} {v:Value} {vs:List Value} (h:Has w b (v :: vs)):b<w.heap.size:=World.block_lt_of_cell? w _ (h 0 v rfl)
def Loc (w:World) (b:Nat) (vs:List Value):Prop:=Has w b vs∧∀ o,w.frozen? ⟨b,o,none⟩=false
theorem Loc.keep {w w':World} {b B:Nat} {vs:List Value} (h:Loc w b vs) (hb:Below B w w') (hB:b<B):Loc w' b vs:=
  ⟨fun i v hv=>(hb.cell (p:=⟨b,i,none⟩) hB).trans (h.1 i v hv),fun o=>(hb.frozen (p:=⟨b,o,none⟩) hB).trans (h.2 o)⟩
theorem Loc.other {w w':World} {b:Nat} {v0:Value} {vs:List Value} {row:Option Nat} (h:Loc w b (v0 :: vs)) (hg:w.grownBy w' row) (hne:row≠some b):Loc w' b (v0 :: vs):=
  ⟨h.1.other hg hne,fun o=>(World.frozen?_of_block (w:=w) (a:=⟨b,o,none⟩) (hg.block b h.1.lt (fun e=>hne e.symm))).trans (h.2 o)⟩
theorem Loc.setOther {w:World} {b:Nat} {vs:List Value} (h:Loc w b vs) {a:Addr} (ha:a.block≠b) (u:Value):Loc (w.setCell a u) b vs:=by
  have e:(w.setCell a u).heap[b]?=w.heap[b]?:=Below.heap_setCell _ _ _ _ (fun h=>ha h.symm);exact⟨fun i v hv=>(World.cell?_of_block (w:=w) (a:=⟨b,i,none⟩) e).trans (h.1 i v hv),fun o=>(World.frozen?_of_block (w:=w) (a:=⟨b,o,none⟩) e).trans (h.2 o)⟩
theorem Loc.set1 {w:World} {b:Nat} {v0 v1:Value} (h:Loc w b [v0,v1]) (u:Value):Loc (w.setCell ⟨b,1,none⟩ u) b [v0,u]:=by
  refine⟨fun i v hv=>?_,fun o=>(World.frozen?_setCell _ _ _ _).trans (h.2 o)⟩
  match i,hv with
  | 0,hv=>
    simp at hv;subst hv;rw[World.cell?_setCell_other _ _ _ _ (by simp)];exact h.1 0 _ rfl
  | 1,hv=>
    simp at hv;subst hv;exact World.cell?_setCell_same _ _ _ (h.1 1 _ rfl)
  | i+2,hv=>simp at hv
theorem Loc.new (w:World) (vs:Array Value) (t:TypeId):Loc (w.alloc (.cells vs t)) w.heap.size vs.toList:=
  ⟨fun i v hv=>(World.cell?_alloc_new w vs t i).trans (by simpa using hv),fun o=>by rw[frozen?_alloc_cells];simp[World.frozen?]⟩
theorem Rd.own {w:World} {B:Nat} {a:Option Addr} {n cap:Nat} {bs:List UInt8} (h:Own w B (.slice a n cap) bs):Rd w a cap bs:=by
  obtain⟨a',cap',e,hr⟩:=h.rd;simp only[Value.slice.injEq] at e;obtain⟨rfl,-,rfl⟩:=e;exact hr
theorem Own.other {w w':World} {B:Nat} {v:Value} {bs:List UInt8} {row:Option Nat} (h:Own w B v bs) (hg:w.grownBy w' row) (hne:∀ k,v.ownBlock=some k→row≠some k):Own w' B v bs:=by
  obtain⟨h1,h2⟩:=h;refine⟨h1,?_⟩;rcases h2 with h2 | ⟨g,cap,cur,rfl,hb,hh,r⟩
  · exact .inl h2
  · exact .inr ⟨g,cap,cur,rfl,hb,(hg.block g (Array.getElem?_eq_some_iff.1 hh).1 (fun e=>hne g rfl e.symm)).trans hh,r⟩
theorem zEA {a b c:World} {r:Option Nat} (h:a.grownBy b r) (k:b.grownBy c r):a.grownBy c r:=
  ⟨k.os.trans h.os,k.tape.trans h.tape,k.output.trans h.output,yi h.size k.size,fun i hi hne=>(k.block i (Nat.lt_of_lt_of_le hi h.size) hne).trans (h.block i hi hne)⟩
theorem zOX {w:World} {a:Option Addr} {len cap:Nat} {zs:List Int} (h:(a=none∧len=0∧cap=0∧zs=[])∨
    ∃ x,a=some x∧len≤cap∧cap≤maxLen∧zs.length=cap∧(∀ i,i<zs.length→w.cell? (x.add i)=some (.int .u8 (zs.getD i 0)))∧∀ n∈zs,(Lit.int .u8 n).wf=true):
    ∃ bs:List UInt8,len=bs.length∧Rd w a cap bs:=by
  rcases h with ⟨rfl,rfl,rfl,rfl⟩ | ⟨x,rfl,hl,hm,hz,hc,hw⟩
  · exact⟨[],rfl,by simp,by simp[maxLen],fun _=>rfl,fun hp=>by simp at hp⟩
  · refine⟨(zs.take len).map (fun z=>UInt8.ofNat z.toNat),by simp;omega,by simp;omega,hm,fun hh=>by simp at hh,fun hp=>?_⟩
    have hp':0<zs.length:=by simp at hp;omega
    obtain⟨b,o,rfl,hc'⟩:=ints_at hc hp';refine⟨b,o,rfl,fun i hi=>?_⟩
    have hi':i<len∧i<zs.length:=by simp at hi;omega
    rw[hc' i hi'.2];have hb:=bounds_u8 (hw zs[i] (List.getElem_mem hi'.2))
    have e:at8 ((zs.take len).map (fun z=>UInt8.ofNat z.toNat)) i=zs.getD i 0:=by
      rw[zBQ hi];simp only[List.getElem_map,List.getElem_take,UInt8.toNat_ofNat'];rw[show zs.getD i 0=zs[i]'hi'.2 by simp[hi'.2]];omega
    rw[e]
theorem Rd.cut {w:World} {b o cap:Nat} {bs:List UInt8} (h:Rd w (some ⟨b,o,none⟩) cap bs) (i n c:Nat) (hn:i+n≤bs.length) (hc:n≤c) (hm:c≤maxLen):Rd w (some ⟨b,o+i,none⟩) c ((bs.drop i).take n):=by
  obtain⟨h1,h2,h3,h4⟩:=h
  have hl:((bs.drop i).take n).length=n:=by simp;omega
  refine⟨by omega,hm,fun e=>by simp at e,fun hp=>⟨b,o+i,rfl,fun j hj=>?_⟩⟩;obtain⟨b',o',e,hcl⟩:=h4 (by omega);simp at e;obtain⟨rfl,rfl⟩:=e;rw[Nat.add_assoc,hcl (i+j) (by omega),zBQ hj,zBQ (by omega)];simp
theorem Rd.take {w:World} {a:Option Addr} {cap:Nat} {bs:List UInt8} (h:Rd w a cap bs) (m:Nat):Rd w a cap (bs.take m):=by
  obtain⟨h1,h2,h3,h4⟩:=h
  have hl:(bs.take m).length≤bs.length:=by rw[List.length_take];omega
  refine⟨by omega,h2,h3,fun hp=>?_⟩;obtain⟨b,o,rfl,hc⟩:=h4 (by omega);refine⟨b,o,rfl,fun i hi=>?_⟩;rw[hc i (by omega),zBQ hi,zBQ (by omega)];simp
def putB (v:Nat):Nat→List UInt8
  | 0=>[]
  | k+1=>UInt8.ofNat (v / 256 ^ k % 256) :: putB v k
theorem zM (v k:Nat):(putB v k).length=k:=by
  induction k with
  | zero=>rfl
  | succ k ih=>simp[putB,ih]
def zCU (v n k:Nat):List Value:=List.replicate (n-k) (.int .u8 0)++(putB v k).map u8v
theorem zIF (v n:Nat):zCU v n 0=List.replicate n (.int .u8 0):=by simp[zCU,putB]
theorem zJb (v n:Nat):zCU v n n=(putB v n).map u8v:=by simp[zCU]
theorem zKA (v n k:Nat) (h:k<n):(zCU v n k)[n-1-k]?=some (.int .u8 0):=by
  unfold zCU;rw[List.getElem?_append_left (by simp;omega),List.getElem?_replicate,if_pos (by omega)]
theorem zGM (v n k:Nat) (h:k<n):(zCU v n k).set (n-1-k) (.int .u8 ((v / 256 ^ k % 256:Nat):Int))=zCU v n (k+1):=by
  have e:u8v (UInt8.ofNat (v / 256 ^ k % 256))=.int .u8 ((v / 256 ^ k % 256:Nat):Int):=by
    unfold u8v;rw[UInt8.toNat_ofNat',Nat.mod_mod]
  unfold zCU;rw[show n-k=(n-(k+1))+1 by omega,List.replicate_succ',List.append_assoc,List.set_append_right _ _ (by simp;omega)];rw[List.length_replicate,show n-1-k-(n-(k+1))=0 by omega];simp only[putB,List.map_cons,e];rfl
def getB (bs:List UInt8):Nat:=bs.foldl (fun n b=>n*256+b.toNat) 0
theorem zHW (bs:List UInt8) (b:UInt8):getB (bs++[b])=getB bs*256+b.toNat:=by simp[getB]
theorem zKB (bs:List UInt8) (k:Nat) (h:k<bs.length):((getB (bs.take (k+1)):Nat):Int)=(getB (bs.take k):Int)*256+at8 bs k:=by
  rw[List.take_succ_eq_append_getElem h,zHW,zBQ h];omega
theorem zIG (bs:List UInt8):getB bs<256 ^ bs.length:=by
  suffices h:∀ (bs:List UInt8) (m k:Nat),m<256 ^ k→bs.foldl (fun n b=>n*256+b.toNat) m<256 ^ (k+bs.length) by
    have:=h bs 0 0 (by decide);simpa [getB] using this
  intro bs
  induction bs with
  | nil=>intro m k hm;simpa using hm
  | cons b bs ih=>
    intro m k hm;have hb:=b.toNat_lt;have:=ih (m*256+b.toNat) (k+1) (by rw[Nat.pow_succ];omega);rw[List.foldl_cons,List.length_cons,show k+(bs.length+1)=k+1+bs.length by omega];exact this
theorem zMz (m:Nat) (b:Int) (hm:m<16777216) (h0:0≤b) (h1:b≤255):bits .or .u32 ((m:Int)*256) b=(m:Int)*256+b:=by
  obtain⟨b,rfl⟩:=Int.eq_ofNat_of_zero_le h0
  have h2:b<2 ^ 8:=by omega
  rw[show((m:Int)*256)=((m*256:Nat):Int) by omega,u32_or_nat _ _ (by omega) (by omega),show m*256=m <<< 8 by rw[Nat.shiftLeft_eq],← Nat.shiftLeft_add_eq_or_of_lt h2,Nat.shiftLeft_eq];omega
def zD (k:Int) (n:Nat):Int:=if inB k 0 255 then (if n≤160 then 0 else 2) else 3
def zEB (k:Int) (b:List UInt8):List UInt8:=zBk k :: (putB b.length 3++b)
theorem zDC (k:Int) (b:List UInt8):(zEB k b).length=b.length+4:=by simp[zEB,zM];omega
def zE (l:List (Int×List UInt8)):List UInt8:=l.flatMap fun a=>zEB a.1 a.2
theorem zDp (l r:List (Int×List UInt8)):zE (l++r)=zE l++zE r:=by simp[zE]
theorem zIH (a:Int×List UInt8):zE [a]=zEB a.1 a.2:=by simp[zE]
theorem zB0 (a:Int×List UInt8) (l:List (Int×List UInt8)):zE (a :: l)=zEB a.1 a.2++zE l:=by simp[zE]
theorem zHX {l:List (Int×List UInt8)} {k:Nat} {a:Int×List UInt8} (h:l[k]?=some a):zE (l.take (k+1))=zE (l.take k)++zEB a.1 a.2:=by
  rw[List.take_add_one,h,zDp];simp[zE]
theorem zGN (l:List (Int×List UInt8)) (k:Nat):(zE (l.take k)).length≤(zE l).length:=by
  conv=>rhs;rw[← List.take_append_drop k l,zDp,List.length_append]
  omega
def zAH:List (Int×List UInt8)→Int
  | []=>0
  | a :: l=>if zD a.1 a.2.length=0 then zAH l else zD a.1 a.2.length
theorem zFb {l:List (Int×List UInt8)} {k:Nat} {a:Int×List UInt8} (h:l[k]?=some a) (hz:∀ (j:Nat) (b:Int×List UInt8),j<k→l[j]?=some b→zD b.1 b.2.length=0) (hn:¬ zD a.1 a.2.length=0):zAH l=zD a.1 a.2.length:=by
  induction l generalizing k with
  | nil=>simp at h
  | cons b l ih=>
    cases k with
    | zero=>simp at h;subst h;rw[zAH,if_neg hn]
    | succ k=>
      rw[zAH,if_pos (hz 0 b (by omega) rfl)]
      exact ih (by simpa using h) fun j c hj hc=>hz (j+1) c (by omega) (by simpa using hc)
theorem zCp {l:List (Int×List UInt8)}:(∀ (j:Nat) (b:Int×List UInt8),l[j]?=some b→zD b.1 b.2.length=0)→zAH l=0:=by
  induction l with
  | nil=>intro _;rfl
  | cons b l ih=>intro h;rw[zAH,if_pos (h 0 b rfl)];exact ih fun j c hc=>h (j+1) c (by simpa using hc)
theorem zAw {l:List (Int×List UInt8)} (h:zAH l=0):∀ a∈l,zD a.1 a.2.length=0:=by
  induction l with
  | nil=>intro a ha;cases ha
  | cons b l ih=>
    unfold zAH at h;split at h
    · rename_i h1;intro a ha;rcases List.mem_cons.1 ha with rfl | h2
      · exact h1
      · exact ih h a h2
    · rename_i h1;exact absurd h h1
def psC (l:List (Int×List UInt8)):Int:=if l.length≤12 then (if zAH l=0 then (if (zE l).length≤600 then 0 else 2) else zAH l) else 2
def psL (l:List (Int×List UInt8)):List UInt8:=if psC l=0 then zE l else []
theorem zAx {k:Int} {n:Nat} (h:zD k n=0):inB k 0 255=true∧n≤160:=by
  unfold zD at h;split at h
  · rename_i h1;split at h
    · rename_i h2;exact⟨h1,h2⟩
    · cases h
  · cases h
theorem zIq {l:List (Int×List UInt8)} (h:psC l=0):l.length≤12∧zAH l=0∧(zE l).length≤600:=by
  unfold psC at h;split at h
  · rename_i h1;split at h
    · rename_i h2;split at h
      · rename_i h3;exact⟨h1,h2,h3⟩
      · cases h
    · rename_i h2;exact absurd h h2
  · cases h
def zLW (data:List UInt8) (at_:Nat):Nat:=getB ((data.drop (at_+1)).take 3)
def zNm (data:List UInt8) (at_:Nat):List UInt8:=(data.drop (at_+4)).take (zLW data at_)
def zOY (data:List UInt8) (at_:Nat):Int×List UInt8:=(at8 data at_,zNm data at_)
def zM0 (data:List UInt8) (at_:Nat) (out:List (Int×List UInt8)):Int×Int×List (Int×List UInt8):=
  if at_<data.length then
    if data.length-at_<4 then (5,at_,[])
    else if 160<zLW data at_∨12≤out.length then (2,at_,[])
    else if data.length-at_-4<zLW data at_ then (5,at_,[])
    else zM0 data (at_+4+zLW data at_) (out++[zOY data at_])
  else (0,0,out)
termination_by data.length-at_
theorem zKC {α:Type} (xs ys:List α) (n:Nat):(xs++ys).drop (xs.length+n)=ys.drop n:=by
  rw[← List.drop_drop,List.drop_left]
def blkW (b:List UInt8):List UInt8:=zBk (b.length:Int) :: b
def zA1 (l:List (List UInt8)):List UInt8:=l.flatMap blkW
theorem zDY (b:List UInt8):(blkW b).length=b.length+1:=by simp[blkW]
theorem zDD (l r:List (List UInt8)):zA1 (l++r)=zA1 l++zA1 r:=by simp[zA1]
theorem zBl (b:List UInt8) (l:List (List UInt8)):zA1 (b :: l)=blkW b++zA1 l:=by simp[zA1]
theorem zHY (b:List UInt8):zA1 [b]=blkW b:=by simp[zA1]
theorem zJc {l:List (List UInt8)} {k:Nat} {b:List UInt8} (h:l[k]?=some b):zA1 (l.take (k+1))=zA1 (l.take k)++blkW b:=by
  rw[List.take_add_one,h,zDD];simp[zA1]
theorem zLX (l:List (List UInt8)) (k:Nat):(zA1 (l.take k)).length≤(zA1 l).length:=by
  conv=>rhs;rw[← List.take_append_drop k l,zDD,List.length_append]
  omega
def okBl (l:List (List UInt8)):Bool:=l.all fun b=>decide (b.length≤120)
def pbC (l:List (List UInt8)):Int:=if l.length≤8∧okBl l=true∧(zA1 l).length≤160 then 0 else 2
def pbL (l:List (List UInt8)):List UInt8:=if pbC l=0 then zA1 l else []
def zAI (data:List UInt8) (at_:Nat):Nat:=(data.getD at_ 0).toNat
def zA6 (data:List UInt8) (at_:Nat):List UInt8:=(data.drop (at_+1)).take (zAI data at_)
def zAg (data:List UInt8) (at_:Nat) (out:List (List UInt8)):Option (List (List UInt8)):=
  if at_<data.length then
    if 120<zAI data at_∨8≤out.length∨data.length<at_+1+zAI data at_ then none
    else zAg data (at_+1+zAI data at_) (out++[zA6 data at_])
  else some out
termination_by data.length-at_
theorem zCg {data:List UInt8} {at_:Nat} {out:List (List UInt8)} (h:¬ at_<data.length):zAg data at_ out=some out:=by rw[zAg,if_neg h]
theorem zCq {data:List UInt8} {at_:Nat} {out:List (List UInt8)} (h:at_<data.length) (h2:120<zAI data at_∨8≤out.length∨data.length<at_+1+zAI data at_):zAg data at_ out=none:=by rw[zAg,if_pos h,if_pos h2]
theorem zCr {data:List UInt8} {at_:Nat} {out:List (List UInt8)} (h:at_<data.length) (h2:¬ (120<zAI data at_∨8≤out.length∨data.length<at_+1+zAI data at_)):zAg data at_ out=zAg data (at_+1+zAI data at_) (out++[zA6 data at_]):=by
  conv=>lhs;rw[zAg,if_pos h,if_neg h2]
def ubC (data:List UInt8):Int:=if data.length≤160 then (if (zAg data 0 []).isSome then 0 else 5) else 2
def ubL (data:List UInt8):List (List UInt8):=if data.length≤160 then (zAg data 0 []).getD [] else []
theorem zHZ (pre rest b:List UInt8) (hb:b.length≤120):zAI (pre++(blkW b++rest)) pre.length=b.length:=by
  unfold zAI blkW;rw[List.getD_eq_getElem?_getD,List.getElem?_append_right (yf _),Nat.sub_self,yk];simp only[yb,Option.getD_some];have:=zCf (b.length:Int);omega
theorem zKD (pre rest b:List UInt8) (hb:b.length≤120):zA6 (pre++(blkW b++rest)) pre.length=b:=by
  unfold zA6;rw[zHZ pre rest b hb,zKC];unfold blkW;rw[yk,yd,ye];exact List.take_left' rfl
theorem zGO:∀ (l:List (List UInt8)) (pre:List UInt8) (out:List (List UInt8)),(∀ b∈l,b.length≤120)→out.length+l.length≤8→zAg (pre++zA1 l) pre.length out=some (out++l)
  | [],pre,out,_,_=>by rw[zCg (by simp[zA1]),List.append_nil]
  | b :: l,pre,out,hf,hl=>by
    have hb:=hf b List.mem_cons_self
    have hlen:(pre++zA1 (b :: l)).length=pre.length+(b.length+1)+(zA1 l).length:=by rw[zBl,List.length_append,List.length_append,zDY];omega
    have e1:zAI (pre++zA1 (b :: l)) pre.length=b.length:=by rw[zBl];exact zHZ pre _ b hb
    have e2:zA6 (pre++zA1 (b :: l)) pre.length=b:=by rw[zBl];exact zKD pre _ b hb
    simp only[List.length_cons] at hl;rw[zCr (by rw[hlen];omega) (by rw[hlen,e1];omega),e1,e2];have h:=zGO l (pre++blkW b) (out++[b]) (fun c hc=>hf c (List.mem_cons_of_mem _ hc)) (by rw[List.length_append,List.length_singleton];omega);rw[List.append_assoc,← zBl,List.length_append,zDY,show pre.length+(b.length+1)=pre.length+1+b.length by omega,List.append_assoc] at h;exact h
theorem zM1 {data:List UInt8} {at_:Nat} (h:at_<data.length) (h3:¬ data.length<at_+1+zAI data at_):blkW (zA6 data at_)=(data.drop at_).take (1+zAI data at_):=by
  have hb:(zA6 data at_).length=zAI data at_:=by unfold zA6;rw[List.length_take,List.length_drop];omega
  unfold blkW;rw[hb]
  have e2:zBk ((zAI data at_:Nat):Int)=data[at_]:=by
    unfold zBk zAI
    have e:data.getD at_ 0=data[at_]:=by simp[h]
    rw[e];have:=data[at_].toNat_lt;rw[show(((data[at_].toNat:Nat):Int) % 256).toNat=data[at_].toNat by omega,UInt8.ofNat_toNat]
  rw[e2];unfold zA6;have e3:data.drop at_=data[at_] :: data.drop (at_+1):=List.drop_eq_getElem_cons h;rw[e3,Nat.add_comm 1,List.take_succ_cons]
theorem zGP (data:List UInt8):∀ (m at_:Nat) (out r:List (List UInt8)),data.length-at_≤m→at_≤data.length→zA1 out=data.take at_→out.length≤8→(∀ b∈out,b.length≤120)→zAg data at_ out=some r→zA1 r=data∧r.length≤8∧∀ b∈r,b.length≤120
  | 0,at_,out,r,hm,hle,ho,hl,hf,hr=>by
    rw[zCg (by omega)] at hr;cases hr;exact⟨by rw[ho];exact List.take_of_length_le (by omega),hl,hf⟩
  | m+1,at_,out,r,hm,hle,ho,hl,hf,hr=>by
    by_cases h:at_<data.length
    · by_cases h2:120<zAI data at_∨8≤out.length∨data.length<at_+1+zAI data at_
      · rw[zCq h h2] at hr;cases hr
      · rw[zCr h h2] at hr;refine zGP data m _ _ r (by omega) (by omega) ?_ (by rw[List.length_append,List.length_singleton];omega) (fun b hb=>?_) hr
        · rw[zDD,zHY,zM1 h (by omega),ho,Nat.add_assoc];exact(List.take_add (i:=at_) (j:=1+zAI data at_) (l:=data)).symm
        · rcases List.mem_append.1 hb with h4 | h4
          · exact hf b h4
          · rw[List.mem_singleton.1 h4];unfold zA6;rw[List.length_take];omega
    · rw[zCg h] at hr;cases hr;exact⟨by rw[ho];exact List.take_of_length_le (by omega),hl,hf⟩
end
end Go.Proofs.YtiabacnmmojfjabGreatDoor
