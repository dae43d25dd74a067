import Derived.Test.YtiabacnmmojfjaaGreatDoorJoint1
import Derived.Laws.BytesArg
import Derived.Laws.IdiomStrings
namespace Go.Proofs.YtiabacnmmojfjaaGreatDoor
open Go.RowKit
structure S8 where
  a:Nat
  b:Nat
  c:Nat
  d:Nat
  e:Nat
  f:Nat
  g:Nat
  h:Nat
def S8.list (s:S8):List Nat:=[s.a,s.b,s.c,s.d,s.e,s.f,s.g,s.h]
def S8.ok (s:S8):Prop:=s.a<4294967296∧s.b<4294967296∧s.c<4294967296∧s.d<4294967296∧s.e<4294967296∧s.f<4294967296∧s.g<4294967296∧s.h<4294967296
def rot3 (x i j k:Nat):Nat:=rotN x i ^^^ rotN x j ^^^ rotN x k
def sh2 (x i j k:Nat):Nat:=rotN x i ^^^ rotN x j ^^^ (x / 2 ^ k)
def chN (e f g:Nat):Nat:=(e &&& f) ^^^ ((4294967295-e) &&& g)
def majN (a b c:Nat):Nat:=(a &&& b) ^^^ (a &&& c) ^^^ (b &&& c)
def t1N (s:S8) (word key:Nat):Nat:=(s.h+rot3 s.e 6 11 25+chN s.e s.f s.g+key+word) % 4294967296
def t2N (s:S8):Nat:=(rot3 s.a 2 13 22+majN s.a s.b s.c) % 4294967296
def zCB (s:S8) (word key:Nat):S8:=
  ⟨(t1N s word key+t2N s) % 4294967296,s.a,s.b,s.c,(s.d+t1N s word key) % 4294967296,s.e,s.f,s.g⟩
theorem zAy {a b:Nat} (h:a<4294967296) (k:b<4294967296):a ^^^ b<4294967296:=Nat.xor_lt_two_pow (n:=32) h k
theorem zAd {a b:Nat} (h:a<4294967296):a &&& b<4294967296:=Nat.lt_of_le_of_lt Nat.and_le_left h
theorem zJp {x i j k:Nat} (h:x<4294967296) (hi:i≤32) (hj:j≤32) (hk:k≤32):rot3 x i j k<4294967296:=
  zAy (zAy (zAD x i h hi) (zAD x j h hj)) (zAD x k h hk)
theorem zMD {x i j k:Nat} (h:x<4294967296) (hi:i≤32) (hj:j≤32):sh2 x i j k<4294967296:=
  zAy (zAy (zAD x i h hi) (zAD x j h hj)) (Nat.lt_of_le_of_lt (Nat.div_le_self _ _) h)
theorem zNK {e f g:Nat} (h:e<4294967296):chN e f g<4294967296:=zAy (zAd h) (zAd (by omega))
theorem zMX {a b c:Nat} (h:a<4294967296) (k:b<4294967296):majN a b c<4294967296:=zAy (zAy (zAd h) (zAd h)) (zAd k)
theorem zBb (x:Nat):x % 4294967296<4294967296:=Nat.mod_lt _ (by decide)
theorem zJq {s:S8} {word key:Nat} (h:s.ok):(zCB s word key).ok:=
  ⟨zBb _,h.1,h.2.1,h.2.2.1,zBb _,h.2.2.2.2.1,h.2.2.2.2.2.1,h.2.2.2.2.2.2.1⟩
def zF3 (bs:List UInt8) (i:Nat):Nat:=getB ((bs.drop (4*i)).take 4)
theorem zK6 (bs:List UInt8) (i:Nat):zF3 bs i<4294967296:=
  Nat.lt_of_lt_of_le (zH1 _) (yi (Nat.pow_le_pow_right (by decide) (List.length_take_le 4 _)) (by decide))
def zR (bs:List UInt8):List Nat:=(List.range 16).map (zF3 bs)
def zFT (ws:List Nat):Nat:=(sh2 (ws.getD (ws.length-2) 0) 17 19 10+ws.getD (ws.length-7) 0+sh2 (ws.getD (ws.length-15) 0) 7 18 3+ws.getD (ws.length-16) 0) % 4294967296
def zAn (ws:List Nat):Nat→List Nat
  | 0=>ws
  | k+1=>zAn ws k++[zFT (zAn ws k)]
def zAg (bs:List UInt8):List Nat:=zAn (zR bs) 48
theorem zFU (ws:List Nat) (k:Nat):(zAn ws k).length=ws.length+k:=by
  induction k with
  | zero=>rfl
  | succ k ih=>simp[zAn,ih];omega
theorem zBn (bs:List UInt8):(zR bs).length=16:=by simp[zR]
theorem zA8 (bs:List UInt8):(zAg bs).length=64:=by rw[zAg,zFU,zBn]
def Words (ws:List Nat):Prop:=∀ x∈ws,x<4294967296
theorem Words.getD {ws:List Nat} (h:Words ws) (i:Nat):ws.getD i 0<4294967296:=by
  rw[List.getD_eq_getElem?_getD];cases e:ws[i]? with
  | none=>simp
  | some x=>simpa using h x (List.mem_of_getElem? e)
theorem Words.append {a b:List Nat} (h:Words a) (k:Words b):Words (a++b):=fun x hx=>(List.mem_append.1 hx).elim (h x) (k x)
theorem zEX (bs:List UInt8):Words (zR bs):=fun x hx=>by
  obtain⟨i,-,rfl⟩:=List.mem_map.1 hx;exact zK6 bs i
theorem zGh {ws:List Nat} (h:Words ws) (k:Nat):Words (zAn ws k):=by
  induction k with
  | zero=>exact h
  | succ k ih=>exact ih.append (fun x hx=>by rw[List.mem_singleton.1 hx];exact zBb _)
theorem zJJ (bs:List UInt8):Words (zAg bs):=zGh (zEX bs) 48
def gap (n:Nat):Nat:=(119-n % 64) % 64
def padN (bs:List UInt8):List UInt8:=bs++128 :: (zs (gap bs.length)++putB (8*bs.length) 8)
theorem zFH (bs:List UInt8):(padN bs).length=bs.length+9+gap bs.length:=by simp[padN,zAX,zP];omega
theorem zCd (bs:List UInt8):(padN bs).length=(bs.length+72) / 64*64:=by rw[zFH];unfold gap;omega
def keysN:List Nat:=[0x428a2f98,0x71374491,0xb5c0fbcf,0xe9b5dba5,0x3956c25b,0x59f111f1,0x923f82a4,0xab1c5ed5,0xd807aa98,0x12835b01,0x243185be,0x550c7dc3,0x72be5d74,0x80deb1fe,0x9bdc06a7,0xc19bf174,0xe49b69c1,0xefbe4786,0x0fc19dc6,0x240ca1cc,0x2de92c6f,0x4a7484aa,0x5cb0a9dc,0x76f988da,0x983e5152,0xa831c66d,0xb00327c8,0xbf597fc7,0xc6e00bf3,0xd5a79147,0x06ca6351,0x14292967,0x27b70a85,0x2e1b2138,0x4d2c6dfc,0x53380d13,0x650a7354,0x766a0abb,0x81c2c92e,0x92722c85,0xa2bfe8a1,0xa81a664b,0xc24b8b70,0xc76c51a3,0xd192e819,0xd6990624,0xf40e3585,0x106aa070,0x19a4c116,0x1e376c08,0x2748774c,0x34b0bcb5,0x391c0cb3,0x4ed8aa4a,0x5b9cca4f,0x682e6ff3,0x748f82ee,0x78a5636f,0x84c87814,0x8cc70208,0x90befffa,0xa4506ceb,0xbef9a3f7,0xc67178f2]
def startN:S8:=⟨0x6a09e667,0xbb67ae85,0x3c6ef372,0xa54ff53a,0x510e527f,0x9b05688c,0x1f83d9ab,0x5be0cd19⟩
theorem zJr:startN.ok:=by unfold S8.ok startN;decide
theorem keysN_ok:Words keysN:=by unfold Words keysN;decide
def zAh (ws:List Nat) (s:S8):Nat→S8
  | 0=>s
  | k+1=>zCB (zAh ws s k) (ws.getD k 0) (keysN.getD k 0)
theorem zDV (ws:List Nat) {s:S8} (h:s.ok) (k:Nat):(zAh ws s k).ok:=by
  induction k with
  | zero=>exact h
  | succ k ih=>exact zJq ih
def addS (s t:S8):S8:=⟨(s.a+t.a) % 4294967296,(s.b+t.b) % 4294967296,(s.c+t.c) % 4294967296,(s.d+t.d) % 4294967296,(s.e+t.e) % 4294967296,(s.f+t.f) % 4294967296,(s.g+t.g) % 4294967296,(s.h+t.h) % 4294967296⟩
theorem zMY (s t:S8):(addS s t).ok:=⟨zBb _,zBb _,zBb _,zBb _,zBb _,zBb _,zBb _,zBb _⟩
def zDD (s:S8) (bs:List UInt8):S8:=addS s (zAh (zAg bs) s 64)
def zAi (bs:List UInt8):Nat→S8
  | 0=>startN
  | k+1=>zDD (zAi bs k) ((bs.drop (64*k)).take 64)
theorem zDW (bs:List UInt8) (k:Nat):(zAi bs k).ok:=by
  cases k with
  | zero=>exact zJr
  | succ k=>exact zMY _ _
def zE1 (s:S8):List UInt8:=putB s.a 4++putB s.b 4++putB s.c 4++putB s.d 4++putB s.e 4++putB s.f 4++putB s.g 4++putB s.h 4
theorem zGG (s:S8):(zE1 s).length=32:=by simp[zE1,zP]
def zW (bs:List UInt8):List UInt8:=zE1 (zAi (padN bs) ((bs.length+72) / 64))
theorem zAz (bs:List UInt8):(zW bs).length=32:=zGG _
def i64v (n:Nat):Value:=.int .i64 (n:Int)
def u32v (n:Nat):Value:=.int .u32 (n:Int)
def S8.i64 (s:S8):Array Value:=#[.int .i64 (s.a:Int),.int .i64 (s.b:Int),.int .i64 (s.c:Int),.int .i64 (s.d:Int),.int .i64 (s.e:Int),.int .i64 (s.f:Int),.int .i64 (s.g:Int),.int .i64 (s.h:Int)]
def S8.u32 (s:S8):Array Value:=#[.int .u32 (s.a:Int),.int .u32 (s.b:Int),.int .u32 (s.c:Int),.int .u32 (s.d:Int),.int .u32 (s.e:Int),.int .u32 (s.f:Int),.int .u32 (s.g:Int),.int .u32 (s.h:Int)]
def zC1 (key:List UInt8) (x:UInt8):List UInt8:=(key++zs (64-key.length)).map (· ^^^ x)
theorem zDX {key:List UInt8} (x:UInt8) (h:key.length≤64):(zC1 key x).length=64:=by simp[zC1,zAX];omega
def macN (key data:List UInt8):List UInt8:=zW (zC1 key 92++zW (zC1 key 54++data))
theorem zCR (key data:List UInt8):(macN key data).length=32:=zAz _
def zJs (salt:List UInt8):List UInt8:=if salt.length=0 then zs 32 else salt
def zAH (salt data:List UInt8):List UInt8:=macN (zJs salt) data
theorem zCS (salt data:List UInt8):(zAH salt data).length=32:=zCR _ _
def zBi (key info:List UInt8):Nat→List UInt8
  | 0=>[]
  | i+1=>macN key (zBi key info i++info++[UInt8.ofNat (i+1)])
def outN (key info:List UInt8):Nat→List UInt8
  | 0=>[]
  | i+1=>outN key info i++zBi key info (i+1)
theorem zHK (key info:List UInt8) (i:Nat):(zBi key info i).length≤32:=by
  cases i with
  | zero=>simp[zBi]
  | succ i=>exact Nat.le_of_eq (zCR _ _)
theorem zEY (key info:List UInt8) (i:Nat):zBi key info (i+1)=macN key (zBi key info i++info++[UInt8.ofNat (i+1)]):=rfl
theorem zDY (key info:List UInt8) (i:Nat):(outN key info i).length=32*i:=by
  induction i with
  | zero=>rfl
  | succ i ih=>rw[outN,List.length_append,ih,zEY,zCR];omega
def zBL (key info:List UInt8) (n:Nat):List UInt8:=(outN key info ((n+31) / 32)).take n
theorem zCp (key info:List UInt8) (n:Nat):(zBL key info n).length=n:=by
  rw[zBL,List.length_take,zDY];omega
theorem zJt (key info:List UInt8) (i j:Nat) (h:i≤j):(outN key info j).take (32*i)=outN key info i:=by
  induction j with
  | zero => have:i=0:=by omega
            subst this;rfl
  | succ j ih=>
    by_cases e:i=j+1
    · subst e;rw[List.take_of_length_le (by rw[zDY];exact yf _)]
    · rw[outN,List.take_append_of_le_length (by rw[zDY];omega)];exact ih (by omega)
def zAU (l:List UInt8):Bool:=l.all (fun b=>decide (32≤b.toNat)&&decide (b.toNat≤126))&&decide (1≤l.length)&&decide (l.length≤40)
def zCe:List UInt8:=[116,108,115,49,51,32]
def zA3 (l ctx:List UInt8) (n:Nat):List UInt8:=putB n 2++UInt8.ofNat (6+l.length) :: (zCe++l++UInt8.ofNat ctx.length :: ctx)
theorem zGH (l ctx:List UInt8) (n:Nat):(zA3 l ctx n).length=l.length+ctx.length+10:=by simp[zA3,zP,zCe];omega
def i64z (z:Int):Value:=.int .i64 z
def atI (l:List Int) (i:Nat):Int:=l.getD i 0
theorem zMZ {l:List Int} {i:Nat} (h:i<l.length):(l.map i64z)[i]?=some (.int .i64 (atI l i)):=by simp[i64z,atI,h]
def RdI (w:World) (a:Option Addr) (cap:Nat) (l:List Int):Prop:=
  l.length≤cap∧cap≤maxLen∧(a=none→cap=0)∧(0<l.length→∃ b o,a=some ⟨b,o,none⟩∧∀ i,i<l.length→w.cell? ⟨b,o+i,none⟩=some (.int .i64 (atI l i)))
def OwnI (w:World) (B:Nat) (v:Value) (l:List Int):Prop:=w.ownsRow B 2 1 v l.length (l.map i64z)
theorem OwnI.rd {w:World} {B:Nat} {v:Value} {l:List Int} (h:OwnI w B v l):∃ a cap,v=.slice a l.length cap∧RdI w a cap l:=by
  have h0:=h;rcases h.2 with ⟨rfl,hn⟩ | ⟨g,cap,cur,rfl,hb,hg,hle,hm,hs,ht⟩
  · exact⟨none,0,by rw[hn],by omega,by simp[maxLen],fun _=>rfl,fun hp=>by omega⟩
  · refine⟨_,cap,rfl,hle,hm,fun hh=>by simp at hh,fun _=>⟨g,0,rfl,fun i hi=>?_⟩⟩;have:=World.ownsRow.cellAt h0 i (by omega);rw[Nat.zero_add,this,zMZ hi]
theorem RdI.keep {w w':World} {a:Option Addr} {cap:Nat} {l:List Int} (h:RdI w a cap l) (hb:Below w.heap.size w w'):RdI w' a cap l:=by
  obtain⟨h1,h2,h3,h4⟩:=h;refine⟨h1,h2,h3,fun hp=>?_⟩;obtain⟨b,o,rfl,hc⟩:=h4 hp;refine⟨b,o,rfl,fun i hi=>?_⟩;have hi':=hc i hi;rw[hb.cell (p:=⟨b,o+i,none⟩) (World.block_lt_of_cell? w _ hi'),hi']
theorem OwnI.keep {w w':World} {B N:Nat} {v:Value} {l:List Int} (h:OwnI w B v l) (hb:Below N w w') (hn:∀ k,v.ownBlock=some k→k<N):OwnI w' B v l:=by
  obtain⟨h1,h2⟩:=h;refine⟨h1,?_⟩;rcases h2 with h2 | ⟨g,cap,cur,rfl,hg,hh,r⟩
  · exact .inl h2
  · exact .inr ⟨g,cap,cur,rfl,hg,(hb.block g (hn g rfl)).trans hh,r⟩
theorem OwnI.stay {w w':World} {B:Nat} {v:Value} {l:List Int} (h:OwnI w B v l) (hb:Below w.heap.size w w'):OwnI w' B v l:=
  h.keep hb (fun k hk=>(World.ownsRow.lt h k hk).2)
theorem OwnI.set {w:World} {B:Nat} {v:Value} {l:List Int} (h:OwnI w B v l) {a:Addr} (ha:a.block<B) (u:Value):OwnI (w.setCell a u) B v l:=
  ownsRow_setCell_below h ha u
theorem OwnI.lower {w:World} {B B':Nat} {v:Value} {l:List Int} (h:OwnI w B v l) (hb:B'≤B):OwnI w B' v l:=by
  obtain⟨h1,h2⟩:=h;refine⟨h1,?_⟩;rcases h2 with h2 | ⟨g,cap,cur,rfl,hg,r⟩
  · exact .inl h2
  · exact .inr ⟨g,cap,cur,rfl,by omega,r⟩
theorem OwnI.lt {w:World} {B:Nat} {v:Value} {l:List Int} (h:OwnI w B v l):∀ k,v.ownBlock=some k→k<w.heap.size:=fun k hk=>(World.ownsRow.lt h k hk).2
theorem OwnI.ge {w:World} {B:Nat} {v:Value} {l:List Int} (h:OwnI w B v l):∀ k,v.ownBlock=some k→B≤k:=fun k hk=>(World.ownsRow.lt h k hk).1
theorem RdI.own {w:World} {B:Nat} {a:Option Addr} {n cap:Nat} {l:List Int} (h:OwnI w B (.slice a n cap) l):RdI w a cap l:=by
  obtain⟨a',cap',e,hr⟩:=h.rd;simp only[Value.slice.injEq] at e;obtain⟨rfl,-,rfl⟩:=e;exact hr
theorem OwnI.other {w w':World} {B:Nat} {v:Value} {l:List Int} {row:Option Nat} (h:OwnI w B v l) (hg:w.grownBy w' row) (hne:∀ k,v.ownBlock=some k→row≠some k):OwnI w' B v l:=by
  obtain⟨h1,h2⟩:=h;refine⟨h1,?_⟩;rcases h2 with h2 | ⟨g,cap,cur,rfl,hb,hh,r⟩
  · exact .inl h2
  · exact .inr ⟨g,cap,cur,rfl,hb,(hg.block g (Array.getElem?_eq_some_iff.1 hh).1 (fun e=>hne g rfl e.symm)).trans hh,r⟩
structure Src (w:World) (b:Nat) (p:Option Addr) (q:Nat) (cs:List UInt8) (n:Int):Prop where
  loc:Loc w b [.slice p cs.length q,.int .i64 n]
  rd:Rd w p q cs
  apart:0<cs.length→∀ x,p=some x→x.block<b
theorem Src.lt {w:World} {b:Nat} {p:Option Addr} {q:Nat} {cs:List UInt8} {n:Int} (h:Src w b p q cs n):b<w.heap.size:=h.loc.1.lt
theorem Rd.set {w:World} {a:Option Addr} {cap:Nat} {bs:List UInt8} (h:Rd w a cap bs) {x:Addr} (hne:0<bs.length→∀ y,a=some y→y.block≠x.block) (u:Value):Rd (w.setCell x u) a cap bs:=by
  obtain⟨h1,h2,h3,h4⟩:=h;refine⟨h1,h2,h3,fun hp=>?_⟩;obtain⟨b,o,rfl,hc⟩:=h4 hp;refine⟨b,o,rfl,fun i hi=>?_⟩;have e:(w.setCell x u).heap[b]?=w.heap[b]?:=Below.heap_setCell _ _ _ _ (hne hp _ rfl);rw[World.cell?_of_block (w:=w) (a:=⟨b,o+i,none⟩) e,hc i hi]
theorem Rd.other {w w':World} {a:Option Addr} {cap:Nat} {bs:List UInt8} {row:Option Nat} (h:Rd w a cap bs) (hg:w.grownBy w' row) (hne:0<bs.length→∀ y,a=some y→row≠some y.block):Rd w' a cap bs:=by
  obtain⟨h1,h2,h3,h4⟩:=h;refine⟨h1,h2,h3,fun hp=>?_⟩;obtain⟨b,o,rfl,hc⟩:=h4 hp;exact⟨b,o,rfl,fun i hi=>zDT (hc i hi) hg (hne hp ⟨b,o,none⟩ rfl)⟩
theorem Src.next {w:World} {b:Nat} {p:Option Addr} {q:Nat} {cs:List UInt8} {n:Int} (h:Src w b p q cs n) (m:Int):Src (w.setCell ⟨b,1,none⟩ (.int .i64 m)) b p q cs m:=
  ⟨h.loc.set1 _,h.rd.set (fun hp y hy e=>by have:=h.apart hp y hy;simp at e;omega) _,h.apart⟩
theorem zJ (w:World) (b o:Nat) (u:Value):w.grownBy (w.setCell ⟨b,o,none⟩ u) (some b):=
  ⟨rfl,rfl,rfl,by simp[World.setCell],fun k _ hk=>Below.heap_setCell _ _ _ _ (fun e=>hk (by rw[e]))⟩
theorem zV (w:World) (n:Nat) (row:Option Nat):w.grownBy (w.drewN n) row:=⟨rfl,rfl,rfl,yf _,fun _ _ _=>rfl⟩
theorem Src.drewN {w:World} {b:Nat} {p:Option Addr} {q:Nat} {cs:List UInt8} {n:Int} (h:Src w b p q cs n) (k:Nat):Src (w.drewN k) b p q cs n:=⟨h.loc,h.rd,h.apart⟩
theorem Src.keep {w w':World} {b:Nat} {p:Option Addr} {q:Nat} {cs:List UInt8} {n:Int} (h:Src w b p q cs n) (hb:Below w.heap.size w w'):Src w' b p q cs n:=
  ⟨h.loc.keep hb h.lt,h.rd.keep hb,h.apart⟩
theorem zCT (w:World) (c:Array Value) (t:TypeId) (xs:List Int) (h:c.toList=xs.map (Value.int .i64)):
    ∀ i,i<xs.length→(w.alloc (.cells c t)).cell? ⟨w.heap.size,i,none⟩=some (.int .i64 (xs.getD i 0)):=fun i hi=>by
  rw[World.cell?_alloc_new]
  have e:c[i]?=c.toList[i]?:=by simp
  rw[e,h];simp[hi]
def strB (bs:List UInt8):ByteArray:=⟨bs.toArray⟩
theorem zBN (bs:List UInt8):(strB bs).size=bs.length:=by simp[strB,ByteArray.size]
theorem zCf (bs:List UInt8):(strB bs).toList=bs:=by rw[ByteArray.toList_eq];rfl
theorem zMa (l:List UInt8) (i:Nat) (h:i<(strB l).size):(((strB l)[i]'h).toNat:Int)=at8 l i:=by
  have h':i<l.length:=by rw[zBN] at h;exact h
  rw[zBk h'];rfl
theorem zEZ {P:Program} {w:World} {a:Option Addr} {cap:Nat} {bs:List UInt8} (hr:Rd w a cap bs) {src dst e:TypeId}
    (hs:P.underlying src=some (.slice e)) (he:P.underlying e=some (.int .u8)) (hd:P.underlying dst=some .string):
    (convert src dst (.slice a bs.length cap)).run P w=.ok (.string (strB bs)) w:=by
  by_cases h0:0<bs.length
  · obtain⟨b,o,rfl,hc⟩:=hr.2.2.2 h0;rw[run_convert_bytes_arg w src e hs he b o bs.length cap (bs.map fun x=>(x.toNat:Int)) (by simp) (fun i hi=>by rw[hc i hi,zBk hi];simp[hi]) dst hd]
    congr 2
    have hid:(fun n:Int=>UInt8.ofNat n.toNat)∘(fun x:UInt8=>(x.toNat:Int))=id:=by funext x;simp
    simp[strOfNums,strB,hid]
  · have e0:bs=[]:=List.length_eq_zero_iff.1 (by omega);subst e0;cases a with
    | none=>exact run_convert_bytes_nil w src e hs he 0 cap dst hd
    | some x=>
      rw[show([]:List UInt8).length=0 from rfl,run_convert_bytes_string w src dst e _ 0 cap hs he hd,run_bytesToString w x 0 cap [] (by simpa using run_loadCells_list (P:=P) w x [] (fun j v hj=>by simp at hj))];rfl
def zDE (w:World) (l:List UInt8):Nat:=grownCap w (strB l).size 0 5
def zE2 (w:World) (l:List UInt8):World:=w.drew.alloc (.cells (bytesRow (strB l) (zDE w l)) 5 ((bytesRow (strB l) (zDE w l)).size,(bytesRow (strB l) (zDE w l)).size+1))
theorem zHL {P:Program} {src dst:TypeId} (hs:P.underlying src=some .string) (hd:P.underlying dst=some (.slice 5)) (he:P.underlying 5=some (.int .u8)) (l:List UInt8) (w:World):
    (convert src dst (.string (strB l))).run P w=.ok (.slice (some ⟨w.heap.size,0,none⟩) l.length (zDE w l)) (zE2 w l):=by
  rw[run_bytes_of_string w src dst 5 (strB l) hs hd he,zBN];rfl
theorem zB1 (w:World) (l:List UInt8):Below w.heap.size w (zE2 w l):=(Below.refl _ _).drew.alloc (yf _) _
theorem zHM (w:World) (l:List UInt8) (hm:l.length≤maxLen):Rd (zE2 w l) (some ⟨w.heap.size,0,none⟩) (zDE w l) l:=by
  refine⟨?_,?_,fun h=>by simp at h,fun _=>⟨w.heap.size,0,rfl,fun i hi=>?_⟩⟩
  · have:=grownCap_ge w (strB l).size 0 5;rw[zBN] at this;unfold zDE;rw[zBN];exact this
  · exact grownCap_le_maxLen _ _ _ _ (by rw[zBN];exact hm)
  · have h:=World.cell?_alloc_mark w.drew (bytesRow (strB l) (zDE w l)) 5 ((bytesRow (strB l) (zDE w l)).size,(bytesRow (strB l) (zDE w l)).size+1) i;rw[Nat.zero_add];refine h.trans ?_;rw[bytesRow_at _ _ _ (by simpa [strB] using hi),zBk hi];rfl
theorem zJu {P:Program} (x y:List UInt8) (h:x.length+y.length≤9223372036854775807) (w:World):
    (Op.stringOp .add (strB x) (strB y)).run P w=.ok (.string (strB (x++y))) w:=by
  rw[run_string_add_sum w _ _ (by rw[zBN,zBN];exact h)];unfold strB;rw[ByteArray.mk_append_mk]
theorem zHN (w:World) (a:Value) (t:TypeId):∀ j u,[a][j]?=some u→(w.alloc (.cells #[a] t)).cell? ((⟨w.heap.size,0,none⟩:Addr).add j)=some u:=by
  intro j u hj
  match j,hj with
  | 0,hj=>simp at hj;subst hj;simp[Addr.add]
  | j+1,hj=>simp at hj
theorem zMb {w:World} {B:Nat} {v:Value} {x:List UInt8} {a:UInt8} (h:w.ownsRow B 5 1 v (x.length+1) (x.map u8v++[.int .u8 a.toNat])):Own w B v (x++[a]):=by
  unfold Own;rw[show(x++[a]).length=x.length+1 by simp,show(x++[a]).map u8v=x.map u8v++[.int .u8 a.toNat] by simp[u8v]];exact h
end Go.Proofs.YtiabacnmmojfjaaGreatDoor
