import Derived.Test.YtbaldmmbphbinaaGreatDoorJoint1
namespace Go.Proofs.YtbaldmmbphbinaaGreatDoor
open Go.RowKit
def zBi (k:Int) (n:Nat):Int:=if inB k 0 255 then (if n≤160 then 0 else 2) else 3
def zNA (k:Int) (b:List UInt8):List UInt8:=zBd k :: (putB b.length 3++b)
def zNB (l:List (Int×List UInt8)):List UInt8:=l.flatMap fun a=>zNA a.1 a.2
theorem zGb {k:Int} {n:Nat} (h:zBi k n=0):inB k 0 255=true∧n≤160:=by
  unfold zBi at h;split at h
  · rename_i h1;split at h
    · rename_i h2;exact⟨h1,h2⟩
    · cases h
  · cases h
def zJ5 (data:List UInt8) (at_:Nat):Nat:=getB ((data.drop (at_+1)).take 3)
def zMc (data:List UInt8) (at_:Nat):List UInt8:=(data.drop (at_+4)).take (zJ5 data at_)
def zNC (data:List UInt8) (at_:Nat):Int×List UInt8:=(at8 data at_,zMc data at_)
def zLZ (data:List UInt8) (at_:Nat) (out:List (Int×List UInt8)):Int×Int×List (Int×List UInt8):=
  if at_<data.length then
    if data.length-at_<4 then (5,at_,[])
    else if 160<zJ5 data at_∨12≤out.length then (2,at_,[])
    else if data.length-at_-4<zJ5 data at_ then (5,at_,[])
    else zLZ data (at_+4+zJ5 data at_) (out++[zNC data at_])
  else (0,0,out)
termination_by data.length-at_
theorem zIb {α:Type} (xs ys:List α) (n:Nat):(xs++ys).drop (xs.length+n)=ys.drop n:=by
  rw[← List.drop_drop,List.drop_left]
def blkW (b:List UInt8):List UInt8:=zBd (b.length:Int) :: b
def zAQ (l:List (List UInt8)):List UInt8:=l.flatMap blkW
theorem zB4 (b:List UInt8):(blkW b).length=b.length+1:=by simp[blkW]
theorem zCH (l r:List (List UInt8)):zAQ (l++r)=zAQ l++zAQ r:=by simp[zAQ]
theorem zAy (b:List UInt8) (l:List (List UInt8)):zAQ (b :: l)=blkW b++zAQ l:=by simp[zAQ]
theorem zFk (b:List UInt8):zAQ [b]=blkW b:=by simp[zAQ]
theorem zHw {l:List (List UInt8)} {k:Nat} {b:List UInt8} (h:l[k]?=some b):zAQ (l.take (k+1))=zAQ (l.take k)++blkW b:=by
  rw[List.take_add_one,h,zCH];simp[zAQ]
theorem zJ6 (l:List (List UInt8)) (k:Nat):(zAQ (l.take k)).length≤(zAQ l).length:=by
  conv=>rhs;rw[← List.take_append_drop k l,zCH,List.length_append]
  omega
def okBl (l:List (List UInt8)):Bool:=l.all fun b=>decide (b.length≤120)
def pbC (l:List (List UInt8)):Int:=if l.length≤8∧okBl l=true∧(zAQ l).length≤160 then 0 else 2
def pbL (l:List (List UInt8)):List UInt8:=if pbC l=0 then zAQ l else []
def zY (data:List UInt8) (at_:Nat):Nat:=(data.getD at_ 0).toNat
def zAk (data:List UInt8) (at_:Nat):List UInt8:=(data.drop (at_+1)).take (zY data at_)
def zAE (data:List UInt8) (at_:Nat) (out:List (List UInt8)):Option (List (List UInt8)):=
  if at_<data.length then
    if 120<zY data at_∨8≤out.length∨data.length<at_+1+zY data at_ then none
    else zAE data (at_+1+zY data at_) (out++[zAk data at_])
  else some out
termination_by data.length-at_
theorem zBw {data:List UInt8} {at_:Nat} {out:List (List UInt8)} (h:¬ at_<data.length):zAE data at_ out=some out:=by rw[zAE,if_neg h]
theorem zB5 {data:List UInt8} {at_:Nat} {out:List (List UInt8)} (h:at_<data.length) (h2:120<zY data at_∨8≤out.length∨data.length<at_+1+zY data at_):zAE data at_ out=none:=by rw[zAE,if_pos h,if_pos h2]
theorem zB6 {data:List UInt8} {at_:Nat} {out:List (List UInt8)} (h:at_<data.length) (h2:¬ (120<zY data at_∨8≤out.length∨data.length<at_+1+zY data at_)):zAE data at_ out=zAE data (at_+1+zY data at_) (out++[zAk data at_]):=by
  conv=>lhs;rw[zAE,if_pos h,if_neg h2]
def ubC (data:List UInt8):Int:=if data.length≤160 then (if (zAE data 0 []).isSome then 0 else 5) else 2
def ubL (data:List UInt8):List (List UInt8):=if data.length≤160 then (zAE data 0 []).getD [] else []
theorem zFl (pre rest b:List UInt8) (hb:b.length≤120):zY (pre++(blkW b++rest)) pre.length=b.length:=by
  unfold zY blkW;rw[List.getD_eq_getElem?_getD,List.getElem?_append_right (Nat.le_refl _),Nat.sub_self,List.cons_append];simp only[List.getElem?_cons_zero,Option.getD_some];have:=zC2 (b.length:Int);omega
theorem zIc (pre rest b:List UInt8) (hb:b.length≤120):zAk (pre++(blkW b++rest)) pre.length=b:=by
  unfold zAk;rw[zFl pre rest b hb,zIb];unfold blkW;rw[List.cons_append,List.drop_succ_cons,List.drop_zero];exact List.take_left' rfl
theorem zEi:∀ (l:List (List UInt8)) (pre:List UInt8) (out:List (List UInt8)),(∀ b∈l,b.length≤120)→out.length+l.length≤8→zAE (pre++zAQ l) pre.length out=some (out++l)
  | [],pre,out,_,_=>by rw[zBw (by simp[zAQ]),List.append_nil]
  | b :: l,pre,out,hf,hl=>by
    have hb:=hf b List.mem_cons_self
    have hlen:(pre++zAQ (b :: l)).length=pre.length+(b.length+1)+(zAQ l).length:=by rw[zAy,List.length_append,List.length_append,zB4];omega
    have e1:zY (pre++zAQ (b :: l)) pre.length=b.length:=by rw[zAy];exact zFl pre _ b hb
    have e2:zAk (pre++zAQ (b :: l)) pre.length=b:=by rw[zAy];exact zIc pre _ b hb
    simp only[List.length_cons] at hl;rw[zB6 (by rw[hlen];omega) (by rw[hlen,e1];omega),e1,e2];have h:=zEi l (pre++blkW b) (out++[b]) (fun c hc=>hf c (List.mem_cons_of_mem _ hc)) (by rw[List.length_append,List.length_singleton];omega);rw[List.append_assoc,← zAy,List.length_append,zB4,show pre.length+(b.length+1)=pre.length+1+b.length by omega,List.append_assoc] at h;exact h
theorem zLa {data:List UInt8} {at_:Nat} (h:at_<data.length) (h3:¬ data.length<at_+1+zY data at_):blkW (zAk data at_)=(data.drop at_).take (1+zY data at_):=by
  have hb:(zAk data at_).length=zY data at_:=by unfold zAk;rw[List.length_take,List.length_drop];omega
  unfold blkW;rw[hb]
  have e2:zBd ((zY data at_:Nat):Int)=data[at_]:=by
    unfold zBd zY
    have e:data.getD at_ 0=data[at_]:=by simp[h]
    rw[e];have:=data[at_].toNat_lt;rw[show(((data[at_].toNat:Nat):Int) % 256).toNat=data[at_].toNat by omega,UInt8.ofNat_toNat]
  rw[e2];unfold zAk;have e3:data.drop at_=data[at_] :: data.drop (at_+1):=List.drop_eq_getElem_cons h;rw[e3,Nat.add_comm 1,List.take_succ_cons]
theorem zEj (data:List UInt8):∀ (m at_:Nat) (out r:List (List UInt8)),data.length-at_≤m→at_≤data.length→zAQ out=data.take at_→out.length≤8→(∀ b∈out,b.length≤120)→zAE data at_ out=some r→zAQ r=data∧r.length≤8∧∀ b∈r,b.length≤120
  | 0,at_,out,r,hm,hle,ho,hl,hf,hr=>by
    rw[zBw (by omega)] at hr;cases hr;exact⟨by rw[ho];exact List.take_of_length_le (by omega),hl,hf⟩
  | m+1,at_,out,r,hm,hle,ho,hl,hf,hr=>by
    by_cases h:at_<data.length
    · by_cases h2:120<zY data at_∨8≤out.length∨data.length<at_+1+zY data at_
      · rw[zB5 h h2] at hr;cases hr
      · rw[zB6 h h2] at hr;refine zEj data m _ _ r (by omega) (by omega) ?_ (by rw[List.length_append,List.length_singleton];omega) (fun b hb=>?_) hr
        · rw[zCH,zFk,zLa h (by omega),ho,Nat.add_assoc];exact(List.take_add (i:=at_) (j:=1+zY data at_) (l:=data)).symm
        · rcases List.mem_append.1 hb with h4 | h4
          · exact hf b h4
          · rw[List.mem_singleton.1 h4];unfold zAk;rw[List.length_take];omega
    · rw[zBw h] at hr;cases hr;exact⟨by rw[ho];exact List.take_of_length_le (by omega),hl,hf⟩
structure S8 where
  a:Nat
  b:Nat
  c:Nat
  d:Nat
  e:Nat
  f:Nat
  g:Nat
  h:Nat
def S8.list (s:S8):List Nat:=[s.a,s.b,s.c,s.d,s.e,s.f,s.g,s.h]
def S8.ok (s:S8):Prop:=s.a<4294967296∧s.b<4294967296∧s.c<4294967296∧s.d<4294967296∧s.e<4294967296∧s.f<4294967296∧s.g<4294967296∧s.h<4294967296
def rot3 (x i j k:Nat):Nat:=rotN x i ^^^ rotN x j ^^^ rotN x k
def sh2 (x i j k:Nat):Nat:=rotN x i ^^^ rotN x j ^^^ (x / 2 ^ k)
def chN (e f g:Nat):Nat:=(e &&& f) ^^^ ((4294967295-e) &&& g)
def majN (a b c:Nat):Nat:=(a &&& b) ^^^ (a &&& c) ^^^ (b &&& c)
def t1N (s:S8) (word key:Nat):Nat:=(s.h+rot3 s.e 6 11 25+chN s.e s.f s.g+key+word) % 4294967296
def t2N (s:S8):Nat:=(rot3 s.a 2 13 22+majN s.a s.b s.c) % 4294967296
def zBM (s:S8) (word key:Nat):S8:=
  ⟨(t1N s word key+t2N s) % 4294967296,s.a,s.b,s.c,(s.d+t1N s word key) % 4294967296,s.e,s.f,s.g⟩
theorem zAY {a b:Nat} (h:a<4294967296) (k:b<4294967296):a ^^^ b<4294967296:=Nat.xor_lt_two_pow (n:=32) h k
theorem zAF {a b:Nat} (h:a<4294967296):a &&& b<4294967296:=Nat.lt_of_le_of_lt Nat.and_le_left h
theorem zId {x i j k:Nat} (h:x<4294967296) (hi:i≤32) (hj:j≤32) (hk:k≤32):rot3 x i j k<4294967296:=
  zAY (zAY (zW x i h hi) (zW x j h hj)) (zW x k h hk)
theorem zLG {x i j k:Nat} (h:x<4294967296) (hi:i≤32) (hj:j≤32):sh2 x i j k<4294967296:=
  zAY (zAY (zW x i h hi) (zW x j h hj)) (Nat.lt_of_le_of_lt (Nat.div_le_self _ _) h)
theorem zMd {e f g:Nat} (h:e<4294967296):chN e f g<4294967296:=zAY (zAF h) (zAF (by omega))
theorem zLb {a b c:Nat} (h:a<4294967296) (k:b<4294967296):majN a b c<4294967296:=zAY (zAY (zAF h) (zAF h)) (zAF k)
theorem zA4 (x:Nat):x % 4294967296<4294967296:=Nat.mod_lt _ (by decide)
theorem zIe {s:S8} {word key:Nat} (h:s.ok):(zBM s word key).ok:=
  ⟨zA4 _,h.1,h.2.1,h.2.2.1,zA4 _,h.2.2.2.2.1,h.2.2.2.2.2.1,h.2.2.2.2.2.2.1⟩
def zEZ (bs:List UInt8) (i:Nat):Nat:=getB ((bs.drop (4*i)).take 4)
theorem zJ7 (bs:List UInt8) (i:Nat):zEZ bs i<4294967296:=
  Nat.lt_of_lt_of_le (zGa _) (Nat.le_trans (Nat.pow_le_pow_right (by decide) (List.length_take_le 4 _)) (by decide))
def zP (bs:List UInt8):List Nat:=(List.range 16).map (zEZ bs)
def zD6 (ws:List Nat):Nat:=(sh2 (ws.getD (ws.length-2) 0) 17 19 10+ws.getD (ws.length-7) 0+sh2 (ws.getD (ws.length-15) 0) 7 18 3+ws.getD (ws.length-16) 0) % 4294967296
def zAR (ws:List Nat):Nat→List Nat
  | 0=>ws
  | k+1=>zAR ws k++[zD6 (zAR ws k)]
def zAJ (bs:List UInt8):List Nat:=zAR (zP bs) 48
theorem zD7 (ws:List Nat) (k:Nat):(zAR ws k).length=ws.length+k:=by
  induction k with
  | zero=>rfl
  | succ k ih=>simp[zAR,ih];omega
theorem zA9 (bs:List UInt8):(zP bs).length=16:=by simp[zP]
theorem zAl (bs:List UInt8):(zAJ bs).length=64:=by rw[zAJ,zD7,zA9]
def Words (ws:List Nat):Prop:=∀ x∈ws,x<4294967296
theorem Words.getD {ws:List Nat} (h:Words ws) (i:Nat):ws.getD i 0<4294967296:=by
  rw[List.getD_eq_getElem?_getD];cases e:ws[i]? with
  | none=>simp
  | some x=>simpa using h x (List.mem_of_getElem? e)
theorem Words.append {a b:List Nat} (h:Words a) (k:Words b):Words (a++b):=fun x hx=>(List.mem_append.1 hx).elim (h x) (k x)
theorem zDL (bs:List UInt8):Words (zP bs):=fun x hx=>by
  obtain⟨i,-,rfl⟩:=List.mem_map.1 hx;exact zJ7 bs i
theorem zE8 {ws:List Nat} (h:Words ws) (k:Nat):Words (zAR ws k):=by
  induction k with
  | zero=>exact h
  | succ k ih=>exact ih.append (fun x hx=>by rw[List.mem_singleton.1 hx];exact zA4 _)
theorem zHx (bs:List UInt8):Words (zAJ bs):=zE8 (zDL bs) 48
def gap (n:Nat):Nat:=(119-n % 64) % 64
def padN (bs:List UInt8):List UInt8:=bs++128 :: (zs (gap bs.length)++putB (8*bs.length) 8)
theorem zDu (bs:List UInt8):(padN bs).length=bs.length+9+gap bs.length:=by simp[padN,zA3,zZ];omega
theorem zBx (bs:List UInt8):(padN bs).length=(bs.length+72) / 64*64:=by rw[zDu];unfold gap;omega
def keysN:List Nat:=[0x428a2f98,0x71374491,0xb5c0fbcf,0xe9b5dba5,0x3956c25b,0x59f111f1,0x923f82a4,0xab1c5ed5,0xd807aa98,0x12835b01,0x243185be,0x550c7dc3,0x72be5d74,0x80deb1fe,0x9bdc06a7,0xc19bf174,0xe49b69c1,0xefbe4786,0x0fc19dc6,0x240ca1cc,0x2de92c6f,0x4a7484aa,0x5cb0a9dc,0x76f988da,0x983e5152,0xa831c66d,0xb00327c8,0xbf597fc7,0xc6e00bf3,0xd5a79147,0x06ca6351,0x14292967,0x27b70a85,0x2e1b2138,0x4d2c6dfc,0x53380d13,0x650a7354,0x766a0abb,0x81c2c92e,0x92722c85,0xa2bfe8a1,0xa81a664b,0xc24b8b70,0xc76c51a3,0xd192e819,0xd6990624,0xf40e3585,0x106aa070,0x19a4c116,0x1e376c08,0x2748774c,0x34b0bcb5,0x391c0cb3,0x4ed8aa4a,0x5b9cca4f,0x682e6ff3,0x748f82ee,0x78a5636f,0x84c87814,0x8cc70208,0x90befffa,0xa4506ceb,0xbef9a3f7,0xc67178f2]
def startN:S8:=⟨0x6a09e667,0xbb67ae85,0x3c6ef372,0xa54ff53a,0x510e527f,0x9b05688c,0x1f83d9ab,0x5be0cd19⟩
theorem zIf:startN.ok:=by unfold S8.ok startN;decide
theorem keysN_ok:Words keysN:=by unfold Words keysN;decide
def zAK (ws:List Nat) (s:S8):Nat→S8
  | 0=>s
  | k+1=>zBM (zAK ws s k) (ws.getD k 0) (keysN.getD k 0)
theorem zCZ (ws:List Nat) {s:S8} (h:s.ok) (k:Nat):(zAK ws s k).ok:=by
  induction k with
  | zero=>exact h
  | succ k ih=>exact zIe ih
def addS (s t:S8):S8:=⟨(s.a+t.a) % 4294967296,(s.b+t.b) % 4294967296,(s.c+t.c) % 4294967296,(s.d+t.d) % 4294967296,(s.e+t.e) % 4294967296,(s.f+t.f) % 4294967296,(s.g+t.g) % 4294967296,(s.h+t.h) % 4294967296⟩
theorem zLc (s t:S8):(addS s t).ok:=⟨zA4 _,zA4 _,zA4 _,zA4 _,zA4 _,zA4 _,zA4 _,zA4 _⟩
def zCI (s:S8) (bs:List UInt8):S8:=addS s (zAK (zAJ bs) s 64)
def zAL (bs:List UInt8):Nat→S8
  | 0=>startN
  | k+1=>zCI (zAL bs k) ((bs.drop (64*k)).take 64)
theorem zCa (bs:List UInt8) (k:Nat):(zAL bs k).ok:=by
  cases k with
  | zero=>exact zIf
  | succ k=>exact zLc _ _
def zDd (s:S8):List UInt8:=putB s.a 4++putB s.b 4++putB s.c 4++putB s.d 4++putB s.e 4++putB s.f 4++putB s.g 4++putB s.h 4
theorem zEk (s:S8):(zDd s).length=32:=by simp[zDd,zZ]
def zX (bs:List UInt8):List UInt8:=zDd (zAL (padN bs) ((bs.length+72) / 64))
theorem zAZ (bs:List UInt8):(zX bs).length=32:=zEk _
def i64v (n:Nat):Value:=.int .i64 (n:Int)
def u32v (n:Nat):Value:=.int .u32 (n:Int)
def S8.i64 (s:S8):Array Value:=#[.int .i64 (s.a:Int),.int .i64 (s.b:Int),.int .i64 (s.c:Int),.int .i64 (s.d:Int),.int .i64 (s.e:Int),.int .i64 (s.f:Int),.int .i64 (s.g:Int),.int .i64 (s.h:Int)]
def S8.u32 (s:S8):Array Value:=#[.int .u32 (s.a:Int),.int .u32 (s.b:Int),.int .u32 (s.c:Int),.int .u32 (s.d:Int),.int .u32 (s.e:Int),.int .u32 (s.f:Int),.int .u32 (s.g:Int),.int .u32 (s.h:Int)]
def zCF (key:List UInt8) (x:UInt8):List UInt8:=(key++zs (64-key.length)).map (· ^^^ x)
theorem zCb {key:List UInt8} (x:UInt8) (h:key.length≤64):(zCF key x).length=64:=by simp[zCF,zA3];omega
def macN (key data:List UInt8):List UInt8:=zX (zCF key 92++zX (zCF key 54++data))
theorem zB7 (key data:List UInt8):(macN key data).length=32:=zAZ _
def zND (salt:List UInt8):List UInt8:=if salt.length=0 then zs 32 else salt
def zE9 (salt data:List UInt8):List UInt8:=macN (zND salt) data
def zA7 (key info:List UInt8):Nat→List UInt8
  | 0=>[]
  | i+1=>macN key (zA7 key info i++info++[UInt8.ofNat (i+1)])
def outN (key info:List UInt8):Nat→List UInt8
  | 0=>[]
  | i+1=>outN key info i++zA7 key info (i+1)
theorem zFm (key info:List UInt8) (i:Nat):(zA7 key info i).length≤32:=by
  cases i with
  | zero=>simp[zA7]
  | succ i=>exact Nat.le_of_eq (zB7 _ _)
theorem zDM (key info:List UInt8) (i:Nat):zA7 key info (i+1)=macN key (zA7 key info i++info++[UInt8.ofNat (i+1)]):=rfl
theorem zCc (key info:List UInt8) (i:Nat):(outN key info i).length=32*i:=by
  induction i with
  | zero=>rfl
  | succ i ih=>rw[outN,List.length_append,ih,zDM,zB7];omega
def zAx (key info:List UInt8) (n:Nat):List UInt8:=(outN key info ((n+31) / 32)).take n
theorem zD8 (key info:List UInt8) (n:Nat):(zAx key info n).length=n:=by
  rw[zAx,List.length_take,zCc];omega
theorem zIg (key info:List UInt8) (i j:Nat) (h:i≤j):(outN key info j).take (32*i)=outN key info i:=by
  induction j with
  | zero => have:i=0:=by omega
            subst this;rfl
  | succ j ih=>
    by_cases e:i=j+1
    · subst e;rw[List.take_of_length_le (by rw[zCc];exact Nat.le_refl _)]
    · rw[outN,List.take_append_of_le_length (by rw[zCc];omega)];exact ih (by omega)
def zAa (l:List UInt8):Bool:=l.all (fun b=>decide (32≤b.toNat)&&decide (b.toNat≤126))&&decide (1≤l.length)&&decide (l.length≤40)
def zBy:List UInt8:=[116,108,115,49,51,32]
def zAi (l ctx:List UInt8) (n:Nat):List UInt8:=putB n 2++UInt8.ofNat (6+l.length) :: (zBy++l++UInt8.ofNat ctx.length :: ctx)
theorem zEl (l ctx:List UInt8) (n:Nat):(zAi l ctx n).length=l.length+ctx.length+10:=by simp[zAi,zZ,zBy];omega
def i64z (z:Int):Value:=.int .i64 z
def atI (l:List Int) (i:Nat):Int:=l.getD i 0
theorem zLd {l:List Int} {i:Nat} (h:i<l.length):(l.map i64z)[i]?=some (.int .i64 (atI l i)):=by simp[i64z,atI,h]
def RdI (w:World) (a:Option Addr) (cap:Nat) (l:List Int):Prop:=
  l.length≤cap∧cap≤maxLen∧(a=none→cap=0)∧(0<l.length→∃ b o,a=some ⟨b,o,none⟩∧∀ i,i<l.length→w.cell? ⟨b,o+i,none⟩=some (.int .i64 (atI l i)))
def OwnI (w:World) (B:Nat) (v:Value) (l:List Int):Prop:=w.ownsRow B 2 1 v l.length (l.map i64z)
theorem OwnI.rd {w:World} {B:Nat} {v:Value} {l:List Int} (h:OwnI w B v l):∃ a cap,v=.slice a l.length cap∧RdI w a cap l:=by
  have h0:=h;rcases h.2 with ⟨rfl,hn⟩ | ⟨g,cap,cur,rfl,hb,hg,hle,hm,hs,ht⟩
  · exact⟨none,0,by rw[hn],by omega,by simp[maxLen],fun _=>rfl,fun hp=>by omega⟩
  · refine⟨_,cap,rfl,hle,hm,fun hh=>by simp at hh,fun _=>⟨g,0,rfl,fun i hi=>?_⟩⟩;have:=World.ownsRow.cellAt h0 i (by omega);rw[Nat.zero_add,this,zLd hi]
theorem RdI.keep {w w':World} {a:Option Addr} {cap:Nat} {l:List Int} (h:RdI w a cap l) (hb:Below w.heap.size w w'):RdI w' a cap l:=by
  obtain⟨h1,h2,h3,h4⟩:=h;refine⟨h1,h2,h3,fun hp=>?_⟩;obtain⟨b,o,rfl,hc⟩:=h4 hp;refine⟨b,o,rfl,fun i hi=>?_⟩;have hi':=hc i hi;rw[hb.cell (p:=⟨b,o+i,none⟩) (World.block_lt_of_cell? w _ hi'),hi']
theorem OwnI.keep {w w':World} {B N:Nat} {v:Value} {l:List Int} (h:OwnI w B v l) (hb:Below N w w') (hn:∀ k,v.ownBlock=some k→k<N):OwnI w' B v l:=by
  obtain⟨h1,h2⟩:=h;refine⟨h1,?_⟩;rcases h2 with h2 | ⟨g,cap,cur,rfl,hg,hh,r⟩
  · exact .inl h2
  · exact .inr ⟨g,cap,cur,rfl,hg,(hb.block g (hn g rfl)).trans hh,r⟩
theorem OwnI.stay {w w':World} {B:Nat} {v:Value} {l:List Int} (h:OwnI w B v l) (hb:Below w.heap.size w w'):OwnI w' B v l:=
  h.keep hb (fun k hk=>(World.ownsRow.lt h k hk).2)
theorem OwnI.set {w:World} {B:Nat} {v:Value} {l:List Int} (h:OwnI w B v l) {a:Addr} (ha:a.block<B) (u:Value):OwnI (w.setCell a u) B v l:=
  ownsRow_setCell_below h ha u
theorem OwnI.lower {w:World} {B B':Nat} {v:Value} {l:List Int} (h:OwnI w B v l) (hb:B'≤B):OwnI w B' v l:=by
  obtain⟨h1,h2⟩:=h;refine⟨h1,?_⟩;rcases h2 with h2 | ⟨g,cap,cur,rfl,hg,r⟩
  · exact .inl h2
  · exact .inr ⟨g,cap,cur,rfl,by omega,r⟩
theorem OwnI.lt {w:World} {B:Nat} {v:Value} {l:List Int} (h:OwnI w B v l):∀ k,v.ownBlock=some k→k<w.heap.size:=fun k hk=>(World.ownsRow.lt h k hk).2
theorem OwnI.ge {w:World} {B:Nat} {v:Value} {l:List Int} (h:OwnI w B v l):∀ k,v.ownBlock=some k→B≤k:=fun k hk=>(World.ownsRow.lt h k hk).1
theorem RdI.own {w:World} {B:Nat} {a:Option Addr} {n cap:Nat} {l:List Int} (h:OwnI w B (.slice a n cap) l):RdI w a cap l:=by
  obtain⟨a',cap',e,hr⟩:=h.rd;simp only[Value.slice.injEq] at e;obtain⟨rfl,-,rfl⟩:=e;exact hr
theorem OwnI.other {w w':World} {B:Nat} {v:Value} {l:List Int} {row:Option Nat} (h:OwnI w B v l) (hg:w.grownBy w' row) (hne:∀ k,v.ownBlock=some k→row≠some k):OwnI w' B v l:=by
  obtain⟨h1,h2⟩:=h;refine⟨h1,?_⟩;rcases h2 with h2 | ⟨g,cap,cur,rfl,hb,hh,r⟩
  · exact .inl h2
  · exact .inr ⟨g,cap,cur,rfl,hb,(hg.block g (Array.getElem?_eq_some_iff.1 hh).1 (fun e=>hne g rfl e.symm)).trans hh,r⟩
end Go.Proofs.YtbaldmmbphbinaaGreatDoor
