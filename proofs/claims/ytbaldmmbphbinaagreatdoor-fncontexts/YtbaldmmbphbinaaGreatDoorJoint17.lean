import Derived.Test.YtbaldmmbphbinaaGreatDoorJoint14
import Derived.Test.YtbaldmmbphbinaaGreatDoorJoint8
import Derived.Test.YtbaldmmbphbinaaGreatDoorJoint2
namespace Go.Proofs.YtbaldmmbphbinaaGreatDoor
open Go.RowKit
def okC (c:zH):Bool:=inB c.1 1 99&&inB c.2.1 1 9&&inB c.2.2 0 9999
def zC:zH:=(0,0,0)
def hasC (l:List zH) (id:Int):Bool:=l.any fun c=>c.1==id
def atC (l:List zH) (id:Int):Option zH:=l.find? fun c=>c.1==id
def foC (l:List zH) (id:Int):zH:=(atC l id).getD zC
def cgC:List zH→List zH→Int
  | _,[]=>0
  | s,c :: t=>if okC c then (if hasC s c.1 then 6 else cgC (s++[c]) t) else 3
def ctC (l:List zH):Int:=if l.length≤8 then cgC [] l else 2
theorem zBc {c:zH} (h:okC c=true):1≤c.1∧c.1≤99∧1≤c.2.1∧c.2.1≤9∧0≤c.2.2∧c.2.2≤9999:=by
  simp only[okC,inB,Bool.and_eq_true,decide_eq_true_eq] at h;omega
theorem zMi {c:zH} (h1:1≤c.1) (h2:c.1≤99) (h3:1≤c.2.1) (h4:c.2.1≤9) (h5:0≤c.2.2) (h6:c.2.2≤9999):okC c=true:=by
  simp only[okC,inB,Bool.and_eq_true,decide_eq_true_eq];omega
theorem zGB {l:List zH} {k:Nat} {a:zH} {id:Int} (h:l[k]?=some a):hasC (l.take (k+1)) id=(hasC (l.take k) id || (a.1==id)):=by
  rw[List.take_add_one,h];simp[hasC]
theorem zGC (id:Int) (l:List zH):hasC (l.take 0) id=false:=by simp[hasC]
theorem zLI {l:List zH} {k:Nat} {a:zH} {id:Int} (h:l[k]?=some a) (hn:hasC (l.take k) id=false) (he:a.1=id):foC l id=a:=by
  have e:l=l.take k++a :: l.drop (k+1):=by rw[← zBI h,List.take_append_drop]
  have h2:(l.take k).find? (fun c=>c.1==id)=none:=by
    rw[List.find?_eq_none];intro x hx;have:=hn;simp only[hasC,List.any_eq_false] at this;exact this x hx
  unfold foC atC
  conv=>lhs;rw[e]
  rw[List.find?_append,h2];simp[he]
theorem zGo {l:List zH} {k:Nat} {a:zH} {id:Int} (h:l[k]?=some a) (he:a.1=id):hasC l id=true:=by
  simp only[hasC,List.any_eq_true];exact⟨a,List.mem_of_getElem? h,by simpa using he⟩
theorem zHL {l:List zH} {id:Int} (h:hasC l id=false):foC l id=zC:=by
  have h2:l.find? (fun c=>c.1==id)=none:=by
    rw[List.find?_eq_none];intro x hx;simp only[hasC,List.any_eq_false] at h;exact h x hx
  unfold foC atC;rw[h2];rfl
theorem zJL {l:List zH} {id:Int} (h:hasC l id=true):∃ k:Nat,l[k]?=some (foC l id)∧(foC l id).1=id:=by
  cases hf:l.find? (fun c=>c.1==id) with
  | none=>
    rw[List.find?_eq_none] at hf;simp only[hasC,List.any_eq_true] at h;obtain⟨x,hx,hx2⟩:=h;exact absurd hx2 (hf x hx)
  | some c=>
    have h1:=List.find?_some hf;obtain⟨k,hk⟩:=List.mem_iff_getElem?.1 (List.mem_of_find?_eq_some hf)
    have e:foC l id=c:=by unfold foC atC;rw[hf];rfl
    rw[e];exact⟨k,hk,by simpa using h1⟩
theorem zHM {l:List zH} {k:Nat} {a:zH} (h:l[k]?=some a) (ho:okC a=true) (hn:hasC (l.take k) a.1=false):cgC (l.take k) (l.drop k)=cgC (l.take (k+1)) (l.drop (k+1)):=by
  rw[zBI h,cgC,if_pos ho,if_neg (by rw[hn];simp),List.take_add_one,h];rfl
theorem zJM {l:List zH} {k:Nat} {a:zH} (h:l[k]?=some a) (ho:okC a=false):cgC (l.take k) (l.drop k)=3:=by
  rw[zBI h,cgC,if_neg (by rw[ho];simp)]
theorem zGD {l:List zH} {k:Nat} {a:zH} (h:l[k]?=some a) (ho:okC a=true) (hn:hasC (l.take k) a.1=true):cgC (l.take k) (l.drop k)=6:=by
  rw[zBI h,cgC,if_pos ho,if_pos hn]
theorem zJN (l:List zH):cgC (l.take l.length) (l.drop l.length)=0:=by rw[List.drop_length];rfl
theorem zJO:∀ (t s:List zH),cgC s t=0→∀ c∈t,okC c=true
  | [],_,_,c,hc=>by cases hc
  | a :: t,s,h,c,hc=>by
    rw[cgC] at h
    by_cases ha:okC a=true
    · rw[if_pos ha] at h
      by_cases hb:hasC s a.1=true
      · rw[if_pos hb] at h;cases h
      · rw[if_neg hb] at h;rcases List.mem_cons.1 hc with rfl | hc
        · exact ha
        · exact zJO t _ h c hc
    · rw[if_neg ha] at h;cases h
theorem zLz {l:List zH} (h:ctC l=0):∀ c∈l,okC c=true:=by
  unfold ctC at h
  by_cases hl:l.length≤8
  · rw[if_pos hl] at h;exact zJO l [] h
  · rw[if_neg hl] at h;cases h
def pcL (c:zH):List UInt8:=[UInt8.ofNat c.1.toNat,UInt8.ofNat c.2.1.toNat,UInt8.ofNat (c.2.2.toNat / 256),UInt8.ofNat c.2.2.toNat]
def pcD (c:zH):Int×List UInt8:=if okC c then (0,pcL c) else (3,[])
def rdC (a b c d:UInt8):zH:=(a.toNat,b.toNat,c.toNat*256+d.toNat)
def ucD:List UInt8→Int×zH
  | [a,b,c,d]=>if okC (rdC a b c d) then (0,rdC a b c d) else (5,zC)
  | _=>(5,zC)
theorem zFO {l:List UInt8} (h:l.length≠4):ucD l=(5,zC):=by
  match l,h with
  | [],_=>rfl
  | [_],_=>rfl
  | [_,_],_=>rfl
  | [_,_,_],_=>rfl
  | [_,_,_,_],h=>exact absurd rfl h
  | _ :: _ :: _ :: _ :: _ :: _,_=>rfl
theorem zGp {l:List UInt8} (h:l.length=4):∃ a b c d,l=[a,b,c,d]:=by
  match l,h with
  | [a,b,c,d],_=>exact⟨a,b,c,d,rfl⟩
theorem zKY {c:zH} (h:okC c=true):ucD (pcL c)=(0,c):=by
  obtain⟨a,b,d⟩:=c;have hp:=zBc h;simp only at hp
  have e:rdC (UInt8.ofNat a.toNat) (UInt8.ofNat b.toNat) (UInt8.ofNat (d.toNat / 256)) (UInt8.ofNat d.toNat)=(a,b,d):=by
    simp only[rdC,UInt8.toNat_ofNat',Prod.mk.injEq];omega
  show(if okC (rdC _ _ _ _) then _ else _)=_
  rw[e,if_pos h]
theorem zKZ {l:List UInt8} (h:(ucD l).1=0):okC (ucD l).2=true∧pcL (ucD l).2=l:=by
  by_cases h4:l.length=4
  · obtain⟨a,b,c,d,rfl⟩:=zGp h4
    have e:ucD [a,b,c,d]=if okC (rdC a b c d) then (0,rdC a b c d) else (5,zC):=rfl
    rw[e] at h ⊢;cases ho:okC (rdC a b c d)
    · rw[ho] at h;cases h
    · refine⟨ho,?_⟩;have ha:=a.toNat_lt;have hb:=b.toNat_lt;have hc:=c.toNat_lt;have hd:=d.toNat_lt
      have q:∀ (x:UInt8) (n:Nat),n % 256=x.toNat→UInt8.ofNat n=x:=fun x n hn=>by
        apply UInt8.toNat_inj.1;rw[UInt8.toNat_ofNat'];exact hn
      simp only[pcL,rdC,if_true,List.cons.injEq,and_true];refine⟨q _ _ (by omega),q _ _ (by omega),q _ _ (by omega),q _ _ (by omega)⟩
  · rw[zFO h4] at h;cases h
def sgO (s:zO):Int:=if inB s.1 1 99&&inB s.2.1 0 9 then (if is32 s.2.2 then 0 else 1) else 3
def sgF:List zO→Int
  | []=>0
  | s :: t=>if sgO s=0 then sgF t else sgO s
def sgC (l:List zO):Int:=if l.length≤40 then sgF l else 2
theorem zHN {l:List zO} {k:Nat} {a:zO} (h:l[k]?=some a) (h0:sgO a=0):sgF (l.drop k)=sgF (l.drop (k+1)):=by rw[zBI h,sgF,if_pos h0]
theorem zJP {l:List zO} {k:Nat} {a:zO} (h:l[k]?=some a) (h0:sgO a≠0):sgF (l.drop k)=sgO a:=by rw[zBI h,sgF,if_neg h0]
theorem zJQ (l:List zO):sgF (l.drop l.length)=0:=by rw[List.drop_length];rfl
theorem zJR:∀ {l:List zO},sgF l=0↔∀ s∈l,sgO s=0
  | []=>by simp[sgF]
  | a :: t=>by
    rw[sgF]
    by_cases ha:sgO a=0
    · rw[if_pos ha,zJR];simp[ha]
    · rw[if_neg ha];simp[ha]
theorem sgC_all {l:List zO}:sgC l=0↔l.length≤40∧∀ s∈l,sgO s=0:=by
  unfold sgC
  by_cases hl:l.length≤40
  · rw[if_pos hl,zJR];simp[hl]
  · rw[if_neg hl];simp[hl]
theorem zGE {s:zO} (h:sgO s=0):1≤s.1∧s.1≤99∧0≤s.2.1∧s.2.1≤9∧s.2.2.length=32:=by
  unfold sgO at h;cases h1:(inB s.1 1 99&&inB s.2.1 0 9)
  · rw[h1] at h;cases h
  · rw[h1,if_pos rfl] at h;cases h2:is32 s.2.2
    · rw[h2] at h;cases h
    · simp only[inB,Bool.and_eq_true,decide_eq_true_eq] at h1;simp only[is32,decide_eq_true_eq] at h2;omega
def lkB (leaked:List Int) (id:Int):Bool:=leaked.any fun x=>x==id
def swO (list:List zH) (leaked:List Int) (signs:List zO) (id by':Int) (d:List UInt8):Int:=
  if hasC list id then (if inB by' 0 9 then (if is32 d then (if decide ((foC list id).2.1=by') || lkB leaked id then (if signs.length<40 then 0 else 2) else 7) else 1) else 3) else 4
def swC (list:List zH) (leaked:List Int) (signs:List zO) (id by':Int) (d:List UInt8):Int:=
  if ctC list=0 then (if sgC signs=0 then swO list leaked signs id by' d else sgC signs) else ctC list
abbrev zGF:=Int×Int×List zO
def swD (list:List zH) (leaked:List Int) (signs:List zO) (id by':Int) (d:List UInt8):zGF:=
  if swC list leaked signs id by' d=0 then (0,signs.length,signs++[(id,by',d)]) else (swC list leaked signs id by' d,0,[])
def ckA (signs:List zO) (place id:Int) (d:List UInt8):Bool:=
  decide (0≤place)&&((signs[place.toNat]?).map fun s=>(s.1==id)&&decide (s.2.2=d)).getD false
def ckB (signs:List zO) (place id:Int) (d:List UInt8):Bool:=decide (sgC signs=0)&&ckA signs place id d
theorem zJS {signs:List zO} {k:Nat} {s:zO} (h:signs[k]?=some s) (id:Int) (d:List UInt8):ckA signs k id d=((s.1==id)&&decide (s.2.2=d)):=by
  unfold ckA;rw[Int.toNat_natCast,h];simp
theorem zGq {signs:List zO} {place:Int} (h:¬ (0≤place∧place<signs.length)) (id:Int) (d:List UInt8):ckA signs place id d=false:=by
  unfold ckA
  by_cases h0:0≤place
  · rw[List.getElem?_eq_none (by omega)];simp
  · simp[h0]
def zFP:List UInt8:=[97,117,116,104,32,99,108,105,101,110,116,32]
def zFQ:List UInt8:=[97,117,116,104,32,115,101,114,118,101,114,32]
def zD2:List UInt8:=[99,111,110,116,101,120,116]
def zFR:List UInt8:=[102,105,110,105,115,104]
def zB1 (r:Int):Bool:=decide (r=1) || decide (r=2)
def labN (r:Int) (fin:Bool):List UInt8:=(if r=2 then zFQ else zFP)++(if fin then zFR else zD2)
def kyN (x:List UInt8) (r:Int) (fin:Bool):List UInt8:=zBt x (labN r fin) [] 32
def akC (x:List UInt8) (r:Int):Int:=if is32 x then (if zB1 r then 0 else 3) else 1
def akD (x:List UInt8) (r:Int) (fin:Bool):Int×List UInt8:=if akC x r=0 then (0,kyN x r fin) else (akC x r,[])
def ctxB (c:List UInt8):Bool:=inB (c.length:Int) 1 20
def dgN (x:List UInt8) (r:Int) (ctx:List UInt8) (c:zH):List UInt8:=zX (kyN x r false++[UInt8.ofNat ctx.length]++ctx++pcL c)
def adC (x:List UInt8) (r:Int) (ctx:List UInt8) (c:zH):Int:=if akC x r=0 then (if ctxB ctx then (if okC c then 0 else 3) else 2) else akC x r
def adD (x:List UInt8) (r:Int) (ctx:List UInt8) (c:zH):Int×List UInt8:=if adC x r ctx c=0 then (0,dgN x r ctx c) else (adC x r ctx c,[])
def mcN (x:List UInt8) (r:Int) (ctx:List UInt8) (c:zH) (place:Int):List UInt8:=macN (kyN x r true) (dgN x r ctx c++[UInt8.ofNat place.toNat])
def mkBl (x:List UInt8) (r:Int) (ctx:List UInt8) (c:zH) (place:Int):List (List UInt8):=[ctx,pcL c,[UInt8.ofNat place.toNat],mcN x r ctx c place]
def mkN (x:List UInt8) (r:Int) (ctx:List UInt8) (c:zH) (place:Int):List UInt8:=zAQ (mkBl x r ctx c place)
def maC (x:List UInt8) (r:Int) (ctx:List UInt8) (c:zH) (place:Int):Int:=if adC x r ctx c=0 then (if inB place 0 39 then 0 else 3) else adC x r ctx c
def maD (x:List UInt8) (r:Int) (ctx:List UInt8) (c:zH) (place:Int):Int×List UInt8:=if maC x r ctx c place=0 then (0,mkN x r ctx c place) else (maC x r ctx c place,[])
def zeroA:zAq:=([],zC,0,[])
def a4:List (List UInt8)→Option zAq
  | [a,b,c,m]=>if ctxB a=true∧c.length=1∧m.length=32∧(ucD b).1=0 then some (a,(ucD b).2,(((c.getD 0 0).toNat:Nat):Int),m) else none
  | _=>none
def raR (data:List UInt8):Option zAq:=if data.length≤160 then (zAE data 0 []).bind a4 else none
def raD (data:List UInt8):Int×zAq:=match raR data with
  | some a=>(0,a)
  | none=>(5,zeroA)
theorem zKa (r:Int) (fin:Bool):(labN r fin).length≤19:=by
  unfold labN;split <;> cases fin <;> decide
theorem zFS (x:List UInt8) (r:Int) (fin:Bool):(kyN x r fin).length=32:=zEG _ _ _ _
theorem zCT (x:List UInt8) (r:Int) (ctx:List UInt8) (c:zH):(dgN x r ctx c).length=32:=zAZ _
theorem zFT (x:List UInt8) (r:Int) (ctx:List UInt8) (c:zH) (place:Int):(mcN x r ctx c place).length=32:=zB7 _ _
theorem zAP {c:List UInt8} (h:ctxB c=true):1≤c.length∧c.length≤20:=by
  simp only[ctxB,inB,decide_eq_true_eq] at h;omega
theorem zJT {x:List UInt8} {r:Int} {ctx:List UInt8} {c:zH} (h:adC x r ctx c=0):akC x r=0∧ctxB ctx=true∧okC c=true:=by
  unfold adC at h
  by_cases h1:akC x r=0
  · rw[if_pos h1] at h;cases h2:ctxB ctx
    · rw[h2] at h;cases h
    · rw[h2,if_pos rfl] at h;cases h3:okC c
      · rw[h3] at h;cases h
      · exact⟨h1,rfl,rfl⟩
  · rw[if_neg h1] at h;exact absurd h h1
theorem zFU (ctx:List UInt8) (c:zH) (z:UInt8) {m:List UInt8} (hm:m.length=32):(zAQ [ctx,pcL c,[z],m]).length=ctx.length+41:=by
  rw[zAy,zAy,zAy,zFk,List.length_append,List.length_append,List.length_append,zB4,zB4,zB4,zB4,hm];simp[pcL]
theorem zCx (x:List UInt8) (r:Int) (ctx:List UInt8) (c:zH) (place:Int):(mkN x r ctx c place).length=ctx.length+41:=by
  unfold mkN mkBl;exact zFU ctx c _ (zFT x r ctx c place)
theorem zL0 {ctx:List UInt8} {c:zH} {place:Int} {m:List UInt8} (h1:ctxB ctx=true) (h2:okC c=true) (h3:0≤place) (h4:place≤255) (hm:m.length=32):a4 [ctx,pcL c,[UInt8.ofNat place.toNat],m]=some (ctx,c,place,m):=by
  have e:(((([UInt8.ofNat place.toNat]:List UInt8).getD 0 0).toNat:Nat):Int)=place:=by
    show(((UInt8.ofNat place.toNat).toNat:Nat):Int)=_
    rw[UInt8.toNat_ofNat'];omega
  unfold a4;simp only;rw[zKY h2,e,if_pos ⟨h1,rfl,hm,rfl⟩]
theorem zKb {ctx:List UInt8} {c:zH} {place:Int} {m:List UInt8} (h1:ctxB ctx=true) (h2:okC c=true) (h3:0≤place) (h4:place≤255) (hm:m.length=32):raR (zAQ [ctx,pcL c,[UInt8.ofNat place.toNat],m])=some (ctx,c,place,m):=by
  have hc:=zAP h1
  have hs:=zEi [ctx,pcL c,[UInt8.ofNat place.toNat],m] [] [] (fun b hb=>by
    simp only[List.mem_cons,List.not_mem_nil,or_false] at hb;rcases hb with rfl | rfl | rfl | rfl
    · omega
    · simp[pcL]
    · simp
    · omega) (by simp)
  unfold raR;rw[if_pos (by rw[zFU _ _ _ hm];omega),show zAE (zAQ [ctx,pcL c,[UInt8.ofNat place.toNat],m]) 0 []=some [ctx,pcL c,[UInt8.ofNat place.toNat],m] from hs];exact zL0 h1 h2 h3 h4 hm
theorem zKc {x:List UInt8} {r:Int} {ctx:List UInt8} {c:zH} {place:Int} (h1:ctxB ctx=true) (h2:okC c=true) (h3:0≤place) (h4:place≤255):raR (mkN x r ctx c place)=some (ctx,c,place,mcN x r ctx c place):=by
  have h:=zKb h1 h2 h3 h4 (zFT x r ctx c place);unfold mkN mkBl;exact h
theorem zD3 {data:List UInt8} {a:zAq} (h:raR data=some a):ctxB a.1=true∧okC a.2.1=true∧0≤a.2.2.1∧a.2.2.1≤255∧a.2.2.2.length=32∧data.length≤160∧zAQ [a.1,pcL a.2.1,[UInt8.ofNat a.2.2.1.toNat],a.2.2.2]=data:=by
  unfold raR at h
  by_cases hl:data.length≤160
  · rw[if_pos hl] at h;cases hs:zAE data 0 [] with
    | none=>rw[hs] at h;cases h
    | some bl=>
      rw[hs] at h;have hb:=zEj data data.length 0 [] bl (by omega) (Nat.zero_le _) rfl (by decide) (fun b hb=>by cases hb) hs
      match bl,h with
      | [p,b,c,m],h=>
        have hu2:a4 [p,b,c,m]=some a:=h;unfold a4 at hu2;simp only at hu2
        by_cases hc:ctxB p=true∧c.length=1∧m.length=32∧(ucD b).1=0
        · rw[if_pos hc] at hu2;cases hu2;have hr:=zKZ hc.2.2.2
          have e2:[UInt8.ofNat ((((c.getD 0 0).toNat:Nat):Int)).toNat]=c:=by
            rw[Int.toNat_natCast,UInt8.ofNat_toNat]
            match c,hc.2.1 with
            | [x],_=>rfl
          refine⟨hc.1,hr.1,by show(0:Int)≤(((c.getD 0 0).toNat:Nat):Int);omega,by have:=(c.getD 0 0).toNat_lt;show(((c.getD 0 0).toNat:Nat):Int)≤255;omega,hc.2.2.1,hl,?_⟩;simp only;rw[hr.2,e2];exact hb.1
        · rw[if_neg hc] at hu2;cases hu2
      | [],h=>cases h
      | [_],h=>cases h
      | [_,_],h=>cases h
      | [_,_,_],h=>cases h
      | _ :: _ :: _ :: _ :: _ :: _,h=>cases h
  · rw[if_neg hl] at h;cases h
def hkC (x:List UInt8) (r:Int) (certs:List zH) (signs:List zO) (now:Int) (a:zAq):Int:=
  if hasC certs a.2.1.1=true∧foC certs a.2.1.1=a.2.1 then
    (if a.2.1.2.2<now then 9 else (if ckA signs a.2.2.1 a.2.1.1 (dgN x r a.1 a.2.1)=true∧a.2.2.2=mcN x r a.1 a.2.1 a.2.2.1 then 0 else 7))
  else 4
def caC (x:List UInt8) (r:Int) (certs:List zH) (signs:List zO) (now:Int) (data:List UInt8):Int:=
  if akC x r=0 then (if ctC certs=0 then (if sgC signs=0 then (if inB now 0 9999 then (match raR data with
    | some a=>hkC x r certs signs now a
    | none=>5) else 3) else sgC signs) else ctC certs) else akC x r
def caD (x:List UInt8) (r:Int) (certs:List zH) (signs:List zO) (now:Int) (data:List UInt8):Int×zAq:=
  if caC x r certs signs now data=0 then (0,(raR data).getD zeroA) else (caC x r certs signs now data,zeroA)
theorem zMj {x:List UInt8} {r:Int} {certs:List zH} {signs:List zO} {now:Int} {a:zAq} (h:hkC x r certs signs now a=0):
    hasC certs a.2.1.1=true∧foC certs a.2.1.1=a.2.1∧now≤a.2.1.2.2∧ckA signs a.2.2.1 a.2.1.1 (dgN x r a.1 a.2.1)=true∧a.2.2.2=mcN x r a.1 a.2.1 a.2.2.1:=by
  unfold hkC at h
  by_cases h1:hasC certs a.2.1.1=true∧foC certs a.2.1.1=a.2.1
  · rw[if_pos h1] at h
    by_cases h2:a.2.1.2.2<now
    · rw[if_pos h2] at h;cases h
    · rw[if_neg h2] at h
      by_cases h3:ckA signs a.2.2.1 a.2.1.1 (dgN x r a.1 a.2.1)=true∧a.2.2.2=mcN x r a.1 a.2.1 a.2.2.1
      · exact⟨h1.1,h1.2,by omega,h3.1,h3.2⟩
      · rw[if_neg h3] at h;cases h
  · rw[if_neg h1] at h;cases h
end Go.Proofs.YtbaldmmbphbinaaGreatDoor
