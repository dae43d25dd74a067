import Derived.Test.YtiabacnmmojfjabGreatDoorJoint1
import Derived.Test.YtiabacnmmojfjabGreatDoorJoint14
import Derived.Test.YtiabacnmmojfjabGreatDoorJoint3
import Derived.Test.YtiabacnmmojfjabGreatDoorJoint7
import Derived.Test.YtiabacnmmojfjabGreatDoorJoint8
import Derived.Test.YtiabacnmmojfjabGreatDoorEndResultC
import Derived.Test.YtiabacnmmojfjabGreatDoorPairResultC
namespace Go.Proofs.YtiabacnmmojfjabGreatDoor
open Go.RowKit
def hfC (h:zX):Int:=if h.1.length=8 then (if inB h.2.1 1 65520&&inB h.2.2 0 9 then 0 else 3) else 1
def hkB (k:Int):Bool:=decide (k=1) || decide (k=2)
def hpB (h:zX):List (List UInt8):=[h.1,putB h.2.1.toNat 2,[UInt8.ofNat h.2.2.toNat]]
def hpL (h:zX):List UInt8:=zA1 (hpB h)
def zB9:zX:=([],0,0)
def phC (k:Int) (h:zX):Int:=if hkB k then hfC h else 3
def phD (k:Int) (h:zX):zEg:=if phC k h=0 then (0,k,hpL h) else (phC k h,0,[])
def h3 (bl:List (List UInt8)):Option zX:=match bl with
  | [a,b,c]=>if b.length=2∧c.length=1∧hfC (a,((getB b:Nat):Int),(((c.getD 0 0).toNat:Nat):Int))=0 then some (a,((getB b:Nat):Int),(((c.getD 0 0).toNat:Nat):Int)) else none
  | _=>none
def huR (body:List UInt8):Option zX:=(zAg body 0 []).bind h3
def uhC (k:Int) (m:MsgD):Int:=if hkB k then (if zD m.1 m.2.length=0 then (if m.1=k then (if (huR m.2).isSome then 0 else 5) else 1) else zD m.1 m.2.length) else 3
def uhD (k:Int) (m:MsgD):zDL:=(uhC k m,if uhC k m=0 then (huR m.2).getD zB9 else zB9)
def trL (l:List MsgD):List UInt8:=if psC l=0 then zS (zE l) else []
def fmC (s:List UInt8) (l:List MsgD):Int:=if is32 s then psC l else 1
def fmL (s:List UInt8) (l:List MsgD):List UInt8:=finN s (zS (zE l))
def fmD (s:List UInt8) (l:List MsgD):zEg:=if fmC s l=0 then (0,20,fmL s l) else (fmC s l,0,[])
def cfC (s:List UInt8) (l:List MsgD) (m:MsgD):Int:=if fmC s l=0 then (if zD m.1 m.2.length=0 then (if m.1=20 then (if m.2=fmL s l then 0 else 7) else 1) else zD m.1 m.2.length) else fmC s l
theorem zK8 (bs:List UInt8) (h:bs.length=2):putB (getB bs) 2=bs:=by
  match bs,h with
  | [a,b],_=>
    have e:getB [a,b]=a.toNat*256+b.toNat:=by simp[getB]
    have ha:=a.toNat_lt;have hb:=b.toNat_lt;rw[show putB (getB [a,b]) 2=[UInt8.ofNat (getB [a,b] / 256 ^ 1 % 256),UInt8.ofNat (getB [a,b] / 256 ^ 0 % 256)] from rfl,e]
    have e1:(a.toNat*256+b.toNat) / 256 ^ 1 % 256=a.toNat:=by omega
    have e2:(a.toNat*256+b.toNat) / 256 ^ 0 % 256=b.toNat:=by omega
    rw[e1,e2,UInt8.ofNat_toNat,UInt8.ofNat_toNat]
theorem zK9 (n:Nat) (h:n<65536):getB (putB n 2)=n:=by
  rw[show putB n 2=[UInt8.ofNat (n / 256 ^ 1 % 256),UInt8.ofNat (n / 256 ^ 0 % 256)] from rfl];simp only[getB,List.foldl_cons,List.foldl_nil,UInt8.toNat_ofNat',Nat.pow_one,Nat.pow_zero,Nat.div_one];omega
theorem zBP {h:zX} (hc:hfC h=0):h.1.length=8∧1≤h.2.1∧h.2.1≤65520∧0≤h.2.2∧h.2.2≤9:=by
  unfold hfC at hc
  by_cases h1:h.1.length=8
  · rw[if_pos h1] at hc
    by_cases h2:(inB h.2.1 1 65520&&inB h.2.2 0 9)=true
    · have h3:(1≤h.2.1∧h.2.1≤65520)∧0≤h.2.2∧h.2.2≤9:=by simpa [inB] using h2
      exact⟨h1,h3.1.1,h3.1.2,h3.2.1,h3.2.2⟩
    · rw[if_neg h2] at hc;exact absurd hc (by decide)
  · rw[if_neg h1] at hc;exact absurd hc (by decide)
theorem zF0 {h:zX} (hc:hfC h=0):(hpL h).length=14:=by
  have h1:=(zBP hc).1;unfold hpL hpB;rw[zBl,zBl,zHY,List.length_append,List.length_append,zDY,zDY,zDY,zM,h1];rfl
theorem zNa {h:zX} (hc:hfC h=0):h3 (hpB h)=some h:=by
  obtain⟨p1,p2,p3,p4,p5⟩:=zBP hc
  have e1:((getB (putB h.2.1.toNat 2):Nat):Int)=h.2.1:=by rw[zK9 _ (by omega)];omega
  have e2:((([UInt8.ofNat h.2.2.toNat].getD 0 0).toNat:Nat):Int)=h.2.2:=by
    show(((UInt8.ofNat h.2.2.toNat).toNat:Nat):Int)=_
    rw[UInt8.toNat_ofNat'];omega
  unfold h3 hpB;simp only;rw[e1,e2,if_pos ⟨zM _ _,rfl,hc⟩]
theorem zL7 {h:zX} (hc:hfC h=0):huR (hpL h)=some h:=by
  obtain⟨p1,p2,p3,p4,p5⟩:=zBP hc
  have hs:=zGO (hpB h) [] [] (fun b hb=>by
    unfold hpB at hb;simp only[List.mem_cons,List.not_mem_nil,or_false] at hb;rcases hb with rfl | rfl | rfl
    · omega
    · rw[zM];decide
    · simp) (by simp[hpB])
  unfold huR;rw[show zAg (hpL h) 0 []=some (hpB h) from hs];exact zNa hc
theorem zJM {body:List UInt8} {h:zX} (hu:huR body=some h):hfC h=0∧hpL h=body:=by
  unfold huR at hu;cases hs:zAg body 0 [] with
  | none=>rw[hs] at hu;cases hu
  | some bl=>
    rw[hs] at hu;have hb:=zGP body body.length 0 [] bl (by omega) (Nat.zero_le _) rfl (by decide) (fun b hb=>by cases hb) hs
    match bl,hu with
    | [a,b,c],hu=>
      have hu2:h3 [a,b,c]=some h:=hu;unfold h3 at hu2;simp only at hu2
      by_cases hc:b.length=2∧c.length=1∧hfC (a,((getB b:Nat):Int),(((c.getD 0 0).toNat:Nat):Int))=0
      · rw[if_pos hc] at hu2;cases hu2;refine⟨hc.2.2,?_⟩
        have e1:putB (((getB b:Nat):Int)).toNat 2=b:=by rw[Int.toNat_natCast];exact zK8 b hc.1
        have e2:[UInt8.ofNat ((((c.getD 0 0).toNat:Nat):Int)).toNat]=c:=by
          rw[Int.toNat_natCast,UInt8.ofNat_toNat]
          match c,hc.2.1 with
          | [x],_=>rfl
        unfold hpL hpB;simp only;rw[e1,e2];exact hb.1
      · rw[if_neg hc] at hu2;cases hu2
    | [],hu=>cases hu
    | [_],hu=>cases hu
    | [_,_],hu=>cases hu
    | _ :: _ :: _ :: _ :: _,hu=>cases hu
def zeroS:zO:=(0,[],0,[])
def zeroX:zZ:=([],[],[],[])
def zLA:EndD:=(zeroS,0,0,[],[],zeroX)
def badE (c:Int):zAb:=(c,zLA,[])
def keyW (psk:Int):Nat:=if psk=0 then 0 else 32
def sfC (s:zO):Int:=if inB s.1 1 65519&&inB s.2.2.1 0 9 then (if s.2.1.length=8∧s.2.2.2.length=keyW s.2.2.1 then 0 else 1) else 3
def seB (x:zZ) (n:Nat):Bool:=decide (x.1.length=n)&&(decide (x.2.1.length=n)&&(decide (x.2.2.1.length=n)&&decide (x.2.2.2.length=n)))
def zBi (stage:Int):Nat:=if stage=3 then 32 else 0
def efC (e:EndD):Int:=
  if sfC e.1=0 then (if inB e.2.1 1 3&&inB e.2.2.1 0 2 then (if e.2.2.2.1.length≤4 then (if zAH e.2.2.2.1=0 then (if (e.2.2.2.2.1.length=0∨e.2.2.2.2.1.length=32)∧seB e.2.2.2.2.2 (zBi e.2.1)=true then 0 else 1) else zAH e.2.2.2.1) else 2) else 3) else sfC e.1
def zC5 (s:zO):Int:=((powN 17 s.1.toNat:Nat):Int)
def helH (s:zO) (psk:Int):zX:=(s.2.1,zC5 s,psk)
def helM (s:zO) (kind psk:Int):MsgD:=(kind,hpL (helH s psk))
def secN (s:zO) (share mode:Int):List UInt8:=zEp (zAp (if mode=2 then s.2.2.2 else [])) (putB (powN share.toNat s.1.toNat) 2)
def digM (l:List MsgD):List UInt8:=zS (zE l)
def finM (secret lab:List UInt8) (l:List MsgD):MsgD:=(20,finN (zAG secret lab (digM (l.take 2))) (digM l))
def sHsB:List UInt8:=[115,32,104,115,32,116,114,97,102,102,105,99]
def cHsB:List UInt8:=[99,32,104,115,32,116,114,97,102,102,105,99]
theorem zD2:(⟨#[115,32,104,115,32,116,114,97,102,102,105,99]⟩:ByteArray)=strB sHsB:=rfl
theorem zF1:(⟨#[99,32,104,115,32,116,114,97,102,102,105,99]⟩:ByteArray)=strB cHsB:=rfl
def zCT (base digest:List UInt8):zZ:=(zAG base cApB digest,zAG base sApB digest,zAG base zC8 digest,zAG base zC9 digest)
def zDO (s:zO) (mode:Int) (base:List UInt8) (l:List MsgD):EndD:=(s,3,mode,l,base,zCT base (digM (l.take 3)))
def stE (s:zO):zAb:=if sfC s=0 then (0,(s,1,0,[helM s 1 s.2.2.1],[],zeroX),[helM s 1 s.2.2.1]) else badE (sfC s)
def pskB (h:zX) (s:zO):Bool:=decide (h.2.2≠0)&&decide (h.2.2=s.2.2.1)
def zBp (h:zX) (s:zO):Int:=if pskB h s then 2 else 1
def zDm (h:zX) (s:zO):Int:=if pskB h s then s.2.2.1 else 0
def hcC (s:zO) (m:MsgD):Int:=if sfC s=0 then uhC 1 m else sfC s
def hcS (s:zO) (h:zX):List UInt8:=secN s h.2.1 (zBp h s)
def hcF (s:zO) (m:MsgD) (h:zX):MsgD:=finM (hcS s h) sHsB [m,helM s 2 (zDm h s)]
def hcE (s:zO) (m:MsgD):zAb:=
  if hcC s m=0 then (0,(s,2,zBp (uhD 1 m).2 s,[m,helM s 2 (zDm (uhD 1 m).2 s),hcF s m (uhD 1 m).2],zF (hcS s (uhD 1 m).2),zeroX),[helM s 2 (zDm (uhD 1 m).2 s),hcF s m (uhD 1 m).2])
  else badE (hcC s m)
def zD3 (h:zX):Int:=if h.2.2=0 then 1 else 2
def hvS (s:zO) (h:zX):List UInt8:=secN s h.2.1 (zD3 h)
def hvK (s:zO) (a b:MsgD) (h:zX):List UInt8:=zAG (hvS s h) sHsB (digM [a,b])
def hvC2 (s:zO) (a b c:MsgD):Int:=if uhC 2 b=0 then (if (uhD 2 b).2.2.2=0∨(uhD 2 b).2.2.2=s.2.2.1 then cfC (hvK s a b (uhD 2 b).2) [a,b] c else 8) else uhC 2 b
def hvF (s:zO) (a b c:MsgD):MsgD:=finM (hvS s (uhD 2 b).2) cHsB [a,b,c]
def hvE2 (s:zO) (a b c:MsgD):zAb:=
  if hvC2 s a b c=0 then (0,zDO s (zD3 (uhD 2 b).2) (zF (hvS s (uhD 2 b).2)) [a,b,c,hvF s a b c],[hvF s a b c]) else badE (hvC2 s a b c)
def zAR (l:List MsgD):MsgD:=l.headD (0,[])
def hvE (e:EndD) (l:List MsgD):zAb:=
  if efC e=0 then (if e.2.1=1∧e.2.2.2.1.length=1 then (if l.length=2 then hvE2 e.1 (zAR e.2.2.2.1) (zAR l) (zAR l.tail) else badE 1) else badE 8) else badE (efC e)
def hnS (e:EndD) (h:zX):List UInt8:=secN e.1 h.2.1 e.2.2.1
def hnK (e:EndD) (a b:MsgD) (h:zX):List UInt8:=zAG (hnS e h) cHsB (digM [a,b])
def hnC2 (e:EndD) (a b c m:MsgD):Int:=if uhC 1 a=0 then cfC (hnK e a b (uhD 1 a).2) [a,b,c] m else uhC 1 a
def hnE2 (e:EndD) (a b c m:MsgD):zAb:=
  if hnC2 e a b c m=0 then (0,zDO e.1 e.2.2.1 e.2.2.2.2.1 [a,b,c,m],[]) else badE (hnC2 e a b c m)
def hnE (e:EndD) (m:MsgD):zAb:=
  if efC e=0 then (if e.2.1=2∧e.2.2.2.1.length=3∧e.2.2.2.2.1.length≠0 then hnE2 e (zAR e.2.2.2.1) (zAR e.2.2.2.1.tail) (zAR e.2.2.2.1.tail.tail) m else badE 8) else badE (efC e)
def badP (c:Int):zAW:=(c,zLA,zLA)
def paD3 (c:zAb) (b:EndD):zAW:=if c.1=0 then (if (hnE b (zAR c.2.2)).1=0 then (0,c.2.1,(hnE b (zAR c.2.2)).2.1) else badP (hnE b (zAR c.2.2)).1) else badP c.1
def paD2 (a b:zAb):zAW:=if b.1=0 then paD3 (hvE a.2.1 b.2.2) b.2.1 else badP b.1
def paD (x y:zO):zAW:=if (stE x).1=0 then paD2 (stE x) (hcE y (zAR (stE x).2.2)) else badP (stE x).1
theorem zAu {s:zO} (h:sfC s=0):1≤s.1∧s.1≤65519∧0≤s.2.2.1∧s.2.2.1≤9∧s.2.1.length=8∧s.2.2.2.length=keyW s.2.2.1:=by
  unfold sfC at h
  by_cases h1:(inB s.1 1 65519&&inB s.2.2.1 0 9)=true
  · rw[if_pos h1] at h
    by_cases h2:s.2.1.length=8∧s.2.2.2.length=keyW s.2.2.1
    · have h3:(1≤s.1∧s.1≤65519)∧0≤s.2.2.1∧s.2.2.1≤9:=by simpa [inB] using h1
      exact⟨h3.1.1,h3.1.2,h3.2.1,h3.2.2,h2.1,h2.2⟩
    · rw[if_neg h2] at h;exact absurd h (by decide)
  · rw[if_neg h1] at h;exact absurd h (by decide)
theorem zLB {s:zO} (h:sfC s=0):1≤zC5 s∧zC5 s≤65520:=by
  have hp:=zAu h;have h1:=zGs 17 s.1.toNat;have h2:1≤powN 17 s.1.toNat:=zIv (by decide) (by decide) (by omega);unfold zC5;omega
theorem zHB {s:zO} {psk:Int} (h:sfC s=0) (h0:0≤psk) (h9:psk≤9):hfC (helH s psk)=0:=by
  have hp:=zAu h;have hs:=zLB h
  have e:(inB (helH s psk).2.1 1 65520&&inB (helH s psk).2.2 0 9)=true:=by
    show(inB (zC5 s) 1 65520&&inB psk 0 9)=true
    simp[inB,hs.1,hs.2,h0,h9]
  unfold hfC;rw[if_pos (show(helH s psk).1.length=8 from hp.2.2.2.2.1),if_pos e]
theorem zF2 {k:Int} {n:Nat} (h0:0≤k) (h1:k≤255) (hn:n≤160):zD k n=0:=by
  rw[zD,if_pos (by simp[inB,h0,h1]),if_pos hn]
theorem zHC {s:zO} {kind psk:Int} (h:sfC s=0) (h0:0≤psk) (h9:psk≤9):(helM s kind psk).2.length=14:=zF0 (zHB h h0 h9)
theorem zNb {s:zO} {kind psk:Int} (h:sfC s=0) (h0:0≤psk) (h9:psk≤9) (hk:kind=1∨kind=2):uhC kind (helM s kind psk)=0∧(uhD kind (helM s kind psk)).2=helH s psk:=by
  have hu:huR (helM s kind psk).2=some (helH s psk):=zL7 (zHB h h0 h9)
  have hkb:hkB kind=true:=by rcases hk with rfl | rfl <;> rfl
  have hw:zD (helM s kind psk).1 (helM s kind psk).2.length=0:=zF2 (by show 0≤kind;omega) (by show kind≤255;omega) (by rw[zHC h h0 h9];decide)
  have hc:uhC kind (helM s kind psk)=0:=by
    rw[uhC,if_pos hkb,if_pos hw,if_pos (show(helM s kind psk).1=kind from rfl),hu];rfl
  refine⟨hc,?_⟩;rw[uhD,if_pos hc,hu];rfl
theorem zBx {k:Int} {m:MsgD} (h:uhC k m=0):hkB k=true∧zD m.1 m.2.length=0∧m.1=k∧∃ x,huR m.2=some x∧(uhD k m).2=x∧hfC x=0∧m.2.length=14:=by
  have hc:=h;unfold uhC at h
  by_cases h1:hkB k=true
  · rw[if_pos h1] at h
    by_cases h2:zD m.1 m.2.length=0
    · rw[if_pos h2] at h
      by_cases h3:m.1=k
      · rw[if_pos h3] at h;cases hu:huR m.2 with
        | none=>rw[hu] at h;exact absurd h (by decide)
        | some x=>
          have hb:=zJM hu;refine⟨h1,h2,h3,x,rfl,?_,hb.1,?_⟩
          · rw[uhD,if_pos hc,hu];rfl
          · rw[← hb.2];exact zF0 hb.1
      · rw[if_neg h3] at h;exact absurd h (by decide)
    · rw[if_neg h2] at h;exact absurd h h2
  · rw[if_neg h1] at h;exact absurd h (by decide)
theorem zDP {l:List MsgD} (h:∀ a∈l,zD a.1 a.2.length=0):zAH l=0:=zCp fun _ _ hb=>h _ (List.mem_of_getElem? hb)
theorem zBH {l:List MsgD} (h:∀ a∈l,zD a.1 a.2.length=0):(zE l).length≤164*l.length:=by
  induction l with
  | nil=>simp[zE]
  | cons a l ih=>
    have h1:=(zAx (h a (List.mem_cons_self ..))).2
    have h2:=ih fun b hb=>h b (List.mem_cons_of_mem _ hb)
    rw[zB0,List.length_append,zDC,List.length_cons];omega
theorem zH3 {l:List MsgD} (h:∀ a∈l,zD a.1 a.2.length=0) (hl:l.length≤3):psC l=0:=by
  have h1:=zBH h;rw[psC,if_pos (by omega),if_pos (zDP h),if_pos (by omega)]
theorem zMp {l:List MsgD} (h:psC l=0):trL l=digM l:=by rw[trL,if_pos h];rfl
theorem zCa (l:List MsgD):(digM l).length=32:=zAz _
theorem zBy (s:zO) (a b:Int):(secN s a b).length=32:=zK0 _ _
theorem zGl (a b:List UInt8) (l:List MsgD):zD (finM a b l).1 (finM a b l).2.length=0:=zF2 (by show(0:Int)≤20;decide) (by show(20:Int)≤255;decide) (by rw[show(finM a b l).2.length=32 from zIs _ _];decide)
theorem zHD (a b:List UInt8) (l:List MsgD):(finM a b l).2.length=32:=zIs _ _
theorem zCz {sec:List UInt8} {l:List MsgD} {m:MsgD} (h:cfC sec l m=0):zD m.1 m.2.length=0∧m.1=20:=by
  unfold cfC at h
  by_cases h0:fmC sec l=0
  · rw[if_pos h0] at h
    by_cases h1:zD m.1 m.2.length=0
    · rw[if_pos h1] at h
      by_cases h2:m.1=20
      · exact⟨h1,h2⟩
      · rw[if_neg h2] at h;exact absurd h (by decide)
    · rw[if_neg h1] at h;exact absurd h h1
  · rw[if_neg h0] at h;exact absurd h h0
theorem zBI {e:EndD} (h:efC e=0):sfC e.1=0∧(1≤e.2.1∧e.2.1≤3)∧(0≤e.2.2.1∧e.2.2.1≤2)∧e.2.2.2.1.length≤4∧zAH e.2.2.2.1=0∧(e.2.2.2.2.1.length=0∨e.2.2.2.2.1.length=32)∧seB e.2.2.2.2.2 (zBi e.2.1)=true:=by
  unfold efC at h
  by_cases h0:sfC e.1=0
  · rw[if_pos h0] at h
    by_cases h1:(inB e.2.1 1 3&&inB e.2.2.1 0 2)=true
    · rw[if_pos h1] at h
      by_cases h2:e.2.2.2.1.length≤4
      · rw[if_pos h2] at h
        by_cases h3:zAH e.2.2.2.1=0
        · rw[if_pos h3] at h
          by_cases h4:(e.2.2.2.2.1.length=0∨e.2.2.2.2.1.length=32)∧seB e.2.2.2.2.2 (zBi e.2.1)=true
          · have h5:(1≤e.2.1∧e.2.1≤3)∧0≤e.2.2.1∧e.2.2.1≤2:=by simpa [inB] using h1
            exact⟨h0,h5.1,h5.2,h2,h3,h4.1,h4.2⟩
          · rw[if_neg h4] at h;exact absurd h (by decide)
        · rw[if_neg h3] at h;exact absurd h h3
      · rw[if_neg h2] at h;exact absurd h (by decide)
    · rw[if_neg h1] at h;exact absurd h (by decide)
  · rw[if_neg h0] at h;exact absurd h h0
theorem zNc {s:zO} {st mo:Int} {l:List MsgD} {b:List UInt8} {x:zZ} (h0:sfC s=0) (h1:1≤st∧st≤3) (h2:0≤mo∧mo≤2) (h3:l.length≤4) (h4:zAH l=0) (h5:b.length=0∨b.length=32) (h6:seB x (zBi st)=true):efC (s,st,mo,l,b,x)=0:=by
  unfold efC;rw[if_pos (show sfC (s,st,mo,l,b,x).1=0 from h0),if_pos (show(inB st 1 3&&inB mo 0 2)=true by simp[inB,h1,h2]),if_pos (show l.length≤4 from h3),if_pos (show zAH l=0 from h4),if_pos (show(b.length=0∨b.length=32)∧seB x (zBi st)=true from⟨h5,h6⟩)]
theorem zLC:seB zeroX 0=true:=rfl
theorem zNd (b d:List UInt8):seB (zCT b d) 32=true:=by simp[seB,zCT,zFw]
theorem zLD {s:zO} {mo:Int} {l:List MsgD} {b:List UInt8} (h0:sfC s=0) (h2:0≤mo∧mo≤2) (h3:l.length≤4) (h4:zAH l=0) (h5:b.length=0∨b.length=32):efC (zDO s mo b l)=0:=
  zNc h0 (by decide) h2 h3 h4 h5 (zNd _ _)
theorem zIY (h:zX) (s:zO):zBp h s=1∨zBp h s=2:=by unfold zBp;split <;> simp
theorem zIZ (h:zX):zD3 h=1∨zD3 h=2:=by unfold zD3;split <;> simp
theorem zHE {h:zX} {s:zO} (hs:sfC s=0):0≤zDm h s∧zDm h s≤9:=by
  have hp:=zAu hs;unfold zDm
  split <;> omega
theorem zL8 {s:zO} {m:MsgD} (h:hcC s m=0):sfC s=0∧uhC 1 m=0:=by
  unfold hcC at h
  by_cases h0:sfC s=0
  · rw[if_pos h0] at h;exact⟨h0,h⟩
  · rw[if_neg h0] at h;exact absurd h h0
theorem zDh {s:zO} {kind psk:Int} (h:sfC s=0) (h0:0≤psk) (h9:psk≤9) (hk:kind=1∨kind=2):zD (helM s kind psk).1 (helM s kind psk).2.length=0:=
  zF2 (by show 0≤kind;omega) (by show kind≤255;omega) (by rw[zHC h h0 h9];decide)
theorem zH4 {s:zO} (h:sfC s=0):stE s=(0,(s,1,0,[helM s 1 s.2.2.1],[],zeroX),[helM s 1 s.2.2.1]):=by rw[stE,if_pos h]
theorem zIa {s:zO} (h:¬ sfC s=0):stE s=badE (sfC s):=by rw[stE,if_neg h]
theorem zER (s:zO):(stE s).1=sfC s:=by
  by_cases h:sfC s=0
  · rw[zH4 h];exact h.symm
  · rw[zIa h];rfl
theorem zJN {s:zO} {m:MsgD} (h:hcC s m=0):hcE s m=(0,(s,2,zBp (uhD 1 m).2 s,[m,helM s 2 (zDm (uhD 1 m).2 s),hcF s m (uhD 1 m).2],zF (hcS s (uhD 1 m).2),zeroX),[helM s 2 (zDm (uhD 1 m).2 s),hcF s m (uhD 1 m).2]):=by rw[hcE,if_pos h]
theorem zF3 {s:zO} {m:MsgD} (h:¬ hcC s m=0):hcE s m=badE (hcC s m):=by rw[hcE,if_neg h]
theorem zJO (s:zO) (m:MsgD):(hcE s m).1=hcC s m:=by
  by_cases h:hcC s m=0
  · rw[zJN h];exact h.symm
  · rw[zF3 h];rfl
theorem zNe {s:zO} {m:MsgD} (h:hcC s m=0):efC (hcE s m).2.1=0:=by
  obtain⟨h0,h1⟩:=zL8 h;obtain⟨-,hf,-⟩:=zBx h1;have hp:=zHE (h:=(uhD 1 m).2) h0;rw[zJN h];refine zNc h0 (by decide) (by rcases zIY (uhD 1 m).2 s with h | h <;> rw[h] <;> decide) (by simp) (zDP fun a ha=>?_) (.inr (zA0 _)) zLC;simp only[List.mem_cons,List.not_mem_nil,or_false] at ha;rcases ha with rfl | rfl | rfl
  · exact hf
  · exact zDh h0 hp.1 hp.2 (.inr rfl)
  · exact zGl _ _ _
theorem zHF {e:EndD} {l:List MsgD} (h:¬ efC e=0):hvE e l=badE (efC e):=by rw[hvE,if_neg h]
theorem zCm {e:EndD} {l:List MsgD} (h:efC e=0) (hs:¬ (e.2.1=1∧e.2.2.2.1.length=1)):hvE e l=badE 8:=by rw[hvE,if_pos h,if_neg hs]
theorem zFX {e:EndD} {l:List MsgD} (h:efC e=0) (h1:e.2.1=1) (h2:e.2.2.2.1.length=1) (hl:¬ l.length=2):hvE e l=badE 1:=by rw[hvE,if_pos h,if_pos ⟨h1,h2⟩,if_neg hl]
theorem zC6 {e:EndD} {a b c:MsgD} (h:efC e=0) (h1:e.2.1=1) (h2:e.2.2.2.1=[a]):hvE e [b,c]=hvE2 e.1 a b c:=by
  rw[hvE,if_pos h,if_pos ⟨h1,by rw[h2];rfl⟩,if_pos (show [b,c].length=2 from rfl),h2];rfl
theorem zIb {e:EndD} {m:MsgD} (h:¬ efC e=0):hnE e m=badE (efC e):=by rw[hnE,if_neg h]
theorem zDQ {e:EndD} {m:MsgD} (h:efC e=0) (hs:¬ (e.2.1=2∧e.2.2.2.1.length=3∧e.2.2.2.2.1.length≠0)):hnE e m=badE 8:=by rw[hnE,if_pos h,if_neg hs]
theorem zF4 {e:EndD} {a b c m:MsgD} (h:efC e=0) (h1:e.2.1=2) (h2:e.2.2.2.1=[a,b,c]) (h3:e.2.2.2.2.1.length≠0):hnE e m=hnE2 e a b c m:=by
  rw[hnE,if_pos h,if_pos ⟨h1,by rw[h2];rfl,h3⟩,h2];rfl
theorem zDi {l:List MsgD} (h:l.length=3):∃ a b c,l=[a,b,c]:=by
  match l,h with
  | [a,b,c],_=>exact⟨a,b,c,rfl⟩
theorem zHG {s:zO} {a b c:MsgD} (h:hvC2 s a b c=0):hvE2 s a b c=(0,zDO s (zD3 (uhD 2 b).2) (zF (hvS s (uhD 2 b).2)) [a,b,c,hvF s a b c],[hvF s a b c]):=by rw[hvE2,if_pos h]
theorem zCG {s:zO} {a b c:MsgD} (h:¬ hvC2 s a b c=0):hvE2 s a b c=badE (hvC2 s a b c):=by rw[hvE2,if_neg h]
theorem zIc {e:EndD} {a b c m:MsgD} (h:hnC2 e a b c m=0):hnE2 e a b c m=(0,zDO e.1 e.2.2.1 e.2.2.2.2.1 [a,b,c,m],[]):=by rw[hnE2,if_pos h]
theorem zES {e:EndD} {a b c m:MsgD} (h:¬ hnC2 e a b c m=0):hnE2 e a b c m=badE (hnC2 e a b c m):=by rw[hnE2,if_neg h]
theorem zL9 {s:zO} {a b c:MsgD} (h:hvC2 s a b c=0):uhC 2 b=0∧((uhD 2 b).2.2.2=0∨(uhD 2 b).2.2.2=s.2.2.1)∧cfC (hvK s a b (uhD 2 b).2) [a,b] c=0:=by
  unfold hvC2 at h
  by_cases h1:uhC 2 b=0
  · rw[if_pos h1] at h
    by_cases h2:(uhD 2 b).2.2.2=0∨(uhD 2 b).2.2.2=s.2.2.1
    · rw[if_pos h2] at h;exact⟨h1,h2,h⟩
    · rw[if_neg h2] at h;exact absurd h (by decide)
  · rw[if_neg h1] at h;exact absurd h h1
theorem zMA {e:EndD} {a b c m:MsgD} (h:hnC2 e a b c m=0):uhC 1 a=0∧cfC (hnK e a b (uhD 1 a).2) [a,b,c] m=0:=by
  unfold hnC2 at h
  by_cases h1:uhC 1 a=0
  · rw[if_pos h1] at h;exact⟨h1,h⟩
  · rw[if_neg h1] at h;exact absurd h h1
theorem zJP {e:EndD} {l:List MsgD} (h:(hvE e l).1=0):∃ a b c,efC e=0∧e.2.1=1∧e.2.2.2.1=[a]∧l=[b,c]∧hvC2 e.1 a b c=0∧hvE e l=(0,zDO e.1 (zD3 (uhD 2 b).2) (zF (hvS e.1 (uhD 2 b).2)) [a,b,c,hvF e.1 a b c],[hvF e.1 a b c]):=by
  by_cases h0:efC e=0
  · by_cases h1:e.2.1=1∧e.2.2.2.1.length=1
    · by_cases h2:l.length=2
      · obtain⟨a,ha⟩:=List.length_eq_one_iff.1 h1.2
        match l,h2 with
        | [b,c],_=>
          have hg:=zC6 (b:=b) (c:=c) h0 h1.1 ha
          by_cases h3:hvC2 e.1 a b c=0
          · exact⟨a,b,c,h0,h1.1,ha,rfl,h3,by rw[hg,zHG h3]⟩
          · rw[hg,zCG h3] at h;exact absurd h h3
      · rw[zFX h0 h1.1 h1.2 h2] at h;exact absurd h (by decide)
    · rw[zCm h0 h1] at h;exact absurd h (by decide)
  · rw[zHF h0] at h;exact absurd h h0
theorem zMB {e:EndD} {m:MsgD} (h:(hnE e m).1=0):∃ a b c,efC e=0∧e.2.1=2∧e.2.2.2.1=[a,b,c]∧e.2.2.2.2.1.length≠0∧hnC2 e a b c m=0∧hnE e m=(0,zDO e.1 e.2.2.1 e.2.2.2.2.1 [a,b,c,m],[]):=by
  by_cases h0:efC e=0
  · by_cases h1:e.2.1=2∧e.2.2.2.1.length=3∧e.2.2.2.2.1.length≠0
    · obtain⟨a,b,c,ha⟩:=zDi h1.2.1;have hg:=zF4 (m:=m) h0 h1.1 ha h1.2.2
      by_cases h3:hnC2 e a b c m=0
      · exact⟨a,b,c,h0,h1.1,ha,h1.2.2,h3,by rw[hg,zIc h3]⟩
      · rw[hg,zES h3] at h;exact absurd h h3
    · rw[zDQ h0 h1] at h;exact absurd h (by decide)
  · rw[zIb h0] at h;exact absurd h h0
theorem zLE {e:EndD} {l:List MsgD} (h:(hvE e l).1=0):efC (hvE e l).2.1=0:=by
  obtain⟨a,b,c,h0,-,h2,rfl,h4,h5⟩:=zJP h;obtain⟨p1,-,p3⟩:=zL9 h4;have hp:=zBI h0;have hf:∀ x∈e.2.2.2.1,zD x.1 x.2.length=0:=zAw hp.2.2.2.2.1;rw[h5];refine zLD hp.1 (by rcases zIZ (uhD 2 b).2 with h | h <;> rw[h] <;> decide) (by simp) (zDP fun x hx=>?_) (.inr (zA0 _));simp only[List.mem_cons,List.not_mem_nil,or_false] at hx;rcases hx with rfl | rfl | rfl | rfl
  · exact hf x (by rw[h2];exact List.mem_singleton.2 rfl)
  · exact(zBx p1).2.1
  · exact(zCz p3).1
  · exact zGl _ _ _
theorem zLF {e:EndD} {m:MsgD} (h:(hnE e m).1=0):efC (hnE e m).2.1=0:=by
  obtain⟨a,b,c,h0,-,h2,h3,h4,h5⟩:=zMB h;obtain⟨p1,p3⟩:=zMA h4;have hp:=zBI h0;have hf:∀ x∈e.2.2.2.1,zD x.1 x.2.length=0:=zAw hp.2.2.2.2.1;rw[h2] at hf;rw[h5];refine zLD hp.1 hp.2.2.1 (by simp) (zDP fun x hx=>?_) hp.2.2.2.2.2.1;simp only[List.mem_cons,List.not_mem_nil,or_false] at hx;rcases hx with rfl | rfl | rfl | rfl
  · exact hf x (by simp)
  · exact hf x (by simp)
  · exact hf x (by simp)
  · exact(zCz p3).1
theorem zMC {x y:zO} (h:¬ sfC x=0):paD x y=badP (sfC x):=by rw[paD,zER,if_neg h]
theorem zMD {x y:zO} (h:sfC x=0) (h2:¬ sfC y=0):paD x y=badP (sfC y):=by
  have e:(hcE y (zAR (stE x).2.2)).1=sfC y:=by rw[zJO,hcC,if_neg h2]
  rw[paD,zER,if_pos h,paD2,e,if_neg h2]
theorem zBJ {l:List MsgD} (h:∀ a∈l,zD a.1 a.2.length=0):zN l≤161*l.length:=by
  induction l with
  | nil=>simp[zN]
  | cons a l ih=>
    have h1:=(zAx (h a (List.mem_cons_self ..))).2
    have h2:=ih fun b hb=>h b (List.mem_cons_of_mem _ hb)
    rw[zCH,List.length_cons];omega
theorem zCn {e:EndD} (h:efC e=0):endT e≤1000:=by
  have hp:=zBI h;have h1:=zAu hp.1;have h2:=zBJ (zAw hp.2.2.2.2.1)
  have h3:e.1.2.2.2.length≤32:=by rw[h1.2.2.2.2.2];unfold keyW;split <;> decide
  have h4:e.2.2.2.2.1.length≤32:=by rcases hp.2.2.2.2.2.1 with h | h <;> omega
  have h5:zBN e.2.2.2.2.2≤128:=by
    have hs:=hp.2.2.2.2.2.2
    have hw:zBi e.2.1≤32:=by unfold zBi;split <;> decide
    simp only[seB,Bool.and_eq_true,decide_eq_true_eq] at hs;unfold zBN;omega
  have h6:=hp.2.2.2.1;unfold endT zBD;omega
theorem zJQ (c:Int):zAr (badP c)=0:=rfl
theorem zLG (x y:zO):zAr (paD x y)≤1048576:=by
  unfold paD;split
  · unfold paD2;split
    · unfold paD3;split
      · rename_i h1;split
        · rename_i h2;have e1:=zCn (zLE h1);have e2:=zCn (zLF h2);exact yi (Nat.add_le_add e1 e2) (by decide)
        · rw[zJQ];exact Nat.zero_le _
      · rw[zJQ];exact Nat.zero_le _
    · rw[zJQ];exact Nat.zero_le _
  · rw[zJQ];exact Nat.zero_le _
end Go.Proofs.YtiabacnmmojfjabGreatDoor
