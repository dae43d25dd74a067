import Derived.Test.YtiabacnmmojfjaaGreatDoorJoint1
import Derived.Test.YtiabacnmmojfjaaGreatDoorJoint16
import Derived.Test.YtiabacnmmojfjaaGreatDoorJoint3
import Derived.Test.YtiabacnmmojfjaaGreatDoorJoint8
import Derived.Test.YtiabacnmmojfjaaGreatDoorJoint9
import Derived.Test.YtiabacnmmojfjaaGreatDoorJoint11
namespace Go.Proofs.YtiabacnmmojfjaaGreatDoor
open Go.RowKit
def hfC (h:zZ):Int:=if h.1.length=8 then (if inB h.2.1 1 65520&&inB h.2.2 0 9 then 0 else 3) else 1
def hkB (k:Int):Bool:=decide (k=1) || decide (k=2)
def hpB (h:zZ):List (List UInt8):=[h.1,putB h.2.1.toNat 2,[UInt8.ofNat h.2.2.toNat]]
def hpL (h:zZ):List UInt8:=zA6 (hpB h)
def zCA:zZ:=([],0,0)
def phC (k:Int) (h:zZ):Int:=if hkB k then hfC h else 3
def phD (k:Int) (h:zZ):zEc:=if phC k h=0 then (0,k,hpL h) else (phC k h,0,[])
def h3 (bl:List (List UInt8)):Option zZ:=match bl with
  | [a,b,c]=>if b.length=2∧c.length=1∧hfC (a,((getB b:Nat):Int),(((c.getD 0 0).toNat:Nat):Int))=0 then some (a,((getB b:Nat):Int),(((c.getD 0 0).toNat:Nat):Int)) else none
  | _=>none
def huR (body:List UInt8):Option zZ:=(zAj body 0 []).bind h3
def uhC (k:Int) (m:MsgD):Int:=if hkB k then (if zE m.1 m.2.length=0 then (if m.1=k then (if (huR m.2).isSome then 0 else 5) else 1) else zE m.1 m.2.length) else 3
def uhD (k:Int) (m:MsgD):zDK:=(uhC k m,if uhC k m=0 then (huR m.2).getD zCA else zCA)
def trL (l:List MsgD):List UInt8:=if psC l=0 then zS (zF l) else []
def fmC (s:List UInt8) (l:List MsgD):Int:=if is32 s then psC l else 1
def fmL (s:List UInt8) (l:List MsgD):List UInt8:=finN s (zS (zF l))
def fmD (s:List UInt8) (l:List MsgD):zEc:=if fmC s l=0 then (0,20,fmL s l) else (fmC s l,0,[])
def cfC (s:List UInt8) (l:List MsgD) (m:MsgD):Int:=if fmC s l=0 then (if zE m.1 m.2.length=0 then (if m.1=20 then (if m.2=fmL s l then 0 else 7) else 1) else zE m.1 m.2.length) else fmC s l
theorem zKX (bs:List UInt8) (h:bs.length=2):putB (getB bs) 2=bs:=by
  match bs,h with
  | [a,b],_=>
    have e:getB [a,b]=a.toNat*256+b.toNat:=by simp[getB]
    have ha:=a.toNat_lt;have hb:=b.toNat_lt;rw[show putB (getB [a,b]) 2=[UInt8.ofNat (getB [a,b] / 256 ^ 1 % 256),UInt8.ofNat (getB [a,b] / 256 ^ 0 % 256)] from rfl,e]
    have e1:(a.toNat*256+b.toNat) / 256 ^ 1 % 256=a.toNat:=by omega
    have e2:(a.toNat*256+b.toNat) / 256 ^ 0 % 256=b.toNat:=by omega
    rw[e1,e2,UInt8.ofNat_toNat,UInt8.ofNat_toNat]
theorem zKY (n:Nat) (h:n<65536):getB (putB n 2)=n:=by
  rw[show putB n 2=[UInt8.ofNat (n / 256 ^ 1 % 256),UInt8.ofNat (n / 256 ^ 0 % 256)] from rfl];simp only[getB,List.foldl_cons,List.foldl_nil,UInt8.toNat_ofNat',Nat.pow_one,Nat.pow_zero,Nat.div_one];omega
theorem zBU {h:zZ} (hc:hfC h=0):h.1.length=8∧1≤h.2.1∧h.2.1≤65520∧0≤h.2.2∧h.2.2≤9:=by
  unfold hfC at hc
  by_cases h1:h.1.length=8
  · rw[if_pos h1] at hc
    by_cases h2:(inB h.2.1 1 65520&&inB h.2.2 0 9)=true
    · have h3:(1≤h.2.1∧h.2.1≤65520)∧0≤h.2.2∧h.2.2≤9:=by simpa [inB] using h2
      exact⟨h1,h3.1.1,h3.1.2,h3.2.1,h3.2.2⟩
    · rw[if_neg h2] at hc;exact absurd hc (by decide)
  · rw[if_neg h1] at hc;exact absurd hc (by decide)
theorem zFm {h:zZ} (hc:hfC h=0):(hpL h).length=14:=by
  have h1:=(zBU hc).1;unfold hpL hpB;rw[zBp,zBp,zHH,List.length_append,List.length_append,zDW,zDW,zDW,zL,h1];rfl
theorem zM2 {h:zZ} (hc:hfC h=0):h3 (hpB h)=some h:=by
  obtain⟨p1,p2,p3,p4,p5⟩:=zBU hc
  have e1:((getB (putB h.2.1.toNat 2):Nat):Int)=h.2.1:=by rw[zKY _ (by omega)];omega
  have e2:((([UInt8.ofNat h.2.2.toNat].getD 0 0).toNat:Nat):Int)=h.2.2:=by
    show(((UInt8.ofNat h.2.2.toNat).toNat:Nat):Int)=_
    rw[UInt8.toNat_ofNat'];omega
  unfold h3 hpB;simp only;rw[e1,e2,if_pos ⟨zL _ _,rfl,hc⟩]
theorem zLW {h:zZ} (hc:hfC h=0):huR (hpL h)=some h:=by
  obtain⟨p1,p2,p3,p4,p5⟩:=zBU hc
  have hs:=zGA (hpB h) [] [] (fun b hb=>by
    unfold hpB at hb;simp only[List.mem_cons,List.not_mem_nil,or_false] at hb;rcases hb with rfl | rfl | rfl
    · omega
    · rw[zL];decide
    · simp) (by simp[hpB])
  unfold huR;rw[show zAj (hpL h) 0 []=some (hpB h) from hs];exact zM2 hc
theorem zIv {body:List UInt8} {h:zZ} (hu:huR body=some h):hfC h=0∧hpL h=body:=by
  unfold huR at hu;cases hs:zAj body 0 [] with
  | none=>rw[hs] at hu;cases hu
  | some bl=>
    rw[hs] at hu;have hb:=zGB body body.length 0 [] bl (by omega) (Nat.zero_le _) rfl (by decide) (fun b hb=>by cases hb) hs
    match bl,hu with
    | [a,b,c],hu=>
      have hu2:h3 [a,b,c]=some h:=hu;unfold h3 at hu2;simp only at hu2
      by_cases hc:b.length=2∧c.length=1∧hfC (a,((getB b:Nat):Int),(((c.getD 0 0).toNat:Nat):Int))=0
      · rw[if_pos hc] at hu2;cases hu2;refine⟨hc.2.2,?_⟩
        have e1:putB (((getB b:Nat):Int)).toNat 2=b:=by rw[Int.toNat_natCast];exact zKX b hc.1
        have e2:[UInt8.ofNat ((((c.getD 0 0).toNat:Nat):Int)).toNat]=c:=by
          rw[Int.toNat_natCast,UInt8.ofNat_toNat]
          match c,hc.2.1 with
          | [x],_=>rfl
        unfold hpL hpB;simp only;rw[e1,e2];exact hb.1
      · rw[if_neg hc] at hu2;cases hu2
    | [],hu=>cases hu
    | [_],hu=>cases hu
    | [_,_],hu=>cases hu
    | _ :: _ :: _ :: _ :: _,hu=>cases hu
def zeroS:zM:=(0,[],0,[])
def zeroX:zAP:=([],[],[],[])
def zKZ:EndD:=(zeroS,0,0,[],[],zeroX)
def badE (c:Int):zAc:=(c,zKZ,[])
def keyW (psk:Int):Nat:=if psk=0 then 0 else 32
def sfC (s:zM):Int:=if inB s.1 1 65519&&inB s.2.2.1 0 9 then (if s.2.1.length=8∧s.2.2.2.length=keyW s.2.2.1 then 0 else 1) else 3
def seB (x:zAP) (n:Nat):Bool:=decide (x.1.length=n)&&(decide (x.2.1.length=n)&&(decide (x.2.2.1.length=n)&&decide (x.2.2.2.length=n)))
def zBm (stage:Int):Nat:=if stage=3 then 32 else 0
def efC (e:EndD):Int:=
  if sfC e.1=0 then (if inB e.2.1 1 3&&inB e.2.2.1 0 2 then (if e.2.2.2.1.length≤4 then (if zAD e.2.2.2.1=0 then (if (e.2.2.2.2.1.length=0∨e.2.2.2.2.1.length=32)∧seB e.2.2.2.2.2 (zBm e.2.1)=true then 0 else 1) else zAD e.2.2.2.1) else 2) else 3) else sfC e.1
def zBh (s:zM):Int:=((powN 17 s.1.toNat:Nat):Int)
def helH (s:zM) (psk:Int):zZ:=(s.2.1,zBh s,psk)
def helM (s:zM) (kind psk:Int):MsgD:=(kind,hpL (helH s psk))
def secN (s:zM) (share mode:Int):List UInt8:=zEl (zAv (if mode=2 then s.2.2.2 else [])) (putB (powN share.toNat s.1.toNat) 2)
def digM (l:List MsgD):List UInt8:=zS (zF l)
def finM (secret lab:List UInt8) (l:List MsgD):MsgD:=(20,finN (zAB secret lab (digM (l.take 2))) (digM l))
def sHsB:List UInt8:=[115,32,104,115,32,116,114,97,102,102,105,99]
def cHsB:List UInt8:=[99,32,104,115,32,116,114,97,102,102,105,99]
theorem zD1:(⟨#[115,32,104,115,32,116,114,97,102,102,105,99]⟩:ByteArray)=strB sHsB:=rfl
theorem zFn:(⟨#[99,32,104,115,32,116,114,97,102,102,105,99]⟩:ByteArray)=strB cHsB:=rfl
def zCE (base digest:List UInt8):zAP:=(zAB base cApB digest,zAB base sApB digest,zAB base zC5 digest,zAB base zC6 digest)
def zAw (s:zM) (mode:Int) (base:List UInt8) (l:List MsgD):EndD:=(s,3,mode,l,base,zCE base (digM (l.take 3)))
def stE (s:zM):zAc:=if sfC s=0 then (0,(s,1,0,[helM s 1 s.2.2.1],[],zeroX),[helM s 1 s.2.2.1]) else badE (sfC s)
def pskB (h:zZ) (s:zM):Bool:=decide (h.2.2≠0)&&decide (h.2.2=s.2.2.1)
def zBi (h:zZ) (s:zM):Int:=if pskB h s then 2 else 1
def zC7 (h:zZ) (s:zM):Int:=if pskB h s then s.2.2.1 else 0
def hcC (s:zM) (m:MsgD):Int:=if sfC s=0 then uhC 1 m else sfC s
def hcS (s:zM) (h:zZ):List UInt8:=secN s h.2.1 (zBi h s)
def hcF (s:zM) (m:MsgD) (h:zZ):MsgD:=finM (hcS s h) sHsB [m,helM s 2 (zC7 h s)]
def hcE (s:zM) (m:MsgD):zAc:=
  if hcC s m=0 then (0,(s,2,zBi (uhD 1 m).2 s,[m,helM s 2 (zC7 (uhD 1 m).2 s),hcF s m (uhD 1 m).2],zC (hcS s (uhD 1 m).2),zeroX),[helM s 2 (zC7 (uhD 1 m).2 s),hcF s m (uhD 1 m).2])
  else badE (hcC s m)
def zDj (h:zZ):Int:=if h.2.2=0 then 1 else 2
def hvS (s:zM) (h:zZ):List UInt8:=secN s h.2.1 (zDj h)
def hvK (s:zM) (a b:MsgD) (h:zZ):List UInt8:=zAB (hvS s h) sHsB (digM [a,b])
def hvC2 (s:zM) (a b c:MsgD):Int:=if uhC 2 b=0 then (if (uhD 2 b).2.2.2=0∨(uhD 2 b).2.2.2=s.2.2.1 then cfC (hvK s a b (uhD 2 b).2) [a,b] c else 8) else uhC 2 b
def hvF (s:zM) (a b c:MsgD):MsgD:=finM (hvS s (uhD 2 b).2) cHsB [a,b,c]
def hvE2 (s:zM) (a b c:MsgD):zAc:=
  if hvC2 s a b c=0 then (0,zAw s (zDj (uhD 2 b).2) (zC (hvS s (uhD 2 b).2)) [a,b,c,hvF s a b c],[hvF s a b c]) else badE (hvC2 s a b c)
def zAL (l:List MsgD):MsgD:=l.headD (0,[])
def hvE (e:EndD) (l:List MsgD):zAc:=
  if efC e=0 then (if e.2.1=1∧e.2.2.2.1.length=1 then (if l.length=2 then hvE2 e.1 (zAL e.2.2.2.1) (zAL l) (zAL l.tail) else badE 1) else badE 8) else badE (efC e)
def hnS (e:EndD) (h:zZ):List UInt8:=secN e.1 h.2.1 e.2.2.1
def hnK (e:EndD) (a b:MsgD) (h:zZ):List UInt8:=zAB (hnS e h) cHsB (digM [a,b])
def hnC2 (e:EndD) (a b c m:MsgD):Int:=if uhC 1 a=0 then cfC (hnK e a b (uhD 1 a).2) [a,b,c] m else uhC 1 a
def hnE2 (e:EndD) (a b c m:MsgD):zAc:=
  if hnC2 e a b c m=0 then (0,zAw e.1 e.2.2.1 e.2.2.2.2.1 [a,b,c,m],[]) else badE (hnC2 e a b c m)
def hnE (e:EndD) (m:MsgD):zAc:=
  if efC e=0 then (if e.2.1=2∧e.2.2.2.1.length=3∧e.2.2.2.2.1.length≠0 then hnE2 e (zAL e.2.2.2.1) (zAL e.2.2.2.1.tail) (zAL e.2.2.2.1.tail.tail) m else badE 8) else badE (efC e)
def badP (c:Int):zA5:=(c,zKZ,zKZ)
def paD3 (c:zAc) (b:EndD):zA5:=if c.1=0 then (if (hnE b (zAL c.2.2)).1=0 then (0,c.2.1,(hnE b (zAL c.2.2)).2.1) else badP (hnE b (zAL c.2.2)).1) else badP c.1
def paD2 (a b:zAc):zA5:=if b.1=0 then paD3 (hvE a.2.1 b.2.2) b.2.1 else badP b.1
def paD (x y:zM):zA5:=if (stE x).1=0 then paD2 (stE x) (hcE y (zAL (stE x).2.2)) else badP (stE x).1
theorem zAY {s:zM} (h:sfC s=0):1≤s.1∧s.1≤65519∧0≤s.2.2.1∧s.2.2.1≤9∧s.2.1.length=8∧s.2.2.2.length=keyW s.2.2.1:=by
  unfold sfC at h
  by_cases h1:(inB s.1 1 65519&&inB s.2.2.1 0 9)=true
  · rw[if_pos h1] at h
    by_cases h2:s.2.1.length=8∧s.2.2.2.length=keyW s.2.2.1
    · have h3:(1≤s.1∧s.1≤65519)∧0≤s.2.2.1∧s.2.2.1≤9:=by simpa [inB] using h1
      exact⟨h3.1.1,h3.1.2,h3.2.1,h3.2.2,h2.1,h2.2⟩
    · rw[if_neg h2] at h;exact absurd h (by decide)
  · rw[if_neg h1] at h;exact absurd h (by decide)
theorem zKa {s:zM} (h:sfC s=0):1≤zBh s∧zBh s≤65520:=by
  have hp:=zAY h;have h1:=zGe 17 s.1.toNat;have h2:1≤powN 17 s.1.toNat:=zIZ (by decide) (by decide) (by omega);unfold zBh;omega
theorem zGv {s:zM} {psk:Int} (h:sfC s=0) (h0:0≤psk) (h9:psk≤9):hfC (helH s psk)=0:=by
  have hp:=zAY h;have hs:=zKa h
  have e:(inB (helH s psk).2.1 1 65520&&inB (helH s psk).2.2 0 9)=true:=by
    show(inB (zBh s) 1 65520&&inB psk 0 9)=true
    simp[inB,hs.1,hs.2,h0,h9]
  unfold hfC;rw[if_pos (show(helH s psk).1.length=8 from hp.2.2.2.2.1),if_pos e]
theorem zFo {k:Int} {n:Nat} (h0:0≤k) (h1:k≤255) (hn:n≤160):zE k n=0:=by
  rw[zE,if_pos (by simp[inB,h0,h1]),if_pos hn]
theorem zGw {s:zM} {kind psk:Int} (h:sfC s=0) (h0:0≤psk) (h9:psk≤9):(helM s kind psk).2.length=14:=zFm (zGv h h0 h9)
theorem zIC {s:zM} {kind psk:Int} (h:sfC s=0) (h0:0≤psk) (h9:psk≤9) (hk:kind=1∨kind=2):uhC kind (helM s kind psk)=0∧(uhD kind (helM s kind psk)).2=helH s psk:=by
  have hu:huR (helM s kind psk).2=some (helH s psk):=zLW (zGv h h0 h9)
  have hkb:hkB kind=true:=by rcases hk with rfl | rfl <;> rfl
  have hw:zE (helM s kind psk).1 (helM s kind psk).2.length=0:=zFo (by show 0≤kind;omega) (by show kind≤255;omega) (by rw[zGw h h0 h9];decide)
  have hc:uhC kind (helM s kind psk)=0:=by
    rw[uhC,if_pos hkb,if_pos hw,if_pos (show(helM s kind psk).1=kind from rfl),hu];rfl
  refine⟨hc,?_⟩;rw[uhD,if_pos hc,hu];rfl
theorem zBV {k:Int} {m:MsgD} (h:uhC k m=0):hkB k=true∧zE m.1 m.2.length=0∧m.1=k∧∃ x,huR m.2=some x∧(uhD k m).2=x∧hfC x=0∧m.2.length=14:=by
  have hc:=h;unfold uhC at h
  by_cases h1:hkB k=true
  · rw[if_pos h1] at h
    by_cases h2:zE m.1 m.2.length=0
    · rw[if_pos h2] at h
      by_cases h3:m.1=k
      · rw[if_pos h3] at h;cases hu:huR m.2 with
        | none=>rw[hu] at h;exact absurd h (by decide)
        | some x=>
          have hb:=zIv hu;refine⟨h1,h2,h3,x,rfl,?_,hb.1,?_⟩
          · rw[uhD,if_pos hc,hu];rfl
          · rw[← hb.2];exact zFm hb.1
      · rw[if_neg h3] at h;exact absurd h (by decide)
    · rw[if_neg h2] at h;exact absurd h h2
  · rw[if_neg h1] at h;exact absurd h (by decide)
theorem zCO {l:List MsgD} (h:∀ a∈l,zE a.1 a.2.length=0):zAD l=0:=zCn fun _ _ hb=>h _ (List.mem_of_getElem? hb)
theorem zBL {l:List MsgD} (h:∀ a∈l,zE a.1 a.2.length=0):(zF l).length≤164*l.length:=by
  induction l with
  | nil=>simp[zF]
  | cons a l ih=>
    have h1:=(zA1 (h a (List.mem_cons_self ..))).2
    have h2:=ih fun b hb=>h b (List.mem_cons_of_mem _ hb)
    rw[zB2,List.length_append,zDB,List.length_cons];omega
theorem zFp {l:List MsgD} (h:∀ a∈l,zE a.1 a.2.length=0) (hl:l.length≤3):psC l=0:=by
  have h1:=zBL h;rw[psC,if_pos (by omega),if_pos (zCO h),if_pos (by omega)]
theorem zMF {l:List MsgD} (h:psC l=0):trL l=digM l:=by rw[trL,if_pos h];rfl
theorem zCX (l:List MsgD):(digM l).length=32:=zA3 _
theorem zB1 (s:zM) (a b:Int):(secN s a b).length=32:=zKO _ _
theorem zCi (a b:List UInt8) (l:List MsgD):zE (finM a b l).1 (finM a b l).2.length=0:=zFo (by show(0:Int)≤20;decide) (by show(20:Int)≤255;decide) (by rw[show(finM a b l).2.length=32 from zIV _ _];decide)
theorem zGx (a b:List UInt8) (l:List MsgD):(finM a b l).2.length=32:=zIV _ _
theorem zNd {sec:List UInt8} {l:List MsgD} (m:MsgD) (hs:sec.length=32) (hp:psC l=0):cfC sec l m=if zE m.1 m.2.length=0 then (if m.1=20 then (if m.2=finN sec (digM l) then 0 else 7) else 1) else zE m.1 m.2.length:=by
  have h1:fmC sec l=0:=by rw[fmC,if_pos (by simp[is32,hs])];exact hp
  rw[cfC,if_pos h1];rfl
theorem zKb {sec lab:List UInt8} {l:List MsgD} (hp:psC l=0):cfC (zAB sec lab (digM (l.take 2))) l (finM sec lab l)=0:=by
  rw[zNd _ (zCh _ _ _) hp,if_pos (zCi _ _ _),if_pos (show(finM sec lab l).1=20 from rfl),if_pos (show(finM sec lab l).2=finN (zAB sec lab (digM (l.take 2))) (digM l) from rfl)]
theorem zCx {sec:List UInt8} {l:List MsgD} {m:MsgD} (h:cfC sec l m=0):zE m.1 m.2.length=0∧m.1=20:=by
  unfold cfC at h
  by_cases h0:fmC sec l=0
  · rw[if_pos h0] at h
    by_cases h1:zE m.1 m.2.length=0
    · rw[if_pos h1] at h
      by_cases h2:m.1=20
      · exact⟨h1,h2⟩
      · rw[if_neg h2] at h;exact absurd h (by decide)
    · rw[if_neg h1] at h;exact absurd h h1
  · rw[if_neg h0] at h;exact absurd h h0
theorem zBM {e:EndD} (h:efC e=0):sfC e.1=0∧(1≤e.2.1∧e.2.1≤3)∧(0≤e.2.2.1∧e.2.2.1≤2)∧e.2.2.2.1.length≤4∧zAD e.2.2.2.1=0∧(e.2.2.2.2.1.length=0∨e.2.2.2.2.1.length=32)∧seB e.2.2.2.2.2 (zBm e.2.1)=true:=by
  unfold efC at h
  by_cases h0:sfC e.1=0
  · rw[if_pos h0] at h
    by_cases h1:(inB e.2.1 1 3&&inB e.2.2.1 0 2)=true
    · rw[if_pos h1] at h
      by_cases h2:e.2.2.2.1.length≤4
      · rw[if_pos h2] at h
        by_cases h3:zAD e.2.2.2.1=0
        · rw[if_pos h3] at h
          by_cases h4:(e.2.2.2.2.1.length=0∨e.2.2.2.2.1.length=32)∧seB e.2.2.2.2.2 (zBm e.2.1)=true
          · have h5:(1≤e.2.1∧e.2.1≤3)∧0≤e.2.2.1∧e.2.2.1≤2:=by simpa [inB] using h1
            exact⟨h0,h5.1,h5.2,h2,h3,h4.1,h4.2⟩
          · rw[if_neg h4] at h;exact absurd h (by decide)
        · rw[if_neg h3] at h;exact absurd h h3
      · rw[if_neg h2] at h;exact absurd h (by decide)
    · rw[if_neg h1] at h;exact absurd h (by decide)
  · rw[if_neg h0] at h;exact absurd h h0
theorem zLX {s:zM} {st mo:Int} {l:List MsgD} {b:List UInt8} {x:zAP} (h0:sfC s=0) (h1:1≤st∧st≤3) (h2:0≤mo∧mo≤2) (h3:l.length≤4) (h4:zAD l=0) (h5:b.length=0∨b.length=32) (h6:seB x (zBm st)=true):efC (s,st,mo,l,b,x)=0:=by
  unfold efC;rw[if_pos (show sfC (s,st,mo,l,b,x).1=0 from h0),if_pos (show(inB st 1 3&&inB mo 0 2)=true by simp[inB,h1,h2]),if_pos (show l.length≤4 from h3),if_pos (show zAD l=0 from h4),if_pos (show(b.length=0∨b.length=32)∧seB x (zBm st)=true from⟨h5,h6⟩)]
theorem zID:seB zeroX 0=true:=rfl
theorem zM3 (b d:List UInt8):seB (zCE b d) 32=true:=by simp[seB,zCE,zCh]
theorem zGy {s:zM} {mo:Int} {l:List MsgD} {b:List UInt8} (h0:sfC s=0) (h2:0≤mo∧mo≤2) (h3:l.length≤4) (h4:zAD l=0) (h5:b.length=0∨b.length=32):efC (zAw s mo b l)=0:=
  zLX h0 (by decide) h2 h3 h4 h5 (zM3 _ _)
theorem zIE (h:zZ) (s:zM):zBi h s=1∨zBi h s=2:=by unfold zBi;split <;> simp
theorem zIF (h:zZ):zDj h=1∨zDj h=2:=by unfold zDj;split <;> simp
theorem zFP {h:zZ} {s:zM} (hs:sfC s=0):0≤zC7 h s∧zC7 h s≤9:=by
  have hp:=zAY hs;unfold zC7
  split <;> omega
theorem zLY {s:zM} {m:MsgD} (h:hcC s m=0):sfC s=0∧uhC 1 m=0:=by
  unfold hcC at h
  by_cases h0:sfC s=0
  · rw[if_pos h0] at h;exact⟨h0,h⟩
  · rw[if_neg h0] at h;exact absurd h h0
theorem zDd {s:zM} {kind psk:Int} (h:sfC s=0) (h0:0≤psk) (h9:psk≤9) (hk:kind=1∨kind=2):zE (helM s kind psk).1 (helM s kind psk).2.length=0:=
  zFo (by show 0≤kind;omega) (by show kind≤255;omega) (by rw[zGw h h0 h9];decide)
theorem zFq {s:zM} (h:sfC s=0):stE s=(0,(s,1,0,[helM s 1 s.2.2.1],[],zeroX),[helM s 1 s.2.2.1]):=by rw[stE,if_pos h]
theorem zIG {s:zM} (h:¬ sfC s=0):stE s=badE (sfC s):=by rw[stE,if_neg h]
theorem zDe (s:zM):(stE s).1=sfC s:=by
  by_cases h:sfC s=0
  · rw[zFq h];exact h.symm
  · rw[zIG h];rfl
theorem zHj {s:zM} {m:MsgD} (h:hcC s m=0):hcE s m=(0,(s,2,zBi (uhD 1 m).2 s,[m,helM s 2 (zC7 (uhD 1 m).2 s),hcF s m (uhD 1 m).2],zC (hcS s (uhD 1 m).2),zeroX),[helM s 2 (zC7 (uhD 1 m).2 s),hcF s m (uhD 1 m).2]):=by rw[hcE,if_pos h]
theorem zFr {s:zM} {m:MsgD} (h:¬ hcC s m=0):hcE s m=badE (hcC s m):=by rw[hcE,if_neg h]
theorem zIw (s:zM) (m:MsgD):(hcE s m).1=hcC s m:=by
  by_cases h:hcC s m=0
  · rw[zHj h];exact h.symm
  · rw[zFr h];rfl
theorem zKc {s:zM} {m:MsgD} (h:hcC s m=0):efC (hcE s m).2.1=0:=by
  obtain⟨h0,h1⟩:=zLY h;obtain⟨-,hf,-⟩:=zBV h1;have hp:=zFP (h:=(uhD 1 m).2) h0;rw[zHj h];refine zLX h0 (by decide) (by rcases zIE (uhD 1 m).2 s with h | h <;> rw[h] <;> decide) (by simp) (zCO fun a ha=>?_) (.inr (zAg _)) zID;simp only[List.mem_cons,List.not_mem_nil,or_false] at ha;rcases ha with rfl | rfl | rfl
  · exact hf
  · exact zDd h0 hp.1 hp.2 (.inr rfl)
  · exact zCi _ _ _
theorem zGz {e:EndD} {l:List MsgD} (h:¬ efC e=0):hvE e l=badE (efC e):=by rw[hvE,if_neg h]
theorem zCj {e:EndD} {l:List MsgD} (h:efC e=0) (hs:¬ (e.2.1=1∧e.2.2.2.1.length=1)):hvE e l=badE 8:=by rw[hvE,if_pos h,if_neg hs]
theorem zFQ {e:EndD} {l:List MsgD} (h:efC e=0) (h1:e.2.1=1) (h2:e.2.2.2.1.length=1) (hl:¬ l.length=2):hvE e l=badE 1:=by rw[hvE,if_pos h,if_pos ⟨h1,h2⟩,if_neg hl]
theorem zCk {e:EndD} {a b c:MsgD} (h:efC e=0) (h1:e.2.1=1) (h2:e.2.2.2.1=[a]):hvE e [b,c]=hvE2 e.1 a b c:=by
  rw[hvE,if_pos h,if_pos ⟨h1,by rw[h2];rfl⟩,if_pos (show [b,c].length=2 from rfl),h2];rfl
theorem zIH {e:EndD} {m:MsgD} (h:¬ efC e=0):hnE e m=badE (efC e):=by rw[hnE,if_neg h]
theorem zDO {e:EndD} {m:MsgD} (h:efC e=0) (hs:¬ (e.2.1=2∧e.2.2.2.1.length=3∧e.2.2.2.2.1.length≠0)):hnE e m=badE 8:=by rw[hnE,if_pos h,if_neg hs]
theorem zFA {e:EndD} {a b c m:MsgD} (h:efC e=0) (h1:e.2.1=2) (h2:e.2.2.2.1=[a,b,c]) (h3:e.2.2.2.2.1.length≠0):hnE e m=hnE2 e a b c m:=by
  rw[hnE,if_pos h,if_pos ⟨h1,by rw[h2];rfl,h3⟩,h2];rfl
theorem zDf {l:List MsgD} (h:l.length=3):∃ a b c,l=[a,b,c]:=by
  match l,h with
  | [a,b,c],_=>exact⟨a,b,c,rfl⟩
theorem zFs {s:zM} {a b c:MsgD} (h:hvC2 s a b c=0):hvE2 s a b c=(0,zAw s (zDj (uhD 2 b).2) (zC (hvS s (uhD 2 b).2)) [a,b,c,hvF s a b c],[hvF s a b c]):=by rw[hvE2,if_pos h]
theorem zCF {s:zM} {a b c:MsgD} (h:¬ hvC2 s a b c=0):hvE2 s a b c=badE (hvC2 s a b c):=by rw[hvE2,if_neg h]
theorem zG0 {e:EndD} {a b c m:MsgD} (h:hnC2 e a b c m=0):hnE2 e a b c m=(0,zAw e.1 e.2.2.1 e.2.2.2.2.1 [a,b,c,m],[]):=by rw[hnE2,if_pos h]
theorem zEK {e:EndD} {a b c m:MsgD} (h:¬ hnC2 e a b c m=0):hnE2 e a b c m=badE (hnC2 e a b c m):=by rw[hnE2,if_neg h]
theorem zLZ {s:zM} {a b c:MsgD} (h:hvC2 s a b c=0):uhC 2 b=0∧((uhD 2 b).2.2.2=0∨(uhD 2 b).2.2.2=s.2.2.1)∧cfC (hvK s a b (uhD 2 b).2) [a,b] c=0:=by
  unfold hvC2 at h
  by_cases h1:uhC 2 b=0
  · rw[if_pos h1] at h
    by_cases h2:(uhD 2 b).2.2.2=0∨(uhD 2 b).2.2.2=s.2.2.1
    · rw[if_pos h2] at h;exact⟨h1,h2,h⟩
    · rw[if_neg h2] at h;exact absurd h (by decide)
  · rw[if_neg h1] at h;exact absurd h h1
theorem zLa {e:EndD} {a b c m:MsgD} (h:hnC2 e a b c m=0):uhC 1 a=0∧cfC (hnK e a b (uhD 1 a).2) [a,b,c] m=0:=by
  unfold hnC2 at h
  by_cases h1:uhC 1 a=0
  · rw[if_pos h1] at h;exact⟨h1,h⟩
  · rw[if_neg h1] at h;exact absurd h h1
theorem zIx {e:EndD} {l:List MsgD} (h:(hvE e l).1=0):∃ a b c,efC e=0∧e.2.1=1∧e.2.2.2.1=[a]∧l=[b,c]∧hvC2 e.1 a b c=0∧hvE e l=(0,zAw e.1 (zDj (uhD 2 b).2) (zC (hvS e.1 (uhD 2 b).2)) [a,b,c,hvF e.1 a b c],[hvF e.1 a b c]):=by
  by_cases h0:efC e=0
  · by_cases h1:e.2.1=1∧e.2.2.2.1.length=1
    · by_cases h2:l.length=2
      · obtain⟨a,ha⟩:=List.length_eq_one_iff.1 h1.2
        match l,h2 with
        | [b,c],_=>
          have hg:=zCk (b:=b) (c:=c) h0 h1.1 ha
          by_cases h3:hvC2 e.1 a b c=0
          · exact⟨a,b,c,h0,h1.1,ha,rfl,h3,by rw[hg,zFs h3]⟩
          · rw[hg,zCF h3] at h;exact absurd h h3
      · rw[zFQ h0 h1.1 h1.2 h2] at h;exact absurd h (by decide)
    · rw[zCj h0 h1] at h;exact absurd h (by decide)
  · rw[zGz h0] at h;exact absurd h h0
theorem zLb {e:EndD} {m:MsgD} (h:(hnE e m).1=0):∃ a b c,efC e=0∧e.2.1=2∧e.2.2.2.1=[a,b,c]∧e.2.2.2.2.1.length≠0∧hnC2 e a b c m=0∧hnE e m=(0,zAw e.1 e.2.2.1 e.2.2.2.2.1 [a,b,c,m],[]):=by
  by_cases h0:efC e=0
  · by_cases h1:e.2.1=2∧e.2.2.2.1.length=3∧e.2.2.2.2.1.length≠0
    · obtain⟨a,b,c,ha⟩:=zDf h1.2.1;have hg:=zFA (m:=m) h0 h1.1 ha h1.2.2
      by_cases h3:hnC2 e a b c m=0
      · exact⟨a,b,c,h0,h1.1,ha,h1.2.2,h3,by rw[hg,zG0 h3]⟩
      · rw[hg,zEK h3] at h;exact absurd h h3
    · rw[zDO h0 h1] at h;exact absurd h (by decide)
  · rw[zIH h0] at h;exact absurd h h0
theorem zM4 {e:EndD} {l:List MsgD} (h:(hvE e l).1=0):efC (hvE e l).2.1=0:=by
  obtain⟨a,b,c,h0,-,h2,rfl,h4,h5⟩:=zIx h;obtain⟨p1,-,p3⟩:=zLZ h4;have hp:=zBM h0;have hf:∀ x∈e.2.2.2.1,zE x.1 x.2.length=0:=zA0 hp.2.2.2.2.1;rw[h5];refine zGy hp.1 (by rcases zIF (uhD 2 b).2 with h | h <;> rw[h] <;> decide) (by simp) (zCO fun x hx=>?_) (.inr (zAg _));simp only[List.mem_cons,List.not_mem_nil,or_false] at hx;rcases hx with rfl | rfl | rfl | rfl
  · exact hf x (by rw[h2];exact List.mem_singleton.2 rfl)
  · exact(zBV p1).2.1
  · exact(zCx p3).1
  · exact zCi _ _ _
theorem zM5 {e:EndD} {m:MsgD} (h:(hnE e m).1=0):efC (hnE e m).2.1=0:=by
  obtain⟨a,b,c,h0,-,h2,h3,h4,h5⟩:=zLb h;obtain⟨p1,p3⟩:=zLa h4;have hp:=zBM h0;have hf:∀ x∈e.2.2.2.1,zE x.1 x.2.length=0:=zA0 hp.2.2.2.2.1;rw[h2] at hf;rw[h5];refine zGy hp.1 hp.2.2.1 (by simp) (zCO fun x hx=>?_) hp.2.2.2.2.2.1;simp only[List.mem_cons,List.not_mem_nil,or_false] at hx;rcases hx with rfl | rfl | rfl | rfl
  · exact hf x (by simp)
  · exact hf x (by simp)
  · exact hf x (by simp)
  · exact(zCx p3).1
theorem zLc {x y:zM} {mode:Int} (hx:sfC x=0) (hy:sfC y=0) (hk:mode=2→x.2.2.2=y.2.2.2):secN x (zBh y) mode=secN y (zBh x) mode:=by
  have h1:=zAY hx;have h2:=zAY hy;unfold secN zBh;rw[Int.toNat_natCast,Int.toNat_natCast,zJo 17 y.1.toNat x.1.toNat]
  by_cases hm:mode=2
  · rw[if_pos hm,if_pos hm,hk hm]
  · rw[if_neg hm,if_neg hm]
def zBR (x y:zM):Int:=if x.2.2.1≠0∧x.2.2.1=y.2.2.1 then 2 else 1
theorem zIy {x y:zM} (h:¬ sfC x=0):paD x y=badP (sfC x):=by rw[paD,zDe,if_neg h]
theorem zIz {x y:zM} (h:sfC x=0) (h2:¬ sfC y=0):paD x y=badP (sfC y):=by
  have e:(hcE y (zAL (stE x).2.2)).1=sfC y:=by rw[zIw,hcC,if_neg h2]
  rw[paD,zDe,if_pos h,paD2,e,if_neg h2]
theorem zI0 {x y:zM} (hx:sfC x=0) (hy:sfC y=0) (hk:x.2.2.1=y.2.2.1→x.2.2.2=y.2.2.2):
    ∃ (l:List MsgD) (base:List UInt8),paD x y=(0,zAw x (zBR x y) base l,zAw y (zBR x y) base l)∧efC (zAw x (zBR x y) base l)=0∧efC (zAw y (zBR x y) base l)=0:=by
  have px:=zAY hx;have py:=zAY hy;obtain⟨u1,u2⟩:=zIC (s:=x) (kind:=1) hx px.2.2.1 px.2.2.2.1 (.inl rfl)
  have hs:zAL (stE x).2.2=helM x 1 x.2.2.1:=by rw[zFq hx];rfl
  have hcc:hcC y (helM x 1 x.2.2.1)=0:=by rw[hcC,if_pos hy];exact u1
  have hend:=zKc hcc;have hE:=zHj hcc;rw[u2] at hE
  -- the mode that the server takes
  have hpb:pskB (helH x x.2.2.1) y=decide (x.2.2.1≠0∧x.2.2.1=y.2.2.1):=by
    show(decide (x.2.2.1≠0)&&decide (x.2.2.1=y.2.2.1))=_
    rw[← Bool.decide_and]
  have hmode:zBi (helH x x.2.2.1) y=zBR x y:=by
    unfold zBi zBR;rw[hpb]
    by_cases h:x.2.2.1≠0∧x.2.2.1=y.2.2.1 <;> simp[h]
  obtain⟨psk,hpsk⟩:∃ psk,psk=zC7 (helH x x.2.2.1) y:=⟨_,rfl⟩;have hpk:=zFP (h:=helH x x.2.2.1) hy;rw[← hpsk] at hpk
  have hp2:(psk=0∨psk=x.2.2.1)∧(if psk=0 then (1:Int) else 2)=zBR x y:=by
    rw[hpsk];unfold zC7 zBR;rw[hpb]
    by_cases h:x.2.2.1≠0∧x.2.2.1=y.2.2.1
    · have h0:¬ y.2.2.1=0:=by rw[← h.2];exact h.1
      rw[if_pos h,if_pos (decide_eq_true h),if_neg h0];exact⟨.inr h.2.symm,rfl⟩
    · rw[if_neg h,if_neg (by rw[decide_eq_true_eq];exact h)];exact⟨.inl rfl,rfl⟩
  obtain⟨v1,v2⟩:=zIC (s:=y) (kind:=2) (psk:=psk) hy hpk.1 hpk.2 (.inr rfl)
  have hsec:secN x (zBh y) (zBR x y)=secN y (zBh x) (zBR x y):=zLc hx hy fun h=>by
    unfold zBR at h
    by_cases h2:x.2.2.1≠0∧x.2.2.1=y.2.2.1
    · exact hk h2.2
    · rw[if_neg h2] at h;exact absurd h (by decide)
  obtain⟨S,hS⟩:∃ S,S=secN y (zBh x) (zBR x y):=⟨_,rfl⟩
  have hcs:hcS y (helH x x.2.2.1)=S:=by rw[hS,hcS,hmode];rfl
  obtain⟨A,hA⟩:∃ A,A=helM x 1 x.2.2.1:=⟨_,rfl⟩;obtain⟨B,hB⟩:∃ B,B=helM y 2 psk:=⟨_,rfl⟩;rw[← hA] at hE hs hcc u1 u2 hend;rw[← hB] at v1 v2;rw[hmode,← hpsk,← hB,hcs] at hE;have fA:zE A.1 A.2.length=0:=(zBV u1).2.1;have fB:zE B.1 B.2.length=0:=(zBV v1).2.1;obtain⟨C,hC⟩:∃ C,C=finM S sHsB [A,B]:=⟨_,rfl⟩
  have hcf:hcF y A (helH x x.2.2.1)=C:=by rw[hcF,hcs,← hpsk,← hB,hC]
  rw[hcf] at hE
  have fC:zE C.1 C.2.length=0:=by rw[hC];exact zCi _ _ _
  -- the client hears the server
  have hst:(stE x).2.1=(x,1,0,[A],[],zeroX):=by rw[zFq hx,← hA]
  have he1:efC (x,1,0,[A],[],zeroX)=0:=zLX hx (by decide) (by decide) (by simp) (zCO fun a ha=>by rw[List.mem_singleton.1 ha];exact fA) (.inl rfl) zID
  have hsm:zDj (uhD 2 B).2=zBR x y:=by rw[v2];exact hp2.2
  have hvs:hvS x (uhD 2 B).2=S:=by
    rw[hvS,hsm,v2,hS];exact hsec
  have hps2:psC [A,B]=0:=zFp (fun a ha=>by
    simp only[List.mem_cons,List.not_mem_nil,or_false] at ha;rcases ha with rfl | rfl
    · exact fA
    · exact fB) (by simp)
  have hvc:hvC2 x A B C=0:=by
    have e1:(uhD 2 B).2.2.2=0∨(uhD 2 B).2.2.2=x.2.2.1:=by rw[v2];exact hp2.1
    rw[hvC2,if_pos v1,if_pos e1,hvK,hvs,hC];exact zKb (l:=[A,B]) hps2
  obtain⟨Dm,hD⟩:∃ D,D=hvF x A B C:=⟨_,rfl⟩
  have hDf:Dm=finM S cHsB [A,B,C]:=by rw[hD,hvF,hvs]
  have fD:zE Dm.1 Dm.2.length=0:=by rw[hDf];exact zCi _ _ _
  have hV:hvE (x,1,0,[A],[],zeroX) [B,C]=(0,zAw x (zBR x y) (zC S) [A,B,C,Dm],[Dm]):=by
    rw[zCk (a:=A) he1 rfl rfl,zFs hvc,hsm,hvs,← hD]
  -- the server hears the client
  have hps3:psC [A,B,C]=0:=zFp (fun a ha=>by
    simp only[List.mem_cons,List.not_mem_nil,or_false] at ha;rcases ha with rfl | rfl | rfl
    · exact fA
    · exact fB
    · exact fC) (by simp)
  rw[hE] at hend
  have hnc:hnC2 (y,2,zBR x y,[A,B,C],zC S,zeroX) A B C Dm=0:=by
    rw[hnC2,if_pos u1,hnK,hnS,u2]
    show cfC (zAB (secN y (zBh x) (zBR x y)) cHsB (digM [A,B])) [A,B,C] Dm=0
    rw[← hS,hDf];exact zKb (l:=[A,B,C]) hps3
  have hN:hnE (y,2,zBR x y,[A,B,C],zC S,zeroX) Dm=(0,zAw y (zBR x y) (zC S) [A,B,C,Dm],[]):=by
    rw[zFA (a:=A) (b:=B) (c:=C) hend rfl rfl (by show(zC S).length≠0;rw[zAg];decide),zG0 hnc]
  have hfl:zAD [A,B,C,Dm]=0:=zCO fun a ha=>by
    simp only[List.mem_cons,List.not_mem_nil,or_false] at ha;rcases ha with rfl | rfl | rfl | rfl
    · exact fA
    · exact fB
    · exact fC
    · exact fD
  have hpm:0≤zBR x y∧zBR x y≤2:=by unfold zBR;split <;> decide
  refine⟨[A,B,C,Dm],zC S,?_,zGy hx hpm (by simp) hfl (.inr (zAg _)),zGy hy hpm (by simp) hfl (.inr (zAg _))⟩;rw[paD,zDe,if_pos hx,hs,paD2,hE,if_pos rfl,hst]
  show paD3 (hvE (x,1,0,[A],[],zeroX) [B,C]) (y,2,zBR x y,[A,B,C],zC S,zeroX)=_
  rw[hV,paD3,if_pos rfl]
  show(if (hnE (y,2,zBR x y,[A,B,C],zC S,zeroX) Dm).1=0 then ((0,zAw x (zBR x y) (zC S) [A,B,C,Dm],(hnE (y,2,zBR x y,[A,B,C],zC S,zeroX) Dm).2.1):zA5) else badP (hnE (y,2,zBR x y,[A,B,C],zC S,zeroX) Dm).1)=_
  rw[hN,if_pos rfl]
theorem zBN {l:List MsgD} (h:∀ a∈l,zE a.1 a.2.length=0):zBH l≤161*l.length:=by
  induction l with
  | nil=>simp[zBH]
  | cons a l ih=>
    have h1:=(zA1 (h a (List.mem_cons_self ..))).2
    have h2:=ih fun b hb=>h b (List.mem_cons_of_mem _ hb)
    rw[zCf,List.length_cons];omega
theorem zEL {e:EndD} (h:efC e=0):endT e≤1000:=by
  have hp:=zBM h;have h1:=zAY hp.1;have h2:=zBN (zA0 hp.2.2.2.2.1)
  have h3:e.1.2.2.2.length≤32:=by rw[h1.2.2.2.2.2];unfold keyW;split <;> decide
  have h4:e.2.2.2.2.1.length≤32:=by rcases hp.2.2.2.2.2.1 with h | h <;> omega
  have h5:zFK e.2.2.2.2.2≤128:=by
    have hs:=hp.2.2.2.2.2.2
    have hw:zBm e.2.1≤32:=by unfold zBm;split <;> decide
    simp only[seB,Bool.and_eq_true,decide_eq_true_eq] at hs;unfold zFK;omega
  have h6:=hp.2.2.2.1;unfold endT zMl;omega
end Go.Proofs.YtiabacnmmojfjaaGreatDoor
