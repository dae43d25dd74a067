import Derived.Test.YtiabacnmmojfjaaGreatDoorJoint1
import Derived.Test.YtiabacnmmojfjaaGreatDoorJoint16
import Derived.Test.YtiabacnmmojfjaaGreatDoorJoint3
import Derived.Test.YtiabacnmmojfjaaGreatDoorJoint8
import Derived.Test.YtiabacnmmojfjaaGreatDoorJoint9
import Derived.Test.YtiabacnmmojfjaaGreatDoorJoint11
namespace Go.Proofs.YtiabacnmmojfjaaGreatDoor
open Go.RowKit
def hfC (h:zAB):Int:=if h.1.length=8 then (if inB h.2.1 1 65520&&inB h.2.2 0 9 then 0 else 3) else 1
def hkB (k:Int):Bool:=decide (k=1) || decide (k=2)
def hpB (h:zAB):List (List UInt8):=[h.1,putB h.2.1.toNat 2,[UInt8.ofNat h.2.2.toNat]]
def hpL (h:zAB):List UInt8:=zA2 (hpB h)
def zB9:zAB:=([],0,0)
def phC (k:Int) (h:zAB):Int:=if hkB k then hfC h else 3
def phD (k:Int) (h:zAB):zEd:=if phC k h=0 then (0,k,hpL h) else (phC k h,0,[])
def h3 (bl:List (List UInt8)):Option zAB:=match bl with
  | [a,b,c]=>if b.length=2∧c.length=1∧hfC (a,((getB b:Nat):Int),(((c.getD 0 0).toNat:Nat):Int))=0 then some (a,((getB b:Nat):Int),(((c.getD 0 0).toNat:Nat):Int)) else none
  | _=>none
def huR (body:List UInt8):Option zAB:=(zAe body 0 []).bind h3
def uhC (k:Int) (m:MsgD):Int:=if hkB k then (if zF m.1 m.2.length=0 then (if m.1=k then (if (huR m.2).isSome then 0 else 5) else 1) else zF m.1 m.2.length) else 3
def uhD (k:Int) (m:MsgD):zDJ:=(uhC k m,if uhC k m=0 then (huR m.2).getD zB9 else zB9)
def trL (l:List MsgD):List UInt8:=if psC l=0 then zW (zG l) else []
def fmC (s:List UInt8) (l:List MsgD):Int:=if is32 s then psC l else 1
def fmL (s:List UInt8) (l:List MsgD):List UInt8:=finN s (zW (zG l))
def fmD (s:List UInt8) (l:List MsgD):zEd:=if fmC s l=0 then (0,20,fmL s l) else (fmC s l,0,[])
def cfC (s:List UInt8) (l:List MsgD) (m:MsgD):Int:=if fmC s l=0 then (if zF m.1 m.2.length=0 then (if m.1=20 then (if m.2=fmL s l then 0 else 7) else 1) else zF m.1 m.2.length) else fmC s l
theorem zKf (bs:List UInt8) (h:bs.length=2):putB (getB bs) 2=bs:=by
  match bs,h with
  | [a,b],_=>
    have e:getB [a,b]=a.toNat*256+b.toNat:=by simp[getB]
    have ha:=a.toNat_lt;have hb:=b.toNat_lt;rw[show putB (getB [a,b]) 2=[UInt8.ofNat (getB [a,b] / 256 ^ 1 % 256),UInt8.ofNat (getB [a,b] / 256 ^ 0 % 256)] from rfl,e]
    have e1:(a.toNat*256+b.toNat) / 256 ^ 1 % 256=a.toNat:=by omega
    have e2:(a.toNat*256+b.toNat) / 256 ^ 0 % 256=b.toNat:=by omega
    rw[e1,e2,UInt8.ofNat_toNat,UInt8.ofNat_toNat]
theorem zKg (n:Nat) (h:n<65536):getB (putB n 2)=n:=by
  rw[show putB n 2=[UInt8.ofNat (n / 256 ^ 1 % 256),UInt8.ofNat (n / 256 ^ 0 % 256)] from rfl];simp only[getB,List.foldl_cons,List.foldl_nil,UInt8.toNat_ofNat',Nat.pow_one,Nat.pow_zero,Nat.div_one];omega
theorem zBR {h:zAB} (hc:hfC h=0):h.1.length=8∧1≤h.2.1∧h.2.1≤65520∧0≤h.2.2∧h.2.2≤9:=by
  unfold hfC at hc
  by_cases h1:h.1.length=8
  · rw[if_pos h1] at hc
    by_cases h2:(inB h.2.1 1 65520&&inB h.2.2 0 9)=true
    · have h3:(1≤h.2.1∧h.2.1≤65520)∧0≤h.2.2∧h.2.2≤9:=by simpa [inB] using h2
      exact⟨h1,h3.1.1,h3.1.2,h3.2.1,h3.2.2⟩
    · rw[if_neg h2] at hc;exact absurd hc (by decide)
  · rw[if_neg h1] at hc;exact absurd hc (by decide)
theorem zFm {h:zAB} (hc:hfC h=0):(hpL h).length=14:=by
  have h1:=(zBR hc).1;unfold hpL hpB;rw[zBm,zBm,zHI,List.length_append,List.length_append,zDU,zDU,zDU,zP,h1];rfl
theorem zM5 {h:zAB} (hc:hfC h=0):h3 (hpB h)=some h:=by
  obtain⟨p1,p2,p3,p4,p5⟩:=zBR hc
  have e1:((getB (putB h.2.1.toNat 2):Nat):Int)=h.2.1:=by rw[zKg _ (by omega)];omega
  have e2:((([UInt8.ofNat h.2.2.toNat].getD 0 0).toNat:Nat):Int)=h.2.2:=by
    show(((UInt8.ofNat h.2.2.toNat).toNat:Nat):Int)=_
    rw[UInt8.toNat_ofNat'];omega
  unfold h3 hpB;simp only;rw[e1,e2,if_pos ⟨zP _ _,rfl,hc⟩]
theorem zLf {h:zAB} (hc:hfC h=0):huR (hpL h)=some h:=by
  obtain⟨p1,p2,p3,p4,p5⟩:=zBR hc
  have hs:=zGE (hpB h) [] [] (fun b hb=>by
    unfold hpB at hb;simp only[List.mem_cons,List.not_mem_nil,or_false] at hb;rcases hb with rfl | rfl | rfl
    · omega
    · rw[zP];decide
    · simp) (by simp[hpB])
  unfold huR;rw[show zAe (hpL h) 0 []=some (hpB h) from hs];exact zM5 hc
theorem zI4 {body:List UInt8} {h:zAB} (hu:huR body=some h):hfC h=0∧hpL h=body:=by
  unfold huR at hu;cases hs:zAe body 0 [] with
  | none=>rw[hs] at hu;cases hu
  | some bl=>
    rw[hs] at hu;have hb:=zGF body body.length 0 [] bl (by omega) (Nat.zero_le _) rfl (by decide) (fun b hb=>by cases hb) hs
    match bl,hu with
    | [a,b,c],hu=>
      have hu2:h3 [a,b,c]=some h:=hu;unfold h3 at hu2;simp only at hu2
      by_cases hc:b.length=2∧c.length=1∧hfC (a,((getB b:Nat):Int),(((c.getD 0 0).toNat:Nat):Int))=0
      · rw[if_pos hc] at hu2;cases hu2;refine⟨hc.2.2,?_⟩
        have e1:putB (((getB b:Nat):Int)).toNat 2=b:=by rw[Int.toNat_natCast];exact zKf b hc.1
        have e2:[UInt8.ofNat ((((c.getD 0 0).toNat:Nat):Int)).toNat]=c:=by
          rw[Int.toNat_natCast,UInt8.ofNat_toNat]
          match c,hc.2.1 with
          | [x],_=>rfl
        unfold hpL hpB;simp only;rw[e1,e2];exact hb.1
      · rw[if_neg hc] at hu2;cases hu2
    | [],hu=>cases hu
    | [_],hu=>cases hu
    | [_,_],hu=>cases hu
    | _ :: _ :: _ :: _ :: _,hu=>cases hu
def zeroS:zT:=(0,[],0,[])
def zeroX:zAQ:=([],[],[],[])
def zM6:EndD:=(zeroS,0,0,[],[],zeroX)
def badE (c:Int):zAf:=(c,zM6,[])
def keyW (psk:Int):Nat:=if psk=0 then 0 else 32
def sfC (s:zT):Int:=if inB s.1 1 65519&&inB s.2.2.1 0 9 then (if s.2.1.length=8∧s.2.2.2.length=keyW s.2.2.1 then 0 else 1) else 3
def seB (x:zAQ) (n:Nat):Bool:=decide (x.1.length=n)&&(decide (x.2.1.length=n)&&(decide (x.2.2.1.length=n)&&decide (x.2.2.2.length=n)))
def zBj (stage:Int):Nat:=if stage=3 then 32 else 0
def efC (e:EndD):Int:=
  if sfC e.1=0 then (if inB e.2.1 1 3&&inB e.2.2.1 0 2 then (if e.2.2.2.1.length≤4 then (if zAJ e.2.2.2.1=0 then (if (e.2.2.2.2.1.length=0∨e.2.2.2.2.1.length=32)∧seB e.2.2.2.2.2 (zBj e.2.1)=true then 0 else 1) else zAJ e.2.2.2.1) else 2) else 3) else sfC e.1
def zC2 (s:zT):Int:=((powN 17 s.1.toNat:Nat):Int)
def helH (s:zT) (psk:Int):zAB:=(s.2.1,zC2 s,psk)
def helM (s:zT) (kind psk:Int):MsgD:=(kind,hpL (helH s psk))
def secN (s:zT) (share mode:Int):List UInt8:=zEm (zAp (if mode=2 then s.2.2.2 else [])) (putB (powN share.toNat s.1.toNat) 2)
def digM (l:List MsgD):List UInt8:=zW (zG l)
def finM (secret lab:List UInt8) (l:List MsgD):MsgD:=(20,finN (zAI secret lab (digM (l.take 2))) (digM l))
def sHsB:List UInt8:=[115,32,104,115,32,116,114,97,102,102,105,99]
def cHsB:List UInt8:=[99,32,104,115,32,116,114,97,102,102,105,99]
theorem zDy:(⟨#[115,32,104,115,32,116,114,97,102,102,105,99]⟩:ByteArray)=strB sHsB:=rfl
theorem zFn:(⟨#[99,32,104,115,32,116,114,97,102,102,105,99]⟩:ByteArray)=strB cHsB:=rfl
def zCA (base digest:List UInt8):zAQ:=(zAI base cApB digest,zAI base sApB digest,zAI base zC6 digest,zAI base zC7 digest)
def zBa (s:zT) (mode:Int) (base:List UInt8) (l:List MsgD):EndD:=(s,3,mode,l,base,zCA base (digM (l.take 3)))
def stE (s:zT):zAf:=if sfC s=0 then (0,(s,1,0,[helM s 1 s.2.2.1],[],zeroX),[helM s 1 s.2.2.1]) else badE (sfC s)
def pskB (h:zAB) (s:zT):Bool:=decide (h.2.2≠0)&&decide (h.2.2=s.2.2.1)
def zBp (h:zAB) (s:zT):Int:=if pskB h s then 2 else 1
def zDg (h:zAB) (s:zT):Int:=if pskB h s then s.2.2.1 else 0
def hcC (s:zT) (m:MsgD):Int:=if sfC s=0 then uhC 1 m else sfC s
def hcS (s:zT) (h:zAB):List UInt8:=secN s h.2.1 (zBp h s)
def hcF (s:zT) (m:MsgD) (h:zAB):MsgD:=finM (hcS s h) sHsB [m,helM s 2 (zDg h s)]
def hcE (s:zT) (m:MsgD):zAf:=
  if hcC s m=0 then (0,(s,2,zBp (uhD 1 m).2 s,[m,helM s 2 (zDg (uhD 1 m).2 s),hcF s m (uhD 1 m).2],zH (hcS s (uhD 1 m).2),zeroX),[helM s 2 (zDg (uhD 1 m).2 s),hcF s m (uhD 1 m).2])
  else badE (hcC s m)
def zDz (h:zAB):Int:=if h.2.2=0 then 1 else 2
def hvS (s:zT) (h:zAB):List UInt8:=secN s h.2.1 (zDz h)
def hvK (s:zT) (a b:MsgD) (h:zAB):List UInt8:=zAI (hvS s h) sHsB (digM [a,b])
def hvC2 (s:zT) (a b c:MsgD):Int:=if uhC 2 b=0 then (if (uhD 2 b).2.2.2=0∨(uhD 2 b).2.2.2=s.2.2.1 then cfC (hvK s a b (uhD 2 b).2) [a,b] c else 8) else uhC 2 b
def hvF (s:zT) (a b c:MsgD):MsgD:=finM (hvS s (uhD 2 b).2) cHsB [a,b,c]
def hvE2 (s:zT) (a b c:MsgD):zAf:=
  if hvC2 s a b c=0 then (0,zBa s (zDz (uhD 2 b).2) (zH (hvS s (uhD 2 b).2)) [a,b,c,hvF s a b c],[hvF s a b c]) else badE (hvC2 s a b c)
def zAS (l:List MsgD):MsgD:=l.headD (0,[])
def hvE (e:EndD) (l:List MsgD):zAf:=
  if efC e=0 then (if e.2.1=1∧e.2.2.2.1.length=1 then (if l.length=2 then hvE2 e.1 (zAS e.2.2.2.1) (zAS l) (zAS l.tail) else badE 1) else badE 8) else badE (efC e)
def hnS (e:EndD) (h:zAB):List UInt8:=secN e.1 h.2.1 e.2.2.1
def hnK (e:EndD) (a b:MsgD) (h:zAB):List UInt8:=zAI (hnS e h) cHsB (digM [a,b])
def hnC2 (e:EndD) (a b c m:MsgD):Int:=if uhC 1 a=0 then cfC (hnK e a b (uhD 1 a).2) [a,b,c] m else uhC 1 a
def hnE2 (e:EndD) (a b c m:MsgD):zAf:=
  if hnC2 e a b c m=0 then (0,zBa e.1 e.2.2.1 e.2.2.2.2.1 [a,b,c,m],[]) else badE (hnC2 e a b c m)
def hnE (e:EndD) (m:MsgD):zAf:=
  if efC e=0 then (if e.2.1=2∧e.2.2.2.1.length=3∧e.2.2.2.2.1.length≠0 then hnE2 e (zAS e.2.2.2.1) (zAS e.2.2.2.1.tail) (zAS e.2.2.2.1.tail.tail) m else badE 8) else badE (efC e)
theorem zAq {s:zT} (h:sfC s=0):1≤s.1∧s.1≤65519∧0≤s.2.2.1∧s.2.2.1≤9∧s.2.1.length=8∧s.2.2.2.length=keyW s.2.2.1:=by
  unfold sfC at h
  by_cases h1:(inB s.1 1 65519&&inB s.2.2.1 0 9)=true
  · rw[if_pos h1] at h
    by_cases h2:s.2.1.length=8∧s.2.2.2.length=keyW s.2.2.1
    · have h3:(1≤s.1∧s.1≤65519)∧0≤s.2.2.1∧s.2.2.1≤9:=by simpa [inB] using h1
      exact⟨h3.1.1,h3.1.2,h3.2.1,h3.2.2,h2.1,h2.2⟩
    · rw[if_neg h2] at h;exact absurd h (by decide)
  · rw[if_neg h1] at h;exact absurd h (by decide)
theorem zKh {s:zT} (h:sfC s=0):1≤zC2 s∧zC2 s≤65520:=by
  have hp:=zAq h;have h1:=zGi 17 s.1.toNat;have h2:1≤powN 17 s.1.toNat:=zIe (by decide) (by decide) (by omega);unfold zC2;omega
theorem zG0 {s:zT} {psk:Int} (h:sfC s=0) (h0:0≤psk) (h9:psk≤9):hfC (helH s psk)=0:=by
  have hp:=zAq h;have hs:=zKh h
  have e:(inB (helH s psk).2.1 1 65520&&inB (helH s psk).2.2 0 9)=true:=by
    show(inB (zC2 s) 1 65520&&inB psk 0 9)=true
    simp[inB,hs.1,hs.2,h0,h9]
  unfold hfC;rw[if_pos (show(helH s psk).1.length=8 from hp.2.2.2.2.1),if_pos e]
theorem zFo {k:Int} {n:Nat} (h0:0≤k) (h1:k≤255) (hn:n≤160):zF k n=0:=by
  rw[zF,if_pos (by simp[inB,h0,h1]),if_pos hn]
theorem zEJ {s:zT} {kind psk:Int} (h:sfC s=0) (h0:0≤psk) (h9:psk≤9):(helM s kind psk).2.length=14:=zFm (zG0 h h0 h9)
theorem zM7 {s:zT} {kind psk:Int} (h:sfC s=0) (h0:0≤psk) (h9:psk≤9) (hk:kind=1∨kind=2):uhC kind (helM s kind psk)=0∧(uhD kind (helM s kind psk)).2=helH s psk:=by
  have hu:huR (helM s kind psk).2=some (helH s psk):=zLf (zG0 h h0 h9)
  have hkb:hkB kind=true:=by rcases hk with rfl | rfl <;> rfl
  have hw:zF (helM s kind psk).1 (helM s kind psk).2.length=0:=zFo (by show 0≤kind;omega) (by show kind≤255;omega) (by rw[zEJ h h0 h9];decide)
  have hc:uhC kind (helM s kind psk)=0:=by
    rw[uhC,if_pos hkb,if_pos hw,if_pos (show(helM s kind psk).1=kind from rfl),hu];rfl
  refine⟨hc,?_⟩;rw[uhD,if_pos hc,hu];rfl
theorem zBy {k:Int} {m:MsgD} (h:uhC k m=0):hkB k=true∧zF m.1 m.2.length=0∧m.1=k∧∃ x,huR m.2=some x∧(uhD k m).2=x∧hfC x=0∧m.2.length=14:=by
  have hc:=h;unfold uhC at h
  by_cases h1:hkB k=true
  · rw[if_pos h1] at h
    by_cases h2:zF m.1 m.2.length=0
    · rw[if_pos h2] at h
      by_cases h3:m.1=k
      · rw[if_pos h3] at h;cases hu:huR m.2 with
        | none=>rw[hu] at h;exact absurd h (by decide)
        | some x=>
          have hb:=zI4 hu;refine⟨h1,h2,h3,x,rfl,?_,hb.1,?_⟩
          · rw[uhD,if_pos hc,hu];rfl
          · rw[← hb.2];exact zFm hb.1
      · rw[if_neg h3] at h;exact absurd h (by decide)
    · rw[if_neg h2] at h;exact absurd h h2
  · rw[if_neg h1] at h;exact absurd h (by decide)
theorem zEK {l:List MsgD} (h:∀ a∈l,zF a.1 a.2.length=0):zAJ l=0:=zCm fun _ _ hb=>h _ (List.mem_of_getElem? hb)
theorem zBI {l:List MsgD} (h:∀ a∈l,zF a.1 a.2.length=0):(zG l).length≤164*l.length:=by
  induction l with
  | nil=>simp[zG]
  | cons a l ih=>
    have h1:=(zAx (h a (List.mem_cons_self ..))).2
    have h2:=ih fun b hb=>h b (List.mem_cons_of_mem _ hb)
    rw[zB0,List.length_append,zDB,List.length_cons];omega
theorem zHn {l:List MsgD} (h:∀ a∈l,zF a.1 a.2.length=0) (hl:l.length≤3):psC l=0:=by
  have h1:=zBI h;rw[psC,if_pos (by omega),if_pos (zEK h),if_pos (by omega)]
theorem zMJ {l:List MsgD} (h:psC l=0):trL l=digM l:=by rw[trL,if_pos h];rfl
theorem zCY (l:List MsgD):(digM l).length=32:=zAz _
theorem zBz (s:zT) (a b:Int):(secN s a b).length=32:=zKW _ _
theorem zGb (a b:List UInt8) (l:List MsgD):zF (finM a b l).1 (finM a b l).2.length=0:=zFo (by show(0:Int)≤20;decide) (by show(20:Int)≤255;decide) (by rw[show(finM a b l).2.length=32 from zIb _ _];decide)
theorem zFN (a b:List UInt8) (l:List MsgD):(finM a b l).2.length=32:=zIb _ _
theorem zCx {sec:List UInt8} {l:List MsgD} {m:MsgD} (h:cfC sec l m=0):zF m.1 m.2.length=0∧m.1=20:=by
  unfold cfC at h
  by_cases h0:fmC sec l=0
  · rw[if_pos h0] at h
    by_cases h1:zF m.1 m.2.length=0
    · rw[if_pos h1] at h
      by_cases h2:m.1=20
      · exact⟨h1,h2⟩
      · rw[if_neg h2] at h;exact absurd h (by decide)
    · rw[if_neg h1] at h;exact absurd h h1
  · rw[if_neg h0] at h;exact absurd h h0
theorem zBJ {e:EndD} (h:efC e=0):sfC e.1=0∧(1≤e.2.1∧e.2.1≤3)∧(0≤e.2.2.1∧e.2.2.1≤2)∧e.2.2.2.1.length≤4∧zAJ e.2.2.2.1=0∧(e.2.2.2.2.1.length=0∨e.2.2.2.2.1.length=32)∧seB e.2.2.2.2.2 (zBj e.2.1)=true:=by
  unfold efC at h
  by_cases h0:sfC e.1=0
  · rw[if_pos h0] at h
    by_cases h1:(inB e.2.1 1 3&&inB e.2.2.1 0 2)=true
    · rw[if_pos h1] at h
      by_cases h2:e.2.2.2.1.length≤4
      · rw[if_pos h2] at h
        by_cases h3:zAJ e.2.2.2.1=0
        · rw[if_pos h3] at h
          by_cases h4:(e.2.2.2.2.1.length=0∨e.2.2.2.2.1.length=32)∧seB e.2.2.2.2.2 (zBj e.2.1)=true
          · have h5:(1≤e.2.1∧e.2.1≤3)∧0≤e.2.2.1∧e.2.2.1≤2:=by simpa [inB] using h1
            exact⟨h0,h5.1,h5.2,h2,h3,h4.1,h4.2⟩
          · rw[if_neg h4] at h;exact absurd h (by decide)
        · rw[if_neg h3] at h;exact absurd h h3
      · rw[if_neg h2] at h;exact absurd h (by decide)
    · rw[if_neg h1] at h;exact absurd h (by decide)
  · rw[if_neg h0] at h;exact absurd h h0
theorem zNj {s:zT} {st mo:Int} {l:List MsgD} {b:List UInt8} {x:zAQ} (h0:sfC s=0) (h1:1≤st∧st≤3) (h2:0≤mo∧mo≤2) (h3:l.length≤4) (h4:zAJ l=0) (h5:b.length=0∨b.length=32) (h6:seB x (zBj st)=true):efC (s,st,mo,l,b,x)=0:=by
  unfold efC;rw[if_pos (show sfC (s,st,mo,l,b,x).1=0 from h0),if_pos (show(inB st 1 3&&inB mo 0 2)=true by simp[inB,h1,h2]),if_pos (show l.length≤4 from h3),if_pos (show zAJ l=0 from h4),if_pos (show(b.length=0∨b.length=32)∧seB x (zBj st)=true from⟨h5,h6⟩)]
theorem zM8:seB zeroX 0=true:=rfl
theorem zM9 (b d:List UInt8):seB (zCA b d) 32=true:=by simp[seB,zCA,zFi]
theorem zKi {s:zT} {mo:Int} {l:List MsgD} {b:List UInt8} (h0:sfC s=0) (h2:0≤mo∧mo≤2) (h3:l.length≤4) (h4:zAJ l=0) (h5:b.length=0∨b.length=32):efC (zBa s mo b l)=0:=
  zNj h0 (by decide) h2 h3 h4 h5 (zM9 _ _)
theorem zII (h:zAB) (s:zT):zBp h s=1∨zBp h s=2:=by unfold zBp;split <;> simp
theorem zIJ (h:zAB):zDz h=1∨zDz h=2:=by unfold zDz;split <;> simp
theorem zFO {h:zAB} {s:zT} (hs:sfC s=0):0≤zDg h s∧zDg h s≤9:=by
  have hp:=zAq hs;unfold zDg
  split <;> omega
theorem zLg {s:zT} {m:MsgD} (h:hcC s m=0):sfC s=0∧uhC 1 m=0:=by
  unfold hcC at h
  by_cases h0:sfC s=0
  · rw[if_pos h0] at h;exact⟨h0,h⟩
  · rw[if_neg h0] at h;exact absurd h h0
theorem zEq {s:zT} {kind psk:Int} (h:sfC s=0) (h0:0≤psk) (h9:psk≤9) (hk:kind=1∨kind=2):zF (helM s kind psk).1 (helM s kind psk).2.length=0:=
  zFo (by show 0≤kind;omega) (by show kind≤255;omega) (by rw[zEJ h h0 h9];decide)
theorem zHo {s:zT} (h:sfC s=0):stE s=(0,(s,1,0,[helM s 1 s.2.2.1],[],zeroX),[helM s 1 s.2.2.1]):=by rw[stE,if_pos h]
theorem zNA {s:zT} (h:¬ sfC s=0):stE s=badE (sfC s):=by rw[stE,if_neg h]
theorem zFp {s:zT} {m:MsgD} (h:hcC s m=0):hcE s m=(0,(s,2,zBp (uhD 1 m).2 s,[m,helM s 2 (zDg (uhD 1 m).2 s),hcF s m (uhD 1 m).2],zH (hcS s (uhD 1 m).2),zeroX),[helM s 2 (zDg (uhD 1 m).2 s),hcF s m (uhD 1 m).2]):=by rw[hcE,if_pos h]
theorem zFq {s:zT} {m:MsgD} (h:¬ hcC s m=0):hcE s m=badE (hcC s m):=by rw[hcE,if_neg h]
theorem zI5 (s:zT) (m:MsgD):(hcE s m).1=hcC s m:=by
  by_cases h:hcC s m=0
  · rw[zFp h];exact h.symm
  · rw[zFq h];rfl
theorem zIK {s:zT} {m:MsgD} (h:hcC s m=0):efC (hcE s m).2.1=0:=by
  obtain⟨h0,h1⟩:=zLg h;obtain⟨-,hf,-⟩:=zBy h1;have hp:=zFO (h:=(uhD 1 m).2) h0;rw[zFp h];refine zNj h0 (by decide) (by rcases zII (uhD 1 m).2 s with h | h <;> rw[h] <;> decide) (by simp) (zEK fun a ha=>?_) (.inr (zA0 _)) zM8;simp only[List.mem_cons,List.not_mem_nil,or_false] at ha;rcases ha with rfl | rfl | rfl
  · exact hf
  · exact zEq h0 hp.1 hp.2 (.inr rfl)
  · exact zGb _ _ _
theorem zG1 {e:EndD} {l:List MsgD} (h:¬ efC e=0):hvE e l=badE (efC e):=by rw[hvE,if_neg h]
theorem zCj {e:EndD} {l:List MsgD} (h:efC e=0) (hs:¬ (e.2.1=1∧e.2.2.2.1.length=1)):hvE e l=badE 8:=by rw[hvE,if_pos h,if_neg hs]
theorem zFP {e:EndD} {l:List MsgD} (h:efC e=0) (h1:e.2.1=1) (h2:e.2.2.2.1.length=1) (hl:¬ l.length=2):hvE e l=badE 1:=by rw[hvE,if_pos h,if_pos ⟨h1,h2⟩,if_neg hl]
theorem zC3 {e:EndD} {a b c:MsgD} (h:efC e=0) (h1:e.2.1=1) (h2:e.2.2.2.1=[a]):hvE e [b,c]=hvE2 e.1 a b c:=by
  rw[hvE,if_pos h,if_pos ⟨h1,by rw[h2];rfl⟩,if_pos (show [b,c].length=2 from rfl),h2];rfl
theorem zIL {e:EndD} {m:MsgD} (h:¬ efC e=0):hnE e m=badE (efC e):=by rw[hnE,if_neg h]
theorem zDL {e:EndD} {m:MsgD} (h:efC e=0) (hs:¬ (e.2.1=2∧e.2.2.2.1.length=3∧e.2.2.2.2.1.length≠0)):hnE e m=badE 8:=by rw[hnE,if_pos h,if_neg hs]
theorem zFr {e:EndD} {a b c m:MsgD} (h:efC e=0) (h1:e.2.1=2) (h2:e.2.2.2.1=[a,b,c]) (h3:e.2.2.2.2.1.length≠0):hnE e m=hnE2 e a b c m:=by
  rw[hnE,if_pos h,if_pos ⟨h1,by rw[h2];rfl,h3⟩,h2];rfl
theorem zDc {l:List MsgD} (h:l.length=3):∃ a b c,l=[a,b,c]:=by
  match l,h with
  | [a,b,c],_=>exact⟨a,b,c,rfl⟩
theorem zG2 {s:zT} {a b c:MsgD} (h:hvC2 s a b c=0):hvE2 s a b c=(0,zBa s (zDz (uhD 2 b).2) (zH (hvS s (uhD 2 b).2)) [a,b,c,hvF s a b c],[hvF s a b c]):=by rw[hvE2,if_pos h]
theorem zCF {s:zT} {a b c:MsgD} (h:¬ hvC2 s a b c=0):hvE2 s a b c=badE (hvC2 s a b c):=by rw[hvE2,if_neg h]
theorem zIM {e:EndD} {a b c m:MsgD} (h:hnC2 e a b c m=0):hnE2 e a b c m=(0,zBa e.1 e.2.2.1 e.2.2.2.2.1 [a,b,c,m],[]):=by rw[hnE2,if_pos h]
theorem zEL {e:EndD} {a b c m:MsgD} (h:¬ hnC2 e a b c m=0):hnE2 e a b c m=badE (hnC2 e a b c m):=by rw[hnE2,if_neg h]
theorem zLh {s:zT} {a b c:MsgD} (h:hvC2 s a b c=0):uhC 2 b=0∧((uhD 2 b).2.2.2=0∨(uhD 2 b).2.2.2=s.2.2.1)∧cfC (hvK s a b (uhD 2 b).2) [a,b] c=0:=by
  unfold hvC2 at h
  by_cases h1:uhC 2 b=0
  · rw[if_pos h1] at h
    by_cases h2:(uhD 2 b).2.2.2=0∨(uhD 2 b).2.2.2=s.2.2.1
    · rw[if_pos h2] at h;exact⟨h1,h2,h⟩
    · rw[if_neg h2] at h;exact absurd h (by decide)
  · rw[if_neg h1] at h;exact absurd h h1
theorem zLi {e:EndD} {a b c m:MsgD} (h:hnC2 e a b c m=0):uhC 1 a=0∧cfC (hnK e a b (uhD 1 a).2) [a,b,c] m=0:=by
  unfold hnC2 at h
  by_cases h1:uhC 1 a=0
  · rw[if_pos h1] at h;exact⟨h1,h⟩
  · rw[if_neg h1] at h;exact absurd h h1
theorem zG3 {e:EndD} {l:List MsgD} (h:(hvE e l).1=0):∃ a b c,efC e=0∧e.2.1=1∧e.2.2.2.1=[a]∧l=[b,c]∧hvC2 e.1 a b c=0∧hvE e l=(0,zBa e.1 (zDz (uhD 2 b).2) (zH (hvS e.1 (uhD 2 b).2)) [a,b,c,hvF e.1 a b c],[hvF e.1 a b c]):=by
  by_cases h0:efC e=0
  · by_cases h1:e.2.1=1∧e.2.2.2.1.length=1
    · by_cases h2:l.length=2
      · obtain⟨a,ha⟩:=List.length_eq_one_iff.1 h1.2
        match l,h2 with
        | [b,c],_=>
          have hg:=zC3 (b:=b) (c:=c) h0 h1.1 ha
          by_cases h3:hvC2 e.1 a b c=0
          · exact⟨a,b,c,h0,h1.1,ha,rfl,h3,by rw[hg,zG2 h3]⟩
          · rw[hg,zCF h3] at h;exact absurd h h3
      · rw[zFP h0 h1.1 h1.2 h2] at h;exact absurd h (by decide)
    · rw[zCj h0 h1] at h;exact absurd h (by decide)
  · rw[zG1 h0] at h;exact absurd h h0
theorem zG4 {e:EndD} {m:MsgD} (h:(hnE e m).1=0):∃ a b c,efC e=0∧e.2.1=2∧e.2.2.2.1=[a,b,c]∧e.2.2.2.2.1.length≠0∧hnC2 e a b c m=0∧hnE e m=(0,zBa e.1 e.2.2.1 e.2.2.2.2.1 [a,b,c,m],[]):=by
  by_cases h0:efC e=0
  · by_cases h1:e.2.1=2∧e.2.2.2.1.length=3∧e.2.2.2.2.1.length≠0
    · obtain⟨a,b,c,ha⟩:=zDc h1.2.1;have hg:=zFr (m:=m) h0 h1.1 ha h1.2.2
      by_cases h3:hnC2 e a b c m=0
      · exact⟨a,b,c,h0,h1.1,ha,h1.2.2,h3,by rw[hg,zIM h3]⟩
      · rw[hg,zEL h3] at h;exact absurd h h3
    · rw[zDL h0 h1] at h;exact absurd h (by decide)
  · rw[zIL h0] at h;exact absurd h h0
theorem zKj {e:EndD} {l:List MsgD} (h:(hvE e l).1=0):efC (hvE e l).2.1=0:=by
  obtain⟨a,b,c,h0,-,h2,rfl,h4,h5⟩:=zG3 h;obtain⟨p1,-,p3⟩:=zLh h4;have hp:=zBJ h0;have hf:∀ x∈e.2.2.2.1,zF x.1 x.2.length=0:=zAw hp.2.2.2.2.1;rw[h5];refine zKi hp.1 (by rcases zIJ (uhD 2 b).2 with h | h <;> rw[h] <;> decide) (by simp) (zEK fun x hx=>?_) (.inr (zA0 _));simp only[List.mem_cons,List.not_mem_nil,or_false] at hx;rcases hx with rfl | rfl | rfl | rfl
  · exact hf x (by rw[h2];exact List.mem_singleton.2 rfl)
  · exact(zBy p1).2.1
  · exact(zCx p3).1
  · exact zGb _ _ _
theorem zIN {e:EndD} {m:MsgD} (h:(hnE e m).1=0):efC (hnE e m).2.1=0:=by
  obtain⟨a,b,c,h0,-,h2,h3,h4,h5⟩:=zG4 h;obtain⟨p1,p3⟩:=zLi h4;have hp:=zBJ h0;have hf:∀ x∈e.2.2.2.1,zF x.1 x.2.length=0:=zAw hp.2.2.2.2.1;rw[h2] at hf;rw[h5];refine zKi hp.1 hp.2.2.1 (by simp) (zEK fun x hx=>?_) hp.2.2.2.2.2.1;simp only[List.mem_cons,List.not_mem_nil,or_false] at hx;rcases hx with rfl | rfl | rfl | rfl
  · exact hf x (by simp)
  · exact hf x (by simp)
  · exact hf x (by simp)
  · exact(zCx p3).1
theorem zBK {l:List MsgD} (h:∀ a∈l,zF a.1 a.2.length=0):zBD l≤161*l.length:=by
  induction l with
  | nil=>simp[zBD]
  | cons a l ih=>
    have h1:=(zAx (h a (List.mem_cons_self ..))).2
    have h2:=ih fun b hb=>h b (List.mem_cons_of_mem _ hb)
    rw[zCh,List.length_cons];omega
theorem zFs {e:EndD} (h:efC e=0):endT e≤1000:=by
  have hp:=zBJ h;have h1:=zAq hp.1;have h2:=zBK (zAw hp.2.2.2.2.1)
  have h3:e.1.2.2.2.length≤32:=by rw[h1.2.2.2.2.2];unfold keyW;split <;> decide
  have h4:e.2.2.2.2.1.length≤32:=by rcases hp.2.2.2.2.2.1 with h | h <;> omega
  have h5:zFJ e.2.2.2.2.2≤128:=by
    have hs:=hp.2.2.2.2.2.2
    have hw:zBj e.2.1≤32:=by unfold zBj;split <;> decide
    simp only[seB,Bool.and_eq_true,decide_eq_true_eq] at hs;unfold zFJ;omega
  have h6:=hp.2.2.2.1;unfold endT zMo;omega
end Go.Proofs.YtiabacnmmojfjaaGreatDoor
