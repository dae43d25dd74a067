import Derived.Test.YtiabacnmmojfjaaGreatDoorShkN
namespace Go.Proofs.YtiabacnmmojfjaaGreatDoor
open Go.RowKit
def hcT0 (s:zT) (m:MsgD):ShkD:=⟨(s,0,0,[],[],zeroX),[m],[],([],0,0),[]⟩
def hcT1 (s:zT) (m:MsgD):ShkD:=zHC { hcT0 s m with other:=(uhD 1 m).2 } m
def hcT2 (s:zT) (m:MsgD):ShkD:={ hcT1 s m with e:=eMo (hcT1 s m).e (zBp (hcT1 s m).other (hcT1 s m).e.1) }
def hcT3 (s:zT) (m:MsgD):ShkD:=zF9 (hcT2 s m) (helM (hcT2 s m).e.1 2 (if (hcT2 s m).e.2.2.1=2 then (hcT2 s m).e.1.2.2.1 else 0))
def hcT4 (s:zT) (m:MsgD):ShkD:={ hcT3 s m with secret:=secN (hcT3 s m).e.1 (hcT3 s m).other.2.1 (hcT3 s m).e.2.2.1 }
def hcT5 (s:zT) (m:MsgD):ShkD:={ hcT4 s m with e:=eBa (hcT4 s m).e (zH (hcT4 s m).secret) }
def hcT6 (s:zT) (m:MsgD):ShkD:={ zF9 (hcT5 s m) (finM (hcT5 s m).secret sHsB (hcT5 s m).e.2.2.2.1) with e:=eSt (zF9 (hcT5 s m) (finM (hcT5 s m).secret sHsB (hcT5 s m).e.2.2.2.1)).e 2 }
theorem zMO (h:zAB) (s:zT):(if zBp h s=2 then s.2.2.1 else 0)=zDg h s:=by
 unfold zBp zDg
 cases pskB h s <;> simp
theorem zKz (s:zT) (m:MsgD):(hcT5 s m).e.2.2.2.1=[m,helM s 2 (zDg (uhD 1 m).2 s)]:=by
 show [m,helM s 2 (if zBp (uhD 1 m).2 s=2 then s.2.2.1 else 0)]=_
 rw[zMO]
theorem zMP {s:zT} {m:MsgD} (hc:hcC s m=0):hcE s m=(0,(hcT6 s m).e,(hcT6 s m).send):=by
 have e1:helM s 2 (if zBp (uhD 1 m).2 s=2 then s.2.2.1 else 0)=helM s 2 (zDg (uhD 1 m).2 s):=by rw[zMO]
 rw[zFp hc,hcF,hcS,← e1];rfl
theorem zNv {s:zT} {m:MsgD} (hs:sfC s=0) (hu:uhC 1 m=0):psC (hcT5 s m).e.2.2.2.1=0:=by
 have hp:=zFO (h:=(uhD 1 m).2) hs;rw[zKz];refine zHn (fun a ha=>?_) (by simp);simp only[List.mem_cons,List.not_mem_nil,or_false] at ha;rcases ha with rfl | rfl
 ·exact(zBy hu).2.1
 ·exact zEq hs hp.1 hp.2 (.inr rfl)
theorem zBt {k:Int} {m:MsgD} (hu:uhC k m=0):1≤(uhD k m).2.2.1∧(uhD k m).2.2.1≤65520:=by
 obtain⟨-,-,-,y,-,huy,huc,-⟩:=zBy hu;rw[huy];obtain⟨-,h1,h2,-,-⟩:=zBR huc;exact⟨h1,h2⟩
def hvT0 (e:EndD) (l:List MsgD):ShkD:=⟨e,l,[],([],0,0),[]⟩
def hvT1 (e:EndD) (l:List MsgD):ShkD:=zHC { hvT0 e l with other:=(uhD 2 (zAS l)).2 } (zAS l)
def hvT2 (e:EndD) (l:List MsgD):ShkD:={ hvT1 e l with e:=eMo (hvT1 e l).e (zBp (hvT1 e l).other (hvT1 e l).e.1) }
def hvT3 (e:EndD) (l:List MsgD):ShkD:={ hvT2 e l with secret:=secN (hvT2 e l).e.1 (hvT2 e l).other.2.1 (hvT2 e l).e.2.2.1 }
def hvT4 (e:EndD) (l:List MsgD):ShkD:={ hvT3 e l with e:=eBa (hvT3 e l).e (zH (hvT3 e l).secret) }
def hvT5 (e:EndD) (l:List MsgD):ShkD:=zHC (hvT4 e l) (zAS l.tail)
def hvT6 (e:EndD) (l:List MsgD):ShkD:=zF9 (hvT5 e l) (finM (hvT5 e l).secret cHsB (hvT5 e l).e.2.2.2.1)
def hvT7 (e:EndD) (l:List MsgD):ShkD:={ hvT6 e l with e:=eSt (eSe (hvT6 e l).e (zCA (hvT6 e l).e.2.2.2.2.1 (digM ((hvT6 e l).e.2.2.2.1.take 3)))) 3 }
theorem zK0 {h:zAB} {s:zT} (hk:h.2.2=0∨h.2.2=s.2.2.1):zBp h s=zDz h:=by
 unfold zBp zDz pskB
 by_cases h0:h.2.2=0
 ·simp[h0]
 ·rcases hk with h1 | h1
  ·exact absurd h1 h0
  ·simp only[h0,if_false];rw[if_pos];simp[h1];intro e;exact h0 (h1.trans e)
theorem zNw {e:EndD} {l:List MsgD} {a b c:MsgD} (he:efC e=0) (hst:e.2.1=1) (hl:e.2.2.2.1=[a]) (hm:l=[b,c]) (hu:uhC 2 b=0) (hk:(uhD 2 b).2.2.2=0∨(uhD 2 b).2.2.2=e.1.2.2.1) (hf:cfC (finK (hvT4 e l) sHsB) (hvT4 e l).e.2.2.2.1 c=0):
  hvE e l=(0,(hvT7 e l).e,(hvT7 e l).send):=by
 subst hm;obtain⟨s,st,mo,ms,base,x⟩:=e;simp only at hl hst hk;subst hl hst;have hmode:zBp (uhD 2 b).2 s=zDz (uhD 2 b).2:=zK0 hk
 have hf2:cfC (hvK s a b (uhD 2 b).2) [a,b] c=0:=by
  have h:cfC (zAI (secN s (uhD 2 b).2.2.1 (zBp (uhD 2 b).2 s)) sHsB (digM [a,b])) [a,b] c=0:=hf;rw[hmode] at h;exact h
 have hc:hvC2 s a b c=0:=by rw[hvC2,if_pos hu,if_pos hk];exact hf2
 rw[zC3 (a:=a) he rfl rfl,zG2 hc,hvF,hvS,← hmode];rfl
theorem zNx {e:EndD} {l:List MsgD} {a b c:MsgD} (he:efC e=0) (hst:e.2.1=1) (hl:e.2.2.2.1=[a]) (hm:l=[b,c]) (hu:uhC 2 b=0) (hk:(uhD 2 b).2.2.2=0∨(uhD 2 b).2.2.2=e.1.2.2.1) {k:Int} (hf:cfC (finK (hvT4 e l) sHsB) (hvT4 e l).e.2.2.2.1 c=k) (hk0:k≠0):
  hvE e l=badE k:=by
 subst hm;obtain⟨s,st,mo,ms,base,x⟩:=e;simp only at hl hst hk;subst hl hst;have hmode:zBp (uhD 2 b).2 s=zDz (uhD 2 b).2:=zK0 hk
 have hf2:cfC (hvK s a b (uhD 2 b).2) [a,b] c=k:=by
  have h:cfC (zAI (secN s (uhD 2 b).2.2.1 (zBp (uhD 2 b).2 s)) sHsB (digM [a,b])) [a,b] c=k:=hf;rw[hmode] at h;exact h
 have hc:hvC2 s a b c=k:=by rw[hvC2,if_pos hu,if_pos hk];exact hf2
 rw[zC3 (a:=a) he rfl rfl,zCF (by rw[hc];exact hk0),hc]
theorem zOI {e:EndD} {l:List MsgD} {a b c:MsgD} (he:efC e=0) (hst:e.2.1=1) (hl:e.2.2.2.1=[a]) (hm:l=[b,c]) {k:Int} (hu:uhC 2 b=k) (hk0:k≠0):hvE e l=badE k:=by
 subst hm
 have hc:hvC2 e.1 a b c=k:=by rw[hvC2,if_neg (by rw[hu];exact hk0),hu]
 rw[zC3 (a:=a) he hst hl,zCF (by rw[hc];exact hk0),hc]
theorem zNy {e:EndD} {l:List MsgD} {a b c:MsgD} (he:efC e=0) (hst:e.2.1=1) (hl:e.2.2.2.1=[a]) (hm:l=[b,c]) (hu:uhC 2 b=0) (hk:¬ ((uhD 2 b).2.2.2=0∨(uhD 2 b).2.2.2=e.1.2.2.1)):hvE e l=badE 8:=by
 subst hm
 have hc:hvC2 e.1 a b c=8:=by rw[hvC2,if_pos hu,if_neg hk]
 rw[zC3 (a:=a) he hst hl,zCF (by rw[hc];decide),hc]
def hnT0 (e:EndD) (m:MsgD):ShkD:=⟨e,[m],[],([],0,0),[]⟩
def hnT1 (e:EndD) (m:MsgD):ShkD:={ hnT0 e m with other:=(uhD 1 (zAS e.2.2.2.1)).2 }
def hnT2 (e:EndD) (m:MsgD):ShkD:={ hnT1 e m with secret:=secN (hnT1 e m).e.1 (hnT1 e m).other.2.1 (hnT1 e m).e.2.2.1 }
def hnT3 (e:EndD) (m:MsgD):ShkD:=zHC (hnT2 e m) m
def hnT4 (e:EndD) (m:MsgD):ShkD:={ hnT3 e m with e:=eSt (eSe (hnT3 e m).e (zCA (hnT3 e m).e.2.2.2.2.1 (digM ((hnT3 e m).e.2.2.2.1.take 3)))) 3 }
theorem zNz {e:EndD} {m a b c:MsgD} (he:efC e=0) (hst:e.2.1=2) (hl:e.2.2.2.1=[a,b,c]) (hb:e.2.2.2.2.1.length≠0) (hu:uhC 1 a=0) (hf:cfC (finK (hnT2 e m) cHsB) (hnT2 e m).e.2.2.2.1 m=0):
  hnE e m=(0,(hnT4 e m).e,(hnT4 e m).send):=by
 obtain⟨s,st,mo,ms,base,x⟩:=e;simp only at hl hst hb;subst hl hst
 have hc:hnC2 (s,2,mo,[a,b,c],base,x) a b c m=0:=by rw[hnC2,if_pos hu];exact hf
 rw[zFr (a:=a) (b:=b) (c:=c) he rfl rfl hb,zIM hc];rfl
theorem zN0 {e:EndD} {m a b c:MsgD} (he:efC e=0) (hst:e.2.1=2) (hl:e.2.2.2.1=[a,b,c]) (hb:e.2.2.2.2.1.length≠0) (hu:uhC 1 a=0) {k:Int} (hf:cfC (finK (hnT2 e m) cHsB) (hnT2 e m).e.2.2.2.1 m=k) (hk0:k≠0):
  hnE e m=badE k:=by
 obtain⟨s,st,mo,ms,base,x⟩:=e;simp only at hl hst hb;subst hl hst
 have hc:hnC2 (s,2,mo,[a,b,c],base,x) a b c m=k:=by rw[hnC2,if_pos hu];exact hf
 rw[zFr (a:=a) (b:=b) (c:=c) he rfl rfl hb,zEL (by rw[hc];exact hk0),hc]
theorem zOJ {e:EndD} {m a b c:MsgD} (he:efC e=0) (hst:e.2.1=2) (hl:e.2.2.2.1=[a,b,c]) (hb:e.2.2.2.2.1.length≠0) {k:Int} (hu:uhC 1 a=k) (hk0:k≠0):hnE e m=badE k:=by
 have hc:hnC2 e a b c m=k:=by rw[hnC2,if_neg (by rw[hu];exact hk0),hu]
 rw[zFr (a:=a) (b:=b) (c:=c) he hst hl hb,zEL (by rw[hc];exact hk0),hc]
theorem zEz {l:List MsgD} (h:l.length=2):∃ a b,l=[a,b]:=by
 match l,h with
 | [a,b],_=>exact⟨a,b,rfl⟩
theorem zMQ {e:EndD} {a b:MsgD} (he:efC e=0) (hl:e.2.2.2.1=[a]) (hu:uhC 2 b=0):psC [a,b]=0:=by
 have hf:=zAw (zBJ he).2.2.2.2.1;rw[hl] at hf;refine zHn (fun x hx=>?_) (by simp);simp only[List.mem_cons,List.not_mem_nil,or_false] at hx;rcases hx with rfl | rfl
 ·exact hf _ (by simp)
 ·exact(zBy hu).2.1
theorem zMR {e:EndD} {a b c:MsgD} (he:efC e=0) (hl:e.2.2.2.1=[a]) (hu:uhC 2 b=0) (hc:zF c.1 c.2.length=0):psC [a,b,c]=0:=by
 have hf:=zAw (zBJ he).2.2.2.2.1;rw[hl] at hf;refine zHn (fun x hx=>?_) (by simp);simp only[List.mem_cons,List.not_mem_nil,or_false] at hx;rcases hx with rfl | rfl | rfl
 ·exact hf _ (by simp)
 ·exact(zBy hu).2.1
 ·exact hc
theorem zN1 {e:EndD} {a b c:MsgD} (he:efC e=0) (hl:e.2.2.2.1=[a,b,c]):psC [a,b]=0:=by
 have hf:=zAw (zBJ he).2.2.2.2.1;rw[hl] at hf;exact zHn (fun x hx=>hf x (by simp only[List.mem_cons,List.not_mem_nil,or_false] at hx ⊢;rcases hx with h | h <;> simp[h])) (by simp)
theorem zN2 {e:EndD} {a b c:MsgD} (he:efC e=0) (hl:e.2.2.2.1=[a,b,c]):psC [a,b,c]=0:=by
 have hf:=zAw (zBJ he).2.2.2.2.1;rw[hl] at hf;exact zHn hf (by simp)
end Go.Proofs.YtiabacnmmojfjaaGreatDoor
