import Derived.Test.YtiabacnmmojfjaaGreatDoorShkN
namespace Go.Proofs.YtiabacnmmojfjaaGreatDoor
open Go.RowKit
def hcT0 (s:zM) (m:MsgD):ShkD:=⟨(s,0,0,[],[],zeroX),[m],[],([],0,0),[]⟩
def hcT1 (s:zM) (m:MsgD):ShkD:=zG9 { hcT0 s m with other:=(uhD 1 m).2 } m
def hcT2 (s:zM) (m:MsgD):ShkD:={ hcT1 s m with e:=eMo (hcT1 s m).e (zBi (hcT1 s m).other (hcT1 s m).e.1) }
def hcT3 (s:zM) (m:MsgD):ShkD:=zFE (hcT2 s m) (helM (hcT2 s m).e.1 2 (if (hcT2 s m).e.2.2.1=2 then (hcT2 s m).e.1.2.2.1 else 0))
def hcT4 (s:zM) (m:MsgD):ShkD:={ hcT3 s m with secret:=secN (hcT3 s m).e.1 (hcT3 s m).other.2.1 (hcT3 s m).e.2.2.1 }
def hcT5 (s:zM) (m:MsgD):ShkD:={ hcT4 s m with e:=eBa (hcT4 s m).e (zC (hcT4 s m).secret) }
def hcT6 (s:zM) (m:MsgD):ShkD:={ zFE (hcT5 s m) (finM (hcT5 s m).secret sHsB (hcT5 s m).e.2.2.2.1) with e:=eSt (zFE (hcT5 s m) (finM (hcT5 s m).secret sHsB (hcT5 s m).e.2.2.2.1)).e 2 }
theorem zMK (h:zZ) (s:zM):(if zBi h s=2 then s.2.2.1 else 0)=zC7 h s:=by
 unfold zBi zC7
 cases pskB h s <;> simp
theorem zKq (s:zM) (m:MsgD):(hcT5 s m).e.2.2.2.1=[m,helM s 2 (zC7 (uhD 1 m).2 s)]:=by
 show [m,helM s 2 (if zBi (uhD 1 m).2 s=2 then s.2.2.1 else 0)]=_
 rw[zMK]
theorem zML {s:zM} {m:MsgD} (hc:hcC s m=0):hcE s m=(0,(hcT6 s m).e,(hcT6 s m).send):=by
 have e1:helM s 2 (if zBi (uhD 1 m).2 s=2 then s.2.2.1 else 0)=helM s 2 (zC7 (uhD 1 m).2 s):=by rw[zMK]
 rw[zHj hc,hcF,hcS,← e1];rfl
theorem zNo {s:zM} {m:MsgD} (hs:sfC s=0) (hu:uhC 1 m=0):psC (hcT5 s m).e.2.2.2.1=0:=by
 have hp:=zFP (h:=(uhD 1 m).2) hs;rw[zKq];refine zFp (fun a ha=>?_) (by simp);simp only[List.mem_cons,List.not_mem_nil,or_false] at ha;rcases ha with rfl | rfl
 ·exact(zBV hu).2.1
 ·exact zDd hs hp.1 hp.2 (.inr rfl)
theorem zBv {k:Int} {m:MsgD} (hu:uhC k m=0):1≤(uhD k m).2.2.1∧(uhD k m).2.2.1≤65520:=by
 obtain⟨-,-,-,y,-,huy,huc,-⟩:=zBV hu;rw[huy];obtain⟨-,h1,h2,-,-⟩:=zBU huc;exact⟨h1,h2⟩
def hvT0 (e:EndD) (l:List MsgD):ShkD:=⟨e,l,[],([],0,0),[]⟩
def hvT1 (e:EndD) (l:List MsgD):ShkD:=zG9 { hvT0 e l with other:=(uhD 2 (zAL l)).2 } (zAL l)
def hvT2 (e:EndD) (l:List MsgD):ShkD:={ hvT1 e l with e:=eMo (hvT1 e l).e (zBi (hvT1 e l).other (hvT1 e l).e.1) }
def hvT3 (e:EndD) (l:List MsgD):ShkD:={ hvT2 e l with secret:=secN (hvT2 e l).e.1 (hvT2 e l).other.2.1 (hvT2 e l).e.2.2.1 }
def hvT4 (e:EndD) (l:List MsgD):ShkD:={ hvT3 e l with e:=eBa (hvT3 e l).e (zC (hvT3 e l).secret) }
def hvT5 (e:EndD) (l:List MsgD):ShkD:=zG9 (hvT4 e l) (zAL l.tail)
def hvT6 (e:EndD) (l:List MsgD):ShkD:=zFE (hvT5 e l) (finM (hvT5 e l).secret cHsB (hvT5 e l).e.2.2.2.1)
def hvT7 (e:EndD) (l:List MsgD):ShkD:={ hvT6 e l with e:=eSt (eSe (hvT6 e l).e (zCE (hvT6 e l).e.2.2.2.2.1 (digM ((hvT6 e l).e.2.2.2.1.take 3)))) 3 }
theorem zKr {h:zZ} {s:zM} (hk:h.2.2=0∨h.2.2=s.2.2.1):zBi h s=zDj h:=by
 unfold zBi zDj pskB
 by_cases h0:h.2.2=0
 ·simp[h0]
 ·rcases hk with h1 | h1
  ·exact absurd h1 h0
  ·simp only[h0,if_false];rw[if_pos];simp[h1];intro e;exact h0 (h1.trans e)
theorem zNp {e:EndD} {l:List MsgD} {a b c:MsgD} (he:efC e=0) (hst:e.2.1=1) (hl:e.2.2.2.1=[a]) (hm:l=[b,c]) (hu:uhC 2 b=0) (hk:(uhD 2 b).2.2.2=0∨(uhD 2 b).2.2.2=e.1.2.2.1) (hf:cfC (finK (hvT4 e l) sHsB) (hvT4 e l).e.2.2.2.1 c=0):
  hvE e l=(0,(hvT7 e l).e,(hvT7 e l).send):=by
 subst hm;obtain⟨s,st,mo,ms,base,x⟩:=e;simp only at hl hst hk;subst hl hst;have hmode:zBi (uhD 2 b).2 s=zDj (uhD 2 b).2:=zKr hk
 have hf2:cfC (hvK s a b (uhD 2 b).2) [a,b] c=0:=by
  have h:cfC (zAB (secN s (uhD 2 b).2.2.1 (zBi (uhD 2 b).2 s)) sHsB (digM [a,b])) [a,b] c=0:=hf;rw[hmode] at h;exact h
 have hc:hvC2 s a b c=0:=by rw[hvC2,if_pos hu,if_pos hk];exact hf2
 rw[zCk (a:=a) he rfl rfl,zFs hc,hvF,hvS,← hmode];rfl
theorem zNq {e:EndD} {l:List MsgD} {a b c:MsgD} (he:efC e=0) (hst:e.2.1=1) (hl:e.2.2.2.1=[a]) (hm:l=[b,c]) (hu:uhC 2 b=0) (hk:(uhD 2 b).2.2.2=0∨(uhD 2 b).2.2.2=e.1.2.2.1) {k:Int} (hf:cfC (finK (hvT4 e l) sHsB) (hvT4 e l).e.2.2.2.1 c=k) (hk0:k≠0):
  hvE e l=badE k:=by
 subst hm;obtain⟨s,st,mo,ms,base,x⟩:=e;simp only at hl hst hk;subst hl hst;have hmode:zBi (uhD 2 b).2 s=zDj (uhD 2 b).2:=zKr hk
 have hf2:cfC (hvK s a b (uhD 2 b).2) [a,b] c=k:=by
  have h:cfC (zAB (secN s (uhD 2 b).2.2.1 (zBi (uhD 2 b).2 s)) sHsB (digM [a,b])) [a,b] c=k:=hf;rw[hmode] at h;exact h
 have hc:hvC2 s a b c=k:=by rw[hvC2,if_pos hu,if_pos hk];exact hf2
 rw[zCk (a:=a) he rfl rfl,zCF (by rw[hc];exact hk0),hc]
theorem zOB {e:EndD} {l:List MsgD} {a b c:MsgD} (he:efC e=0) (hst:e.2.1=1) (hl:e.2.2.2.1=[a]) (hm:l=[b,c]) {k:Int} (hu:uhC 2 b=k) (hk0:k≠0):hvE e l=badE k:=by
 subst hm
 have hc:hvC2 e.1 a b c=k:=by rw[hvC2,if_neg (by rw[hu];exact hk0),hu]
 rw[zCk (a:=a) he hst hl,zCF (by rw[hc];exact hk0),hc]
theorem zNr {e:EndD} {l:List MsgD} {a b c:MsgD} (he:efC e=0) (hst:e.2.1=1) (hl:e.2.2.2.1=[a]) (hm:l=[b,c]) (hu:uhC 2 b=0) (hk:¬ ((uhD 2 b).2.2.2=0∨(uhD 2 b).2.2.2=e.1.2.2.1)):hvE e l=badE 8:=by
 subst hm
 have hc:hvC2 e.1 a b c=8:=by rw[hvC2,if_pos hu,if_neg hk]
 rw[zCk (a:=a) he hst hl,zCF (by rw[hc];decide),hc]
def hnT0 (e:EndD) (m:MsgD):ShkD:=⟨e,[m],[],([],0,0),[]⟩
def hnT1 (e:EndD) (m:MsgD):ShkD:={ hnT0 e m with other:=(uhD 1 (zAL e.2.2.2.1)).2 }
def hnT2 (e:EndD) (m:MsgD):ShkD:={ hnT1 e m with secret:=secN (hnT1 e m).e.1 (hnT1 e m).other.2.1 (hnT1 e m).e.2.2.1 }
def hnT3 (e:EndD) (m:MsgD):ShkD:=zG9 (hnT2 e m) m
def hnT4 (e:EndD) (m:MsgD):ShkD:={ hnT3 e m with e:=eSt (eSe (hnT3 e m).e (zCE (hnT3 e m).e.2.2.2.2.1 (digM ((hnT3 e m).e.2.2.2.1.take 3)))) 3 }
theorem zNs {e:EndD} {m a b c:MsgD} (he:efC e=0) (hst:e.2.1=2) (hl:e.2.2.2.1=[a,b,c]) (hb:e.2.2.2.2.1.length≠0) (hu:uhC 1 a=0) (hf:cfC (finK (hnT2 e m) cHsB) (hnT2 e m).e.2.2.2.1 m=0):
  hnE e m=(0,(hnT4 e m).e,(hnT4 e m).send):=by
 obtain⟨s,st,mo,ms,base,x⟩:=e;simp only at hl hst hb;subst hl hst
 have hc:hnC2 (s,2,mo,[a,b,c],base,x) a b c m=0:=by rw[hnC2,if_pos hu];exact hf
 rw[zFA (a:=a) (b:=b) (c:=c) he rfl rfl hb,zG0 hc];rfl
theorem zNt {e:EndD} {m a b c:MsgD} (he:efC e=0) (hst:e.2.1=2) (hl:e.2.2.2.1=[a,b,c]) (hb:e.2.2.2.2.1.length≠0) (hu:uhC 1 a=0) {k:Int} (hf:cfC (finK (hnT2 e m) cHsB) (hnT2 e m).e.2.2.2.1 m=k) (hk0:k≠0):
  hnE e m=badE k:=by
 obtain⟨s,st,mo,ms,base,x⟩:=e;simp only at hl hst hb;subst hl hst
 have hc:hnC2 (s,2,mo,[a,b,c],base,x) a b c m=k:=by rw[hnC2,if_pos hu];exact hf
 rw[zFA (a:=a) (b:=b) (c:=c) he rfl rfl hb,zEK (by rw[hc];exact hk0),hc]
theorem zOC {e:EndD} {m a b c:MsgD} (he:efC e=0) (hst:e.2.1=2) (hl:e.2.2.2.1=[a,b,c]) (hb:e.2.2.2.2.1.length≠0) {k:Int} (hu:uhC 1 a=k) (hk0:k≠0):hnE e m=badE k:=by
 have hc:hnC2 e a b c m=k:=by rw[hnC2,if_neg (by rw[hu];exact hk0),hu]
 rw[zFA (a:=a) (b:=b) (c:=c) he hst hl hb,zEK (by rw[hc];exact hk0),hc]
theorem zEw {l:List MsgD} (h:l.length=2):∃ a b,l=[a,b]:=by
 match l,h with
 | [a,b],_=>exact⟨a,b,rfl⟩
theorem zMM {e:EndD} {a b:MsgD} (he:efC e=0) (hl:e.2.2.2.1=[a]) (hu:uhC 2 b=0):psC [a,b]=0:=by
 have hf:=zA0 (zBM he).2.2.2.2.1;rw[hl] at hf;refine zFp (fun x hx=>?_) (by simp);simp only[List.mem_cons,List.not_mem_nil,or_false] at hx;rcases hx with rfl | rfl
 ·exact hf _ (by simp)
 ·exact(zBV hu).2.1
theorem zMN {e:EndD} {a b c:MsgD} (he:efC e=0) (hl:e.2.2.2.1=[a]) (hu:uhC 2 b=0) (hc:zE c.1 c.2.length=0):psC [a,b,c]=0:=by
 have hf:=zA0 (zBM he).2.2.2.2.1;rw[hl] at hf;refine zFp (fun x hx=>?_) (by simp);simp only[List.mem_cons,List.not_mem_nil,or_false] at hx;rcases hx with rfl | rfl | rfl
 ·exact hf _ (by simp)
 ·exact(zBV hu).2.1
 ·exact hc
theorem zNu {e:EndD} {a b c:MsgD} (he:efC e=0) (hl:e.2.2.2.1=[a,b,c]):psC [a,b]=0:=by
 have hf:=zA0 (zBM he).2.2.2.2.1;rw[hl] at hf;exact zFp (fun x hx=>hf x (by simp only[List.mem_cons,List.not_mem_nil,or_false] at hx ⊢;rcases hx with h | h <;> simp[h])) (by simp)
theorem zNv {e:EndD} {a b c:MsgD} (he:efC e=0) (hl:e.2.2.2.1=[a,b,c]):psC [a,b,c]=0:=by
 have hf:=zA0 (zBM he).2.2.2.2.1;rw[hl] at hf;exact zFp hf (by simp)
end Go.Proofs.YtiabacnmmojfjaaGreatDoor
