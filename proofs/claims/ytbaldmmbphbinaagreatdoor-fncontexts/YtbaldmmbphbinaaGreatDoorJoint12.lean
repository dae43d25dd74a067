import Derived.Test.YtbaldmmbphbinaaGreatDoorJoint10
import Derived.Test.YtbaldmmbphbinaaGreatDoorJoint8
import Derived.Test.YtbaldmmbphbinaaGreatDoorJoint9
import Derived.Test.YtbaldmmbphbinaaGreatDoorJoint2
import Derived.Test.YtbaldmmbphbinaaGreatDoorJoint6
import Derived.Test.YtbaldmmbphbinaaGreatDoorJoint7
import Derived.Deep.AppendLies
set_option maxHeartbeats 2000000
set_option maxRecDepth 4000
namespace Go.Proofs.YtbaldmmbphbinaaGreatDoor
open Go.ChangeShapes Go.WideShapes Go.ChangeAt Go.RowKit
theorem zH7 (l:List BlkD) (p:Option Addr) (q:Nat) (w:World) (hr:RdL bytC w p q l) (h2:(zAQ l).length≤1000000):
  Calls Tryz.prog 67 #[.slice p l.length q] w fun e w'=>∃ u,e=.returned u∧Own w' w.heap.size u (zAQ l)∧Below w.heap.size w w':=by
 have HR:Hid (RdL bytC w p q l):=hr;have H2:Hid ((zAQ l).length≤1000000):=h2;have hq1:l.length≤q:=hr.1;have hq2:q≤2 ^ 63-1:=hr.2.1;have O1:=zBz w w.heap.size (Nat.le_refl _);have BW:=zA w (.cells #[] 5);clear hr h2;go_enter Tryz.func67,Tryz.ntmps67;go_wp2
 go_loopw [3,4] (fun v i wr=>∃ j:Nat,j≤l.length∧i=.int .i64 j∧Own wr w.heap.size v (zAQ (l.take j))∧Below w.heap.size w wr)
  (fun _ i _=>l.length-(intOf i).toNat)
 case atStart=>exact⟨0,Nat.zero_le _,rfl,O1,BW⟩
 case round=>
  clear O1 BW;obtain⟨j,hj,rfl,ho,BW⟩:=hrel;obtain⟨po,qo,rfl,-⟩:=ho.rd
  by_cases hlt:j<l.length
  ·have hI:(j:Int)<(l.length:Int):=by omega
   obtain⟨b,o,e1,hc⟩:=HR.out.2.2.2 (by omega);subst e1;obtain⟨a,ha⟩:∃ a,l[j]?=some a:=⟨l[j],by simp[hlt]⟩;obtain⟨us,hrep,hcell⟩:=hc j a ha;obtain⟨pa,qa,rfl,ra⟩:=zCP hrep;have c0:=hcell 0 _ rfl;rw[show bytC.n=1 from rfl,Nat.add_zero,Nat.mul_one] at c0;have hb0:=World.block_lt_of_cell? w _ c0;replace c0:=zE c0 BW;have HT:Hid (zAQ (l.take (j+1))=zAQ (l.take j)++blkW a):=zHw ha
   have HLe:Hid ((zAQ (l.take j)).length+(blkW a).length≤1000000):=by have h:=zJ6 l (j+1);rw[HT.out,List.length_append] at h;have:=H2.out;show _≤_;omega
   have HBl:Hid ((blkW a).length=a.length+1):=zB4 a;obtain⟨fs,hfs⟩:∃ fs,Hid (fs=zAQ (l.take j)):=⟨_,rfl⟩;rw[← hfs.out] at ho HT HLe ⊢;have HRA:Hid (Rd w pa qa a):=ra;have hM:Hid (((a.length:Int) % 256)=((zBd (a.length:Int)).toNat:Int)):=(zC2 _).symm;have g0:=Gen.low_cell (B:=w.heap.size) c0 hb0;have hne:=Gen.low_some w.heap.size wr;clear hc hcell hrep c0 ra;go_wp2_with fail;refine Gen.wp_region_pick (Gen.low_pre w.heap.size) [0,1,2,3,4,5,6,9,10,11,12] 13 2 2 rfl rfl rfl (by kernel_rfl) (by kernel_rfl) (by kernel_rfl) (by kernel_rfl) ?_;simp only[zL,List.getElem?_toArray,List.getElem?_cons_zero,List.getElem?_cons_succ]
   repeat (go_big_quiet_step (fail))
   refine wpQuiet_nil ?_;clear g0 hne;refine Gen.wpM_only (i:=7) (by kernel_rfl) ?_;refine Gen.mOp_make rfl (by go_simp) ?_;rintro _ ⟨n1,rfl⟩;have B1:Below w.heap.size wr (wr.drewN n1):=(Gen.low_pre w.heap.size).drewN _ _;have hg1:wr.grownBy (wr.drewN n1) none:=zF wr n1 none;replace ho:=ho.other hg1 (fun _ _ e=>by cases e);replace BW:=BW.trans B1;generalize wr.drewN n1=V1 at *;have R1:=zED V1 (zBd (a.length:Int)) 5 _ hM.out;refine⟨.slice (some ⟨V1.heap.size,0,none⟩) 1 1,V1.alloc (.cells #[.int .u8 ((a.length:Int) % 256)] 5),by go_simp,⟨⟨_,(Below.refl _ _).alloc BW.size _⟩,rfl⟩,?_⟩;replace ho:=ho.stay (zA V1 (.cells #[.int .u8 ((a.length:Int) % 256)] 5));replace BW:=BW.alloc BW.size (.cells #[.int .u8 ((a.length:Int) % 256)] 5);generalize V1.alloc (.cells #[.int .u8 ((a.length:Int) % 256)] 5)=V2 at *;generalize V1.heap.size=g1 at *;clear B1 hg1;refine Gen.wpM_only (i:=8) (by kernel_rfl) ?_;refine Gen.mOp_list rfl (by go_simp) (by kernel_rfl) ?_;rintro _ ⟨n2,rfl⟩;have B2:Below w.heap.size V2 (V2.drewN n2):=(Gen.low_pre w.heap.size).drewN _ _;have hg2:V2.grownBy (V2.drewN n2) none:=zF V2 n2 none;replace ho:=ho.other hg2 (fun _ _ e=>by cases e);replace R1:=R1.other hg2 (fun _ _ _ e=>by cases e);replace BW:=BW.trans B2;generalize V2.drewN n2=V3 at *;refine zG rfl (.tmp 12) (.tmp 19) rfl w.heap.size _ fs rfl ho _ 1 [zBd (a.length:Int)] rfl R1 (by have:=HLe.out;have:=HBl.out;simp;omega) BW.size ?_;intro v4 w4 ho4 hg4;have B4:=(Below.refl w.heap.size V3).grown hg4 BW.size (fun k hk=>ho.ge k hk);refine⟨rfl,B4,?_⟩;replace BW:=BW.trans B4;obtain⟨p4,q4,rfl,-⟩:=ho4.rd;clear hg4 ho R1 B2 hg2 B4;refine Gen.wpM_end (by kernel_rfl) rfl (by kernel_rfl) (by decide) ?_;rintro _ ⟨n5,rfl⟩;have B5:Below w.heap.size w4 (w4.drewN n5):=(Gen.low_pre w.heap.size).drewN _ _;have hg5:w4.grownBy (w4.drewN n5) none:=zF w4 n5 none;replace ho4:=ho4.other hg5 (fun _ _ e=>by cases e);replace BW:=BW.trans B5;generalize w4.drewN n5=V5 at *;clear hg5 B5;have RA:=HRA.out.keep BW;simp only[List.drop_succ_cons,List.drop_zero]
   have HE:Hid (zAQ (l.take (j+1))=(fs++[zBd (a.length:Int)])++a):=by rw[HT.out];show _=_;simp[blkW]
   have HL:Hid ((fs++[zBd (a.length:Int)]).length+a.length≤1000000):=by have:=HLe.out;have:=HBl.out;show _≤_;simp;omega
   generalize fs++[zBd (a.length:Int)]=gs at *;go_wp2_with (at_builtin;go_loud (refine zG rfl (.tmp 20) (.tmp 24) rfl w.heap.size _ gs rfl ho4 pa qa a rfl RA (by have:=HL.out;omega) BW.size ?_);intro v6 w6 ho6 hg6);have B6:=BW.grown hg6 BW.size (fun k hk=>ho4.ge k hk);rw[← HE.out] at ho6;clear ho4 hg6 RA BW;go_roundw
   case rel=>exact⟨j+1,by omega,by go_num,ho6,B6⟩
   case measure=>simp[intOf];omega
  ·have e:j=l.length:=by omega
   subst e;rw[List.take_length] at ho ⊢;go_wp2;go_ret;exact⟨_,rfl,ho,BW⟩
theorem zI4 (w:World) (B:Nat) (h:B≤w.heap.size):OwnL 22 bytC (w.alloc (.cells #[] 22)) B (.slice (some ⟨w.heap.size,0,none⟩) 0 0) [] [] []:=
 ⟨World.ownsRow_lit (base:=B) (e:=22) (size:=1) w #[] 0 h (by unfold maxLen;decide) (by simp),⟨rfl,rfl⟩,by simp[Value.ownBlock]⟩
theorem zCA (w:World) (B:Nat):OwnL 22 bytC w B (.slice none 0 0) [] [] []:=⟨World.ownsRow_nil _ _ _ _,⟨rfl,rfl⟩,by simp[Value.ownBlock]⟩
theorem zI5 (data:List UInt8) (p:Option Addr) (q:Nat) (w:World) (hr:Rd w p q data) (hd:data.length≤1000):
  Calls Tryz.prog 127 #[.slice p data.length q] w fun e w'=>∃ v,e=.returned (.tuple #[v,.bool (zAE data 0 []).isSome])∧(∃ xs fp,OwnL 22 bytC w' w.heap.size v ((zAE data 0 []).getD []) xs fp)∧Below w.heap.size w w':=by
 have HR:Hid (Rd w p q data):=hr;have hq1:data.length≤q:=hr.1;have hq2:q≤2 ^ 63-1:=hr.2.1
 have hdI:(data.length:Int)≤1000:=by omega
 have O1:=zI4 w w.heap.size (Nat.le_refl _);have BW:=zA w (.cells #[] 22);obtain⟨fin,HF⟩:∃ fin,Hid (fin=zAE data 0 []):=⟨_,rfl⟩;rw[← HF.out];clear hr;go_enter Tryz.func127,Tryz.ntmps127;go_wp2_with fail
 go_loopw [4,5] (fun v i wr=>∃ (at_:Nat) (out:List BlkD) (xs:List Value) (fp:List Nat),at_≤data.length∧i=.int .i64 at_∧OwnL 22 bytC wr w.heap.size v out xs fp∧out.length≤8∧fin=zAE data at_ out∧Below w.heap.size w wr)
  (fun _ i _=>data.length-(intOf i).toNat)
 case atStart=>exact⟨0,[],[],[],Nat.zero_le _,rfl,O1,by decide,HF.out,BW⟩
 case round=>
  clear O1 BW HF;obtain⟨at_,out,xs,fp,hat,rfl,ho,hol,hfin,BW⟩:=hrel;have HFN:Hid (fin=zAE data at_ out):=hfin;clear hfin
  by_cases hlt:at_<data.length
  ·have hI:(at_:Int)<(data.length:Int):=by omega
   obtain⟨b,o,e1,hcd⟩:=(HR.out.keep BW).2.2.2 (by omega);subst e1;have hcy:wr.cell? ⟨b,o+at_,none⟩=some (.int .u8 ((zY data at_:Nat):Int)):=hcd at_ hlt;have hnl:zY data at_<256:=UInt8.toNat_lt _
   have hnI:((zY data at_:Nat):Int)<256:=by omega
   obtain⟨po,qo,rfl,hord⟩:=ho.rd;have hqo1:out.length≤qo:=hord.1;have hqo2:qo≤2 ^ 63-1:=hord.2.1
   by_cases h2:120<zY data at_∨8≤out.length∨data.length<at_+1+zY data at_
   ·have HE:Hid (fin=none):=by show _=_;rw[HFN.out,zB5 hlt h2]
    generalize zY data at_=n at *;clear hcd HFN
    by_cases h3:120<n
    ·have h3I:120<(n:Int):=by omega
     go_wp2_with fail;exact bodyPost_ret (v:=.tuple #[.slice none 0 0,.bool false]) (by simp[results,Tryz.results127,go_sem]) rfl ⟨_,by rw[HE.out];rfl,⟨_,_,by rw[HE.out];exact zCA _ _⟩,BW⟩
    ·have h3I:¬ (120<(n:Int)):=by omega
     by_cases h4:8≤out.length
     ·have h4I:8≤(out.length:Int):=by omega
      go_wp2_with fail;exact bodyPost_ret (v:=.tuple #[.slice none 0 0,.bool false]) (by simp[results,Tryz.results127,go_sem]) rfl ⟨_,by rw[HE.out];rfl,⟨_,_,by rw[HE.out];exact zCA _ _⟩,BW⟩
     ·have h4I:¬ (8≤(out.length:Int)):=by omega
      have h5I:(data.length:Int)<(at_:Int)+1+(n:Int):=by omega
      go_wp2_with fail;exact bodyPost_ret (v:=.tuple #[.slice none 0 0,.bool false]) (by simp[results,Tryz.results127,go_sem]) rfl ⟨_,by rw[HE.out];rfl,⟨_,_,by rw[HE.out];exact zCA _ _⟩,BW⟩
   ·have h3I:¬ (120<((zY data at_:Nat):Int)):=by omega
    have h4I:¬ (8≤(out.length:Int)):=by omega
    have h5I:¬ ((data.length:Int)<(at_:Int)+1+((zY data at_:Nat):Int)):=by omega
    have HN:Hid (fin=zAE data (at_+1+zY data at_) (out++[zAk data at_])):=by show _=_;rw[HFN.out,zB6 hlt h2]
    have hcut2:=(HR.out.keep BW).cut (at_+1) (zY data at_) (q-(at_+1)) (by omega) (by omega) (by have:=HR.out.2.1;omega)
    have hbl:Hid ((zAk data at_).length=zY data at_):=by show _=_;unfold zAk;simp;omega
    have hol2:Hid ((out++[zAk data at_]).length≤8):=by show _≤_;rw[List.length_append,List.length_singleton];omega
    have hnx:Hid (at_+1+zY data at_≤data.length):=by show _≤_;omega
    have hrd2:Rd wr (if q=at_+1 then some ⟨b,o,none⟩ else some ⟨b,o+(at_+1),none⟩) (q-(at_+1)) (zAk data at_):=by
     split
     ·rename_i hq
      have hn0:zY data at_=0:=by omega
      unfold zAk;rw[hn0,List.take_zero];exact⟨by simp,by unfold maxLen;omega,fun e=>by simp at e,fun h=>by simp at h⟩
     ·exact hcut2
    have KC:Hid (∀ (pX:Option Addr) (cX:Nat),pX=(if q=at_+1 then some ⟨b,o,none⟩ else some ⟨b,o+(at_+1),none⟩)→cX=q-(at_+1)→Calls Tryz.prog 16 #[.slice pX (zY data at_) cX] wr fun e w'=>∃ u,e=.returned u∧Own w' wr.heap.size u (zAk data at_)∧Below wr.heap.size wr w'):=fun pX cX h1 h2=>by
     subst h1 h2;have h:=zBU (if q=at_+1 then some ⟨b,o,none⟩ else some ⟨b,o+(at_+1),none⟩) (q-(at_+1)) _ wr hrd2 (by rw[hbl.out];omega);rw[hbl.out] at h;exact h
    clear hrd2;generalize zAk data at_=body at *;generalize zY data at_=n at *;clear hcd hcut2 h2 HFN hnl;go_wp2_with fail
    case' inl=>
     have hq:q=at_+1:=by assumption
     subst hq;refine(KC.out _ _ (by rw[if_pos rfl]) (by omega)).mono ?_
    case' inr=>refine(KC.out _ _ (by rw[if_neg (by assumption)]) rfl).mono ?_
    all_goals
     rintro e w3 ⟨u3,rfl,k3,hb3⟩;obtain⟨pv,qv,rfl,-⟩:=k3.rd;rw[hbl.out] at k3 ⊢;have hb4:=zA w3 (.cells #[.slice pv n qv] 22)
     have hnew:∀ j u,[Value.slice pv n qv][j]?=some u→(w3.alloc (.cells #[.slice pv n qv] 22)).cell? ((⟨w3.heap.size,0,none⟩:Addr).add j)=some u:=fun j u hj=>(Arr.new w3 [.slice pv n qv] 22).cells j u hj
     have k5:=k3.stay hb4;have hb5:=Below.step hb3 hb4;have ho5:=ho.stay hb5;have BW5:=Below.step BW hb5;have hrow5:Hid ((w3.alloc (.cells #[.slice pv n qv] 22)).ownsRow w.heap.size 22 1 (.slice po out.length qo) out.length xs):=ho5.row;obtain⟨i0,hi,hz0,hz1,hz2⟩:=info_parts zCv;go_wp2_with (at_builtin;go_loud (refine wpList_append_lies _ rfl (.tmp 33) (.tmp 43) 24 rfl w.heap.size 22 i0 (.slice none 0 0) 1 24 Tryz.underlying24 hi hz0 hz1 hz2 rfl (by decide) (.slice po out.length qo) out.length xs rfl hrow5.out ⟨w3.heap.size,0,none⟩ 1 1 [.slice pv n qv] rfl rfl hnew (by intro u hu;simp at hu;subst hu;rfl) (by decide) (by unfold maxLen;omega) (by omega) BW5.size (w3.alloc (.cells #[.slice pv n qv] 22)).heap.size rfl ?_);intro g6 c6 w6 hown6 hgrow6 hat6 hlt6)
     have hlow:Hid (∀ j,(Value.slice pv n qv).ownBlock=some j→wr.heap.size≤j):=fun j hj=>k5.ge j hj
     have hinsO:Hid (∀ j,j∈(Value.slice po out.length qo).ownBlock.toList++fp→j<wr.heap.size):=fun j hj=>(ho.ins j hj).2
     have ka:=zCf (a:=body) (k5.lower (B':=w.heap.size) BW.size)
     have OP:=ho5.push ka (fun j hj hj2=>by
      have h1:=hlow.out j (mem_opt.1 hj);have h2:=hinsO.out j hj2
      omega) (k:=out.length+1) (v':=.slice (some ⟨g6,0,none⟩) (out.length+1) c6) (g:=g6) hown6 (by simp) hgrow6 rfl hat6
     have BW6:=BW5.grown hgrow6 BW5.size (fun k hk=>(ho5.ins k (List.mem_append_left _ (mem_opt.2 hk))).1);clear ho ho5 k3 k5 hown6 hgrow6 hat6 hnew hrow5 ka BW5 BW hb3 hb4 hb5 hcy;go_wp2_with fail;go_roundw
     case rel=>first | exact⟨at_+1+n,out++[body],_,_,hnx.out,by go_num,OP,hol2.out,HN.out,BW6⟩ | ((repeat apply Exists.intro);refine⟨?_,rfl⟩;exact⟨at_+1+n,out++[body],_,_,hnx.out,by go_num,OP,hol2.out,HN.out,BW6⟩)
     case measure=>have:=hnx.out;simp[intOf];omega
  ·have e:at_=data.length:=by omega
   subst e
   have HE:Hid (fin=some out):=by show _=_;rw[HFN.out,zBw (by omega)]
   obtain⟨po,qo,rfl,-⟩:=ho.rd;go_wp2_with fail;exact bodyPost_ret (v:=.tuple #[.slice po out.length qo,.bool true]) (by simp[results,Tryz.results127,go_sem]) rfl ⟨_,by rw[HE.out];rfl,⟨_,_,by rw[HE.out];exact ho⟩,BW⟩
theorem zHA {data:List UInt8} (h:¬ data.length≤160):ubC data=2∧ubL data=[]:=by rw[ubC,ubL,if_neg h,if_neg h];exact⟨rfl,rfl⟩
theorem zKO {data:List UInt8} (h:data.length≤160) (h2:zAE data 0 []=none):ubC data=5∧ubL data=[]:=by rw[ubC,ubL,if_pos h,if_pos h,h2];exact⟨rfl,rfl⟩
theorem zKP {data:List UInt8} {r:List BlkD} (h:data.length≤160) (h2:zAE data 0 []=some r):ubC data=0∧ubL data=r:=by rw[ubC,ubL,if_pos h,if_pos h,h2];exact⟨rfl,rfl⟩
end Go.Proofs.YtbaldmmbphbinaaGreatDoor
