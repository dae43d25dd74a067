import Derived.Test.YtiabacnmmojfjaaGreatDoorJoint12
import Derived.Test.YtiabacnmmojfjaaGreatDoorJoint11
import Derived.Test.YtiabacnmmojfjaaGreatDoorJoint1
import Derived.Test.YtiabacnmmojfjaaGreatDoorJoint6
import Derived.Deep.AppendLies
import Derived.Test.YtiabacnmmojfjaaGreatDoorJoint5
set_option maxHeartbeats 2000000
set_option maxRecDepth 4000
open Go.Proofs.Tryz
namespace Go.Proofs.YtiabacnmmojfjaaGreatDoor
open Go.ChangeShapes Go.WideShapes Go.ChangeAt Go.RowKit
theorem zGU (l:List BlkD) (p:Option Addr) (q:Nat) (w:World) (hr:RdL bytC w p q l) (h2:(zA2 l).length≤1000000):
    Calls prog 176 #[.slice p l.length q] w fun e w'=>∃ u,e=.returned u∧Own w' w.heap.size u (zA2 l)∧Below w.heap.size w w':=by
  have HR:Hid (RdL bytC w p q l):=hr;have H2:Hid ((zA2 l).length≤1000000):=h2;have hq1:l.length≤q:=hr.1;have hq2:q≤2 ^ 63-1:=hr.2.1;have O1:=zCL w w.heap.size (yf _);have BW:=zA w (.cells #[] 5);clear hr h2;go_enter func176,ntmps176;go_wp2
  go_loopw [3,4] (fun v i wr=>∃ j:Nat,j≤l.length∧i=.int .i64 j∧Own wr w.heap.size v (zA2 (l.take j))∧Below w.heap.size w wr)
    (fun _ i _=>l.length-(intOf i).toNat)
  case atStart=>exact⟨0,Nat.zero_le _,rfl,O1,BW⟩
  case round=>
    clear O1 BW;obtain⟨j,hj,rfl,ho,BW⟩:=hrel;obtain⟨po,qo,rfl,-⟩:=ho.rd
    by_cases hlt:j<l.length
    · have hI:(j:Int)<(l.length:Int):=by omega
      obtain⟨b,o,e1,hc⟩:=HR.out.2.2.2 (by omega);subst e1;obtain⟨a,ha⟩:∃ a,l[j]?=some a:=⟨l[j],by simp[hlt]⟩;obtain⟨us,hrep,hcell⟩:=hc j a ha;obtain⟨pa,qa,rfl,ra⟩:=zMp hrep;have c0:=hcell 0 _ rfl;rw[show bytC.n=1 from rfl,Nat.add_zero,Nat.mul_one] at c0;have hb0:=World.block_lt_of_cell? w _ c0;replace c0:=zN c0 BW;have HT:Hid (zA2 (l.take (j+1))=zA2 (l.take j)++blkW a):=zJI ha
      have HLe:Hid ((zA2 (l.take j)).length+(blkW a).length≤1000000):=by have h:=zK5 l (j+1);rw[HT.out,List.length_append] at h;have:=H2.out;show _≤_;omega
      have HBl:Hid ((blkW a).length=a.length+1):=zDU a;obtain⟨fs,hfs⟩:∃ fs,Hid (fs=zA2 (l.take j)):=⟨_,rfl⟩;rw[← hfs.out] at ho HT HLe ⊢;have HRA:Hid (Rd w pa qa a):=ra;have hM:Hid (((a.length:Int) % 256)=((zBl (a.length:Int)).toNat:Int)):=(zDA _).symm;have g0:=Gen.low_cell (B:=w.heap.size) c0 hb0;have hne:=Gen.low_some w.heap.size wr;clear hc hcell hrep c0 ra;go_wp2_with fail;refine Gen.wp_region_pick (Gen.low_pre w.heap.size) [0,1,2,3,4,5,6,9,10,11,12] 13 2 2 rfl rfl rfl (by kernel_rfl) (by kernel_rfl) (by kernel_rfl) (by kernel_rfl) ?_;simp only[zD,ya,yb,yc]
      repeat (go_big_quiet_step (fail))
      refine wpQuiet_nil ?_;clear g0 hne;refine Gen.wpM_only (i:=7) (by kernel_rfl) ?_;refine Gen.mOp_make rfl (by go_simp) ?_;rintro _ ⟨n1,rfl⟩;have B1:Below w.heap.size wr (wr.drewN n1):=(Gen.low_pre w.heap.size).drewN _ _;have hg1:wr.grownBy (wr.drewN n1) none:=zV wr n1 none;replace ho:=ho.other hg1 (fun _ _ e=>by cases e);replace BW:=BW.trans B1;generalize wr.drewN n1=V1 at *;have R1:=zE4 V1 (zBl (a.length:Int)) 5 _ hM.out;refine⟨.slice (some ⟨V1.heap.size,0,none⟩) 1 1,V1.alloc (.cells #[.int .u8 ((a.length:Int) % 256)] 5),by go_simp,⟨⟨_,(Below.refl _ _).alloc BW.size _⟩,rfl⟩,?_⟩;replace ho:=ho.stay (zA V1 (.cells #[.int .u8 ((a.length:Int) % 256)] 5));replace BW:=BW.alloc BW.size (.cells #[.int .u8 ((a.length:Int) % 256)] 5);generalize V1.alloc (.cells #[.int .u8 ((a.length:Int) % 256)] 5)=V2 at *;generalize V1.heap.size=g1 at *;clear B1 hg1;refine Gen.wpM_only (i:=8) (by kernel_rfl) ?_;refine Gen.mOp_list rfl (by go_simp) (by kernel_rfl) ?_;rintro _ ⟨n2,rfl⟩;have B2:Below w.heap.size V2 (V2.drewN n2):=(Gen.low_pre w.heap.size).drewN _ _;have hg2:V2.grownBy (V2.drewN n2) none:=zV V2 n2 none;replace ho:=ho.other hg2 (fun _ _ e=>by cases e);replace R1:=R1.other hg2 (fun _ _ _ e=>by cases e);replace BW:=BW.trans B2;generalize V2.drewN n2=V3 at *;refine zK rfl (.tmp 12) (.tmp 19) rfl w.heap.size _ fs rfl ho _ 1 [zBl (a.length:Int)] rfl R1 (by have:=HLe.out;have:=HBl.out;simp;omega) BW.size ?_;intro v4 w4 ho4 hg4;have B4:=(Below.refl w.heap.size V3).grown hg4 BW.size (fun k hk=>ho.ge k hk);refine⟨rfl,B4,?_⟩;replace BW:=BW.trans B4;obtain⟨p4,q4,rfl,-⟩:=ho4.rd;clear hg4 ho R1 B2 hg2 B4;refine Gen.wpM_end (by kernel_rfl) rfl (by kernel_rfl) (by decide) ?_;rintro _ ⟨n5,rfl⟩;have B5:Below w.heap.size w4 (w4.drewN n5):=(Gen.low_pre w.heap.size).drewN _ _;have hg5:w4.grownBy (w4.drewN n5) none:=zV w4 n5 none;replace ho4:=ho4.other hg5 (fun _ _ e=>by cases e);replace BW:=BW.trans B5;generalize w4.drewN n5=V5 at *;clear hg5 B5;have RA:=HRA.out.keep BW;simp only[yd,ye]
      have HE:Hid (zA2 (l.take (j+1))=(fs++[zBl (a.length:Int)])++a):=by rw[HT.out];show _=_;simp[blkW]
      have HL:Hid ((fs++[zBl (a.length:Int)]).length+a.length≤1000000):=by have:=HLe.out;have:=HBl.out;show _≤_;simp;omega
      generalize fs++[zBl (a.length:Int)]=gs at *;go_wp2_with (at_builtin;go_loud (refine zK rfl (.tmp 20) (.tmp 24) rfl w.heap.size _ gs rfl ho4 pa qa a rfl RA (by have:=HL.out;omega) BW.size ?_);intro v6 w6 ho6 hg6);have B6:=BW.grown hg6 BW.size (fun k hk=>ho4.ge k hk);rw[← HE.out] at ho6;clear ho4 hg6 RA BW;go_roundw
      case rel=>exact⟨j+1,by omega,by go_num,ho6,B6⟩
      case measure=>simp[intOf];omega
    · have e:j=l.length:=by omega
      subst e;rw[List.take_length] at ho ⊢;go_wp2;go_ret;exact⟨_,rfl,ho,BW⟩
theorem zKI (w:World) (B:Nat) (h:B≤w.heap.size):OwnL 22 bytC (w.alloc (.cells #[] 22)) B (.slice (some ⟨w.heap.size,0,none⟩) 0 0) [] [] []:=
  ⟨World.ownsRow_lit (base:=B) (e:=22) (size:=1) w #[] 0 h (by unfold maxLen;decide) (by simp),⟨rfl,rfl⟩,by simp[Value.ownBlock]⟩
theorem zCt (w:World) (B:Nat):OwnL 22 bytC w B (.slice none 0 0) [] [] []:=⟨World.ownsRow_nil _ _ _ _,⟨rfl,rfl⟩,by simp[Value.ownBlock]⟩
theorem zKJ (data:List UInt8) (p:Option Addr) (q:Nat) (w:World) (hr:Rd w p q data) (hd:data.length≤1000):
    Calls prog 160 #[.slice p data.length q] w fun e w'=>∃ v,e=.returned (.tuple #[v,.bool (zAe data 0 []).isSome])∧(∃ xs fp,OwnL 22 bytC w' w.heap.size v ((zAe data 0 []).getD []) xs fp)∧Below w.heap.size w w':=by
  have HR:Hid (Rd w p q data):=hr;have hq1:data.length≤q:=hr.1;have hq2:q≤2 ^ 63-1:=hr.2.1
  have hdI:(data.length:Int)≤1000:=by omega
  have O1:=zKI w w.heap.size (yf _);have BW:=zA w (.cells #[] 22);obtain⟨fin,HF⟩:∃ fin,Hid (fin=zAe data 0 []):=⟨_,rfl⟩;rw[← HF.out];clear hr;go_enter func160,ntmps160;go_wp2_with fail
  go_loopw [4,5] (fun v i wr=>∃ (at_:Nat) (out:List BlkD) (xs:List Value) (fp:List Nat),at_≤data.length∧i=.int .i64 at_∧OwnL 22 bytC wr w.heap.size v out xs fp∧out.length≤8∧fin=zAe data at_ out∧Below w.heap.size w wr)
    (fun _ i _=>data.length-(intOf i).toNat)
  case atStart=>exact⟨0,[],[],[],Nat.zero_le _,rfl,O1,by decide,HF.out,BW⟩
  case round=>
    clear O1 BW HF;obtain⟨at_,out,xs,fp,hat,rfl,ho,hol,hfin,BW⟩:=hrel;have HFN:Hid (fin=zAe data at_ out):=hfin;clear hfin
    by_cases hlt:at_<data.length
    · have hI:(at_:Int)<(data.length:Int):=by omega
      obtain⟨b,o,e1,hcd⟩:=(HR.out.keep BW).2.2.2 (by omega);subst e1;have hcy:wr.cell? ⟨b,o+at_,none⟩=some (.int .u8 ((zAK data at_:Nat):Int)):=hcd at_ hlt;have hnl:zAK data at_<256:=UInt8.toNat_lt _
      have hnI:((zAK data at_:Nat):Int)<256:=by omega
      obtain⟨po,qo,rfl,hord⟩:=ho.rd;have hqo1:out.length≤qo:=hord.1;have hqo2:qo≤2 ^ 63-1:=hord.2.1
      by_cases h2:120<zAK data at_∨8≤out.length∨data.length<at_+1+zAK data at_
      · have HE:Hid (fin=none):=by show _=_;rw[HFN.out,zCn hlt h2]
        generalize zAK data at_=n at *;clear hcd HFN
        by_cases h3:120<n
        · have h3I:120<(n:Int):=by omega
          go_wp2_with fail;exact bodyPost_ret (v:=.tuple #[.slice none 0 0,.bool false]) (by simp[results,results160,go_sem]) rfl ⟨_,by rw[HE.out];rfl,⟨_,_,by rw[HE.out];exact zCt _ _⟩,BW⟩
        · have h3I:¬ (120<(n:Int)):=by omega
          by_cases h4:8≤out.length
          · have h4I:8≤(out.length:Int):=by omega
            go_wp2_with fail;exact bodyPost_ret (v:=.tuple #[.slice none 0 0,.bool false]) (by simp[results,results160,go_sem]) rfl ⟨_,by rw[HE.out];rfl,⟨_,_,by rw[HE.out];exact zCt _ _⟩,BW⟩
          · have h4I:¬ (8≤(out.length:Int)):=by omega
            have h5I:(data.length:Int)<(at_:Int)+1+(n:Int):=by omega
            go_wp2_with fail;exact bodyPost_ret (v:=.tuple #[.slice none 0 0,.bool false]) (by simp[results,results160,go_sem]) rfl ⟨_,by rw[HE.out];rfl,⟨_,_,by rw[HE.out];exact zCt _ _⟩,BW⟩
      · have h3I:¬ (120<((zAK data at_:Nat):Int)):=by omega
        have h4I:¬ (8≤(out.length:Int)):=by omega
        have h5I:¬ ((data.length:Int)<(at_:Int)+1+((zAK data at_:Nat):Int)):=by omega
        have HN:Hid (fin=zAe data (at_+1+zAK data at_) (out++[zA7 data at_])):=by show _=_;rw[HFN.out,zCo hlt h2]
        have hcut2:=(HR.out.keep BW).cut (at_+1) (zAK data at_) (q-(at_+1)) (by omega) (by omega) (by have:=HR.out.2.1;omega)
        have hbl:Hid ((zA7 data at_).length=zAK data at_):=by show _=_;unfold zA7;simp;omega
        have hol2:Hid ((out++[zA7 data at_]).length≤8):=by show _≤_;rw[List.length_append,List.length_singleton];omega
        have hnx:Hid (at_+1+zAK data at_≤data.length):=by show _≤_;omega
        have hrd2:Rd wr (if q=at_+1 then some ⟨b,o,none⟩ else some ⟨b,o+(at_+1),none⟩) (q-(at_+1)) (zA7 data at_):=by
          split
          · rename_i hq
            have hn0:zAK data at_=0:=by omega
            unfold zA7;rw[hn0,List.take_zero];exact⟨by simp,by unfold maxLen;omega,fun e=>by simp at e,fun h=>by simp at h⟩
          · exact hcut2
        have KC:Hid (∀ (pX:Option Addr) (cX:Nat),pX=(if q=at_+1 then some ⟨b,o,none⟩ else some ⟨b,o+(at_+1),none⟩)→cX=q-(at_+1)→Calls prog 77 #[.slice pX (zAK data at_) cX] wr fun e w'=>∃ u,e=.returned u∧Own w' wr.heap.size u (zA7 data at_)∧Below wr.heap.size wr w'):=fun pX cX h1 h2=>by
          subst h1 h2;have h:=zBe (if q=at_+1 then some ⟨b,o,none⟩ else some ⟨b,o+(at_+1),none⟩) (q-(at_+1)) _ wr hrd2 (by rw[hbl.out];omega);rw[hbl.out] at h;exact h
        clear hrd2;generalize zA7 data at_=body at *;generalize zAK data at_=n at *;clear hcd hcut2 h2 HFN hnl;go_wp2_with fail
        case' inl=>
          have hq:q=at_+1:=by assumption
          subst hq;refine(KC.out _ _ (by rw[if_pos rfl]) (by omega)).mono ?_
        case' inr=>refine(KC.out _ _ (by rw[if_neg (by assumption)]) rfl).mono ?_
        all_goals
          rintro e w3 ⟨u3,rfl,k3,hb3⟩;obtain⟨pv,qv,rfl,-⟩:=k3.rd;rw[hbl.out] at k3 ⊢;have hb4:=zA w3 (.cells #[.slice pv n qv] 22)
          have hnew:∀ j u,[Value.slice pv n qv][j]?=some u→(w3.alloc (.cells #[.slice pv n qv] 22)).cell? ((⟨w3.heap.size,0,none⟩:Addr).add j)=some u:=fun j u hj=>(yr w3 [.slice pv n qv] 22).cells j u hj
          have k5:=k3.stay hb4;have hb5:=yn hb3 hb4;have ho5:=ho.stay hb5;have BW5:=yn BW hb5;have hrow5:Hid ((w3.alloc (.cells #[.slice pv n qv] 22)).ownsRow w.heap.size 22 1 (.slice po out.length qo) out.length xs):=ho5.row;obtain⟨i0,hi,hz0,hz1,hz2⟩:=info_parts zJ8;go_wp2_with (at_builtin;go_loud (refine wpList_append_lies _ rfl (.tmp 33) (.tmp 43) 115 rfl w.heap.size 22 i0 (.slice none 0 0) 1 24 underlying115 hi hz0 hz1 hz2 rfl (by decide) (.slice po out.length qo) out.length xs rfl hrow5.out ⟨w3.heap.size,0,none⟩ 1 1 [.slice pv n qv] rfl rfl hnew (by intro u hu;simp at hu;subst hu;rfl) (by decide) (by unfold maxLen;omega) (by omega) BW5.size (w3.alloc (.cells #[.slice pv n qv] 22)).heap.size rfl ?_);intro g6 c6 w6 hown6 hgrow6 hat6 hlt6)
          have hlow:Hid (∀ j,(Value.slice pv n qv).ownBlock=some j→wr.heap.size≤j):=fun j hj=>k5.ge j hj
          have hinsO:Hid (∀ j,j∈(Value.slice po out.length qo).ownBlock.toList++fp→j<wr.heap.size):=fun j hj=>(ho.ins j hj).2
          have ka:=zGP (a:=body) (k5.lower (B':=w.heap.size) BW.size)
          have OP:=ho5.push ka (fun j hj hj2=>by
            have h1:=hlow.out j (mem_opt.1 hj);have h2:=hinsO.out j hj2
            omega) (k:=out.length+1) (v':=.slice (some ⟨g6,0,none⟩) (out.length+1) c6) (g:=g6) hown6 (by simp) hgrow6 rfl hat6
          have BW6:=BW5.grown hgrow6 BW5.size (fun k hk=>(ho5.ins k (List.mem_append_left _ (mem_opt.2 hk))).1);clear ho ho5 k3 k5 hown6 hgrow6 hat6 hnew hrow5 ka BW5 BW hb3 hb4 hb5 hcy;go_wp2_with fail;go_roundw
          case rel=>first | exact⟨at_+1+n,out++[body],_,_,hnx.out,by go_num,OP,hol2.out,HN.out,BW6⟩ | ((repeat apply Exists.intro);refine⟨?_,rfl⟩;exact⟨at_+1+n,out++[body],_,_,hnx.out,by go_num,OP,hol2.out,HN.out,BW6⟩)
          case measure=>have:=hnx.out;simp[intOf];omega
    · have e:at_=data.length:=by omega
      subst e
      have HE:Hid (fin=some out):=by show _=_;rw[HFN.out,zCc (by omega)]
      obtain⟨po,qo,rfl,-⟩:=ho.rd;go_wp2_with fail;exact bodyPost_ret (v:=.tuple #[.slice po out.length qo,.bool true]) (by simp[results,results160,go_sem]) rfl ⟨_,by rw[HE.out];rfl,⟨_,_,by rw[HE.out];exact ho⟩,BW⟩
theorem zIo {data:List UInt8} (h:¬ data.length≤160):ubC data=2∧ubL data=[]:=by rw[ubC,ubL,if_neg h,if_neg h];exact⟨rfl,rfl⟩
theorem zLT {data:List UInt8} (h:data.length≤160) (h2:zAe data 0 []=none):ubC data=5∧ubL data=[]:=by rw[ubC,ubL,if_pos h,if_pos h,h2];exact⟨rfl,rfl⟩
theorem zGr {data:List UInt8} {r:List BlkD} (h:data.length≤160) (h2:zAe data 0 []=some r):ubC data=0∧ubL data=r:=by rw[ubC,ubL,if_pos h,if_pos h,h2];exact⟨rfl,rfl⟩
theorem zHY (w:World) (B:Nat) (h:B≤w.heap.size):OwnL 46 msgC (w.alloc (.cells #[] 46)) B (.slice (some ⟨w.heap.size,0,none⟩) 0 0) [] [] []:=
  ⟨World.ownsRow_lit (base:=B) (e:=46) (size:=2) w #[] 0 h (by unfold maxLen;decide) (by simp),⟨rfl,rfl⟩,by simp[Value.ownBlock]⟩
theorem zEE (w:World) (B:Nat):OwnL 46 msgC w B (.slice none 0 0) [] [] []:=⟨World.ownsRow_nil _ _ _ _,⟨rfl,rfl⟩,by simp[Value.ownBlock]⟩
theorem zE8:∀ (l:List MsgD),zBD l≤(zG l).length
  | []=>by simp[zBD]
  | a :: l=>by
    have h:=zE8 l;rw[zB0,List.length_append,zDB];simp only[zBD,List.map_cons,List.sum_cons,List.length_cons] at h ⊢;omega
def zEj (a b:List MsgD):Bool:=decide (a=b)
theorem zLU {a b:List MsgD} {k:Nat} {x y:MsgD} (hx:a[k]?=some x) (hy:b[k]?=some y) (h:x≠y):zEj a b=false:=by
  simp only[zEj,decide_eq_false_iff_not];intro e;subst e;rw[hx] at hy;cases hy;exact h rfl
theorem zM {w v:World} {row:Option Nat} {blk o:Nat} {u:Value} (hg:w.grownBy v row) (h:w.heap.size≤blk):w.grownBy (v.setCell ⟨blk,o,none⟩ u) row:=
  have hs:=zJ v blk o u
  ⟨hs.os.trans hg.os,hs.tape.trans hg.tape,hs.output.trans hg.output,yi hg.size hs.size,fun k hk hne=>(hs.block k (Nat.lt_of_lt_of_le hk hg.size) (fun e=>by simp at e;omega)).trans (hg.block k hk hne)⟩
theorem zHZ {w v:World} (h:w.grownBy v none) (row:Option Nat):w.grownBy v row:=⟨h.os,h.tape,h.output,h.size,fun k hk _=>h.block k hk (fun e=>by cases e)⟩
theorem zFf {w v v':World} {r row:Option Nat} (h:w.grownBy v r) (k:v.grownBy v' row) (hr:∀ j,row=some j→w.heap.size≤j):w.grownBy v' r:=
  ⟨k.os.trans h.os,k.tape.trans h.tape,k.output.trans h.output,yi h.size k.size,fun i hi hn=>(k.block i (Nat.lt_of_lt_of_le hi h.size) (fun e=>by have:=hr i e.symm;omega)).trans (h.block i hi hn)⟩
theorem zH9 {w v:World} (h:w.grownBy v none):Below w.heap.size w v:=⟨h.os,h.tape,h.output,h.size,fun k hk=>h.block k hk (fun e=>by cases e)⟩
theorem OwnL.draw {α:Type} {e:TypeId} {c:Cod α} {w w':World} {B b:Nat} {v:Value} {l:List α} {xs:List Value} {fp:List Nat} (h:OwnL e c w B v l xs fp) (hg:w.grownBy w' (some b)) (hb:b<B):OwnL e c w' B v l xs fp:=
  h.other (Only.grown hg) (fun k hk e=>by have:=(h.ins k hk).1;simp at e;omega)
theorem zGs {w v:World} {b:Nat} {p:Option Addr} {q:Nat} {cs:List UInt8} {t:Int} {u:Value} {bs:List UInt8} (ho:Own v (w.heap.size+1) u bs) (hs:Src v b p q cs t) (hb:b<w.heap.size) (hg:w.grownBy v (some b)) (x y:Value):
    Own ((v.setCell ⟨w.heap.size,0,none⟩ x).setCell ⟨w.heap.size,1,none⟩ y) w.heap.size u bs∧Src ((v.setCell ⟨w.heap.size,0,none⟩ x).setCell ⟨w.heap.size,1,none⟩ y) b p q cs t∧w.grownBy ((v.setCell ⟨w.heap.size,0,none⟩ x).setCell ⟨w.heap.size,1,none⟩ y) (some b):=
  ⟨((ho.set (a:=⟨w.heap.size,0,none⟩) (yg _) _).set (a:=⟨w.heap.size,1,none⟩) (yg _) _).lower (B':=w.heap.size) (yh _),
   (hs.other (zJ _ _ _ _) (fun k hk=>by simp at hk;omega)).other (zJ _ _ _ _) (fun k hk=>by simp at hk;omega),
   zM (zM hg (yf _)) (yf _)⟩
theorem zIp (b:Nat) (p:Option Addr) (q:Nat) (cs:List UInt8) (t:Int) (w:World) (hs:Src w b p q cs t) (ht:0≤t) (ht2:t≤800000000):
    Calls prog 133 #[.pointer (some ⟨b,0,none⟩)] w fun e w'=>∃ (k:Int) (u:Value) (bs:List UInt8) (t':Int),e=.returned (.agg #[.int .i64 k,u])∧0≤k∧k≤255∧bs.length≤8∧t≤t'∧t'≤t+20∧Own w' w.heap.size u bs∧Src w' b p q cs t'∧w.grownBy w' (some b):=by
  have A0:=yr w [.int .i64 0,.slice none 0 0] 46;have hb0:Hid (b<w.heap.size):=hs.lt;go_enter func133,ntmps133;go_wp2_with fail;refine(zAl b p q cs t 256 _ (hs.keep (zA _ _)) (by omega) (by omega) (by omega) (by omega)).mono ?_;rintro e v0 ⟨k,rfl,x0,y0,hs0,hg0⟩;have A1:=A0.other hg0 (fun e=>by have:=hb0.out;simp at e;omega);have hg:w.grownBy v0 (some b):=zC (World.grownBy_alloc _ _ _) hg0;clear hg0 A0 hs;go_wp2_with fail;refine(zAl b p q cs (t+1) 9 v0 hs0 (by omega) (by omega) (by omega) (by omega)).mono ?_;rintro e v1 ⟨n,rfl,x1,y1,hs1,hg1⟩;replace A1:=A1.other hg1 (fun e=>by have:=hb0.out;simp at e;omega);replace hg:=zC hg hg1;clear hg1 hs0;go_wp2_with fail;refine(zIj b p q cs (t+1+1) n v1 hs1 (by omega) (by omega) x1 (by omega)).mono ?_;rintro e v2 ⟨u,bs,rfl,hl,ho,hs2,hg2⟩;have hlt:Hid (w.heap.size<v1.heap.size):=A1.lt;replace A1:=A1.other hg2 (fun e=>by have:=hb0.out;simp at e;omega);replace hg:=zC hg hg2;have HL:Hid (bs.length=n.toNat):=hl;have c0:=A1.cell 0;have c1:=A1.cell 1;have fz:=A1.frozen;simp at c0 c1;obtain⟨pu,qu,rfl,-⟩:=ho.rd;clear hg2 hs1 hl;go_wp2_with fail;have S1:Src ((v2.setCell ⟨w.heap.size,0,none⟩ (.int .i64 k)).setCell ⟨w.heap.size,1,none⟩ (.slice pu bs.length qu)) b p q cs (t+1+1+n):=(hs2.other (zJ _ _ _ _) (fun k hk=>by simp at hk;have:=hb0.out;omega)).other (zJ _ _ _ _) (fun k hk=>by simp at hk;have:=hb0.out;omega);exact bodyPost_ret (v:=.agg #[.int .i64 k,.slice pu bs.length qu]) (by simp[results,results133,go_sem,c0,c1]) rfl ⟨k,_,bs,t+1+1+n,rfl,x0,by omega,by have:=HL.out;omega,by omega,by omega,((ho.set (a:=⟨w.heap.size,0,none⟩) hlt.out _).set (a:=⟨w.heap.size,1,none⟩) hlt.out _).lower (B':=w.heap.size) (Nat.le_of_lt hlt.out),S1,zM (zM hg (yf _)) (yf _)⟩
theorem zGt (b:Nat) (p:Option Addr) (q:Nat) (cs:List UInt8) (t:Int) (w:World) (hs:Src w b p q cs t) (ht:0≤t) (ht2:t≤800000000):
    Calls prog 72 #[.pointer (some ⟨b,0,none⟩)] w fun e w'=>∃ (k:Int) (u:Value) (bs:List UInt8) (t':Int),e=.returned (.agg #[.int .i64 k,u])∧-1≤k∧k≤256∧bs.length≤161∧t≤t'∧t'≤t+40∧Own w' w.heap.size u bs∧Src w' b p q cs t'∧w.grownBy w' (some b):=by
  have hb0:Hid (b<w.heap.size):=hs.lt;have A0:=yr w [.int .i64 0,.slice none 0 0] 46;go_enter func72,ntmps72;go_wp2_with fail;refine(zIp b p q cs t _ (hs.keep (zA _ _)) (by omega) (by omega)).mono ?_;rintro e w1 ⟨k,u,bs,t1,rfl,hk0,hk1,hbl,ht3,ht4,ho,hs1,hg1⟩;rw[zB] at ho;replace A0:=A0.other hg1 (fun e=>by have:=hb0.out;simp at e;omega);replace hg1:=zC (World.grownBy_alloc w _ _) hg1;obtain⟨pu,qu,rfl,-⟩:=ho.rd
  have hlo:Hid (∀ k,(Value.slice pu bs.length qu).ownBlock=some k→k<w1.heap.size):=fun k hk=>ho.lt k hk
  have A1:=yr w1 [.int .i64 k,.slice pu bs.length qu] 46;have hb1:Hid (b<w1.heap.size):=hs1.lt;have hw1:Hid (w.heap.size<w1.heap.size):=A0.lt;go_wp2_with fail;refine(zAl b p q cs t1 8 _ (hs1.keep (zA _ _)) (by omega) (by omega) (by omega) (by omega)).mono ?_;rintro e w2 ⟨r,rfl,x0,y0,hs2,hg2⟩;replace A1:=A1.other hg2 (fun e=>by have:=hb1.out;simp at e;omega);replace A0:=(A0.stay (zA _ _)).other hg2 (fun e=>by have:=hb0.out;simp at e;omega);replace ho:=(ho.stay (zA _ _)).other hg2 (fun k hk e=>by have:=ho.ge k hk;have:=hb0.out;simp at e;omega);have hg:w.grownBy w2 (some b):=zC hg1 (zC (World.grownBy_alloc _ _ _) hg2);have c0:=A1.cell 0;have c1:=A1.cell 1;have d0:=A0.cell 0;have d1:=A0.cell 1;have fz:=A1.frozen;have fy:=A0.frozen;have hlt:=A1.lt;simp at c0 c1 d0 d1;clear hg1 hg2 hs hs1
  by_cases h0:r=0
  · subst h0;go_wp2_with fail;refine(zCU b p q cs (t1+1) w2.heap.size [-1,256] 2 _ (hs2.keep (zA _ _)) (by omega) (by omega) rfl (by decide) (by decide) (by have:=hs2.lt;omega) (zCT _ _ _ [-1,256] rfl)).mono ?_;rintro e w3 ⟨k3,hk3,rfl,hs3,hg3⟩
    have hR:Hid (-1≤k3∧k3≤256):=by
      show _∧_
      simp only[List.mem_cons,List.not_mem_nil,or_false] at hk3;omega
    clear hk3;replace A1:=(A1.stay (zA _ _)).other hg3 (fun e=>by have:=hb1.out;simp at e;omega);replace A0:=(A0.stay (zA _ _)).other hg3 (fun e=>by have:=hb0.out;simp at e;omega);replace ho:=(ho.stay (zA _ _)).other hg3 (fun k hk e=>by have:=ho.ge k hk;have:=hb0.out;simp at e;omega);replace hg:=zC hg (zC (World.grownBy_alloc _ _ _) hg3);have hgs:=zJ w3 w1.heap.size 0 (.int .i64 k3);have hE:=zGs (ho.other hgs (fun k hk e=>by have:=hlo.out k hk;simp at e;omega)) (hs3.other hgs (fun k hk=>by simp at hk;have:=hb1.out;omega)) hb0.out (zM hg (Nat.le_of_lt hw1.out)) (.int .i64 k3) (.slice pu bs.length qu);have c0:=A1.cell 0;have c1:=A1.cell 1;have d0:=A0.cell 0;have d1:=A0.cell 1;have fz:=A1.frozen;have fy:=A0.frozen;simp at c0 c1 d0 d1
    have hnw:w.heap.size≠w1.heap.size:=by have:=hw1.out;omega
    clear hgs hg hs3 ho hg3 hs2;go_wp2_with fail;exact bodyPost_ret (v:=.agg #[.int .i64 k3,.slice pu bs.length qu]) (by simp[results,results72,go_sem,d0,d1]) rfl ⟨k3,_,bs,t1+1+1,rfl,hR.out.1,hR.out.2,by omega,by omega,by omega,hE⟩
  · by_cases h1:r=1
    · subst h1;obtain⟨i0,hi,hz0,hz1,hz2⟩:=info_parts zCr;go_wp2_with fail;refine(zCU b p q cs (t1+1) w2.heap.size [160,161] 2 _ (hs2.keep (zA _ _)) (by omega) (by omega) rfl (by decide) (by decide) (by have:=hs2.lt;omega) (zCT _ _ _ [160,161] rfl)).mono ?_;rintro e w3 ⟨k3,hk3,rfl,hs3,hg3⟩
      obtain⟨n,rfl,hn⟩:∃ n:Nat,k3=n∧n≤161:=by
        simp only[List.mem_cons,List.not_mem_nil,or_false] at hk3;exact⟨k3.toNat,by omega,by omega⟩
      clear hk3;replace A1:=(A1.stay (zA _ _)).other hg3 (fun e=>by have:=hb1.out;simp at e;omega);replace A0:=(A0.stay (zA _ _)).other hg3 (fun e=>by have:=hb0.out;simp at e;omega);replace hg:=zC hg (zC (World.grownBy_alloc _ _ _) hg3);have hsz:w1.heap.size+1≤w3.heap.size:=A1.lt;clear ho;go_wp2_with (at_make;go_loud (refine wpList_make_full _ rfl (.tmp 18) (.tmp 18) 22 rfl (w1.heap.size+1) 5 i0 (.int .u8 0) 1 underlying22 hi hz0 hz1 .i64 .i64 _ _ n rfl rfl rfl rfl (by rw[hz2];omega) (by unfold maxLen;omega) hsz ?_);intro w4 hown hgrow;have ho4:=zAT hown;clear hown;replace A1:=A1.other hgrow (fun e=>by simp at e);replace A0:=A0.other hgrow (fun e=>by simp at e);replace hs3:=hs3.other hgrow (fun k hk=>by simp at hk);have hlo4:Hid (∀ k,(Value.slice (some ⟨w3.heap.size,0,none⟩) n n).ownBlock=some k→w1.heap.size+1≤k):=(fun k hk=>ho4.ge k hk);have c0:=A1.cell 0;have c1:=A1.cell 1;have d0:=A0.cell 0;have d1:=A0.cell 1;have fz:=A1.frozen;have fy:=A0.frozen;simp at c0 c1 d0 d1;have hnw:w.heap.size≠w1.heap.size:=(by have:=hw1.out;omega));have hgs:=zJ w4 w1.heap.size 1 (.slice (some ⟨w3.heap.size,0,none⟩) n n);have hE:=zGs ((ho4.lower (B':=w.heap.size+1) (by have:=hw1.out;omega)).other hgs (fun k hk e=>by have:=hlo4.out k hk;simp at e;omega)) (hs3.other hgs (fun k hk=>by simp at hk;have:=hb1.out;omega)) hb0.out (zM (zC hg (zHZ hgrow _)) (Nat.le_of_lt hw1.out)) (.int .i64 k) (.slice (some ⟨w3.heap.size,0,none⟩) n n);exact bodyPost_ret (v:=.agg #[.int .i64 k,.slice (some ⟨w3.heap.size,0,none⟩) n n]) (by simp[results,results72,go_sem,d0,d1]) rfl ⟨k,_,zs n,t1+1+1,rfl,by omega,by omega,by rw[zAX];omega,by omega,by omega,hE⟩
    · have e0:(r==0)=false:=by simp[h0]
      have e1:(r==1)=false:=by simp[h1]
      have hE:=zGs ho hs2 hb0.out hg (.int .i64 k) (.slice pu bs.length qu);go_wp2_with fail;exact bodyPost_ret (v:=.agg #[.int .i64 k,.slice pu bs.length qu]) (by simp[results,results72,go_sem,d0,d1]) rfl ⟨k,_,bs,t1+1,rfl,by omega,by omega,by omega,by omega,by omega,hE⟩
theorem zHa (w:World) (B:Nat):∀ n,OwnAll msgC w B (List.replicate n (0,[])) (List.replicate n [Value.int .i64 0,.slice none 0 0]).flatten []
  | 0=>⟨rfl,rfl⟩
  | n+1=>⟨[.int .i64 0,.slice none 0 0],(List.replicate n [Value.int .i64 0,.slice none 0 0]).flatten,[],[],rfl,rfl,zAA (a:=(0,[])) (v:=.slice none 0 0) (zO _ _),zHa w B n⟩
theorem zLV (b:Nat) (p:Option Addr) (q:Nat) (cs:List UInt8) (t:Int) (w:World) (hs:Src w b p q cs t) (ht:0≤t) (ht2:t≤700000000):
    Calls prog 99 #[.pointer (some ⟨b,0,none⟩)] w fun e w'=>∃ (v:Value) (l:List MsgD) (t':Int),e=.returned v∧l.length≤13∧(∀ a∈l,a.2.length≤161)∧t≤t'∧t'≤t+200∧(∃ xs fp,OwnL 46 msgC w' w.heap.size v l xs fp)∧Src w' b p q cs t'∧w.grownBy w' (some b):=by
  have hb0:Hid (b<w.heap.size):=hs.lt;have O1:=zHY w w.heap.size (yf _);go_enter func99,ntmps99;go_wp2_with fail;refine(zAl b p q cs t 5 _ (hs.keep (zA _ _)) (by omega) (by omega) (by omega) (by omega)).mono ?_;rintro e w1 ⟨r,rfl,x0,y0,hs1,hg1⟩;replace O1:=O1.draw hg1 hb0.out;have hg:w.grownBy w1 (some b):=zC (World.grownBy_alloc _ _ _) hg1;clear hs hg1;go_wp2_with fail
  go_loopw [3,4] (fun v i wr=>∃ (k:Nat) (l:List MsgD) (t':Int),(k:Int)+l.length≤4∧i=.int .i64 k∧(∀ a∈l,a.2.length≤161)∧t≤t'∧t'≤t+1+20*(l.length:Int)∧(∃ xs fp,OwnL 46 msgC wr w.heap.size v l xs fp)∧Src wr b p q cs t'∧w.grownBy wr (some b))
    (fun _ i _=>(intOf i).toNat)
  case atStart=>exact⟨r.toNat,[],t+1,by simp;omega,by rw[Int.toNat_of_nonneg x0],fun a ha=>(by cases ha),by omega,by simp,⟨_,_,O1⟩,hs1,hg⟩
  case round=>
    clear O1 hs1 hg;obtain⟨k,l,t1,hkl,rfl,hall,ht3,ht4,⟨xs,fp,ho⟩,hs1,hg⟩:=hrel;have HA:Hid (∀ a∈l,a.2.length≤161):=hall;clear hall;obtain⟨po,qo,rfl,hord⟩:=ho.rd;have hqo1:l.length≤qo:=hord.1;have hqo2:qo≤2 ^ 63-1:=hord.2.1;clear hord
    have hinsO:Hid (∀ j,j∈(Value.slice po l.length qo).ownBlock.toList++fp→j<wr.heap.size):=fun j hj=>(ho.ins j hj).2
    have hz2w:Hid (w.heap.size≤wr.heap.size):=hg.size;obtain⟨i0,hi,hz0,hz1,hz2⟩:=info_parts zBM
    by_cases hk:0<k
    · have hkI:0<(k:Int):=by omega
      go_wp2_with fail;refine(zIp b p q cs t1 _ hs1 (by omega) (by omega)).mono ?_;rintro e w3 ⟨kd,u3,bs,t3,rfl,hk0,hk1,hl3,ht5,ht6,k3,hs3,hg3⟩;obtain⟨pv,qv,rfl,-⟩:=k3.rd;have HL3:Hid (bs.length≤8):=hl3
      have hlow:Hid (∀ j,(Value.slice pv bs.length qv).ownBlock=some j→wr.heap.size≤j):=fun j hj=>k3.ge j hj
      replace ho:=ho.draw hg3 hb0.out;replace hg:=zC hg hg3;obtain⟨m,HBm⟩:∃ m,Hid (bs.length=m):=⟨_,rfl⟩;rw[HBm.out] at k3 hlow ⊢;have hb4:=zA w3 (.cells #[.int .i64 kd,.slice pv m qv] 46)
      have hnew:∀ j u,[Value.int .i64 kd,.slice pv m qv][j]?=some u→(w3.alloc (.cells #[.int .i64 kd,.slice pv m qv] 46)).cell? ((⟨w3.heap.size,0,none⟩:Addr).add j)=some u:=fun j u hj=>(yr w3 [.int .i64 kd,.slice pv m qv] 46).cells j u hj
      have k5:=k3.stay hb4;have ho5:=ho.stay hb4;have hs5:=hs3.keep hb4;have hg5:w.grownBy (w3.alloc (.cells #[.int .i64 kd,.slice pv m qv] 46)) (some b):=zC hg (World.grownBy_alloc _ _ _);have hrow5:Hid ((w3.alloc (.cells #[.int .i64 kd,.slice pv m qv] 46)).ownsRow w.heap.size 46 2 (.slice po l.length qo) l.length xs):=ho5.row;clear hg3 k3 ho hs3 hg hb4 hl3 hs1;go_wp2_with (at_builtin;go_loud (refine wpList_append_lies _ rfl (.tmp 12) (.tmp 15) 28 rfl w.heap.size 46 i0 (.agg #[.int .i64 0,.slice none 0 0]) 2 32 underlying28 hi hz0 hz1 hz2 rfl (by decide) (.slice po l.length qo) l.length xs rfl hrow5.out ⟨w3.heap.size,0,none⟩ 1 1 [.int .i64 kd,.slice pv m qv] rfl rfl hnew (by intro u hu;simp at hu;rcases hu with rfl | rfl <;> rfl) (by decide) (by unfold maxLen;omega) (by omega) hg5.size (w3.alloc (.cells #[.int .i64 kd,.slice pv m qv] 46)).heap.size rfl ?_);intro g6 c6 w6 hown6 hgrow6 hat6 hlt6);have ka:=zAA (a:=(kd,bs)) (k5.lower (B':=w.heap.size) hz2w.out)
      have OP:=ho5.push ka (fun j hj hj2=>by
        have h1:=hlow.out j (mem_opt.1 hj);have h2:=hinsO.out j hj2
        omega) (k:=l.length+1) (v':=.slice (some ⟨g6,0,none⟩) (l.length+1) c6) (g:=g6) hown6 (by simp) hgrow6 rfl hat6
      have hS6:=hs5.other hgrow6 (fun k hk=>by have:=(ho5.ins k (List.mem_append_left _ (mem_opt.2 hk))).1;have:=hb0.out;omega);have hG6:=zFf hg5 hgrow6 (fun k hk=>(ho5.ins k (List.mem_append_left _ (mem_opt.2 hk))).1);clear ho5 k5 hown6 hgrow6 hat6 hnew hrow5 ka hs5 hg5;go_wp2_with fail;go_roundw
      case rel=>
        refine⟨k-1,l++[(kd,bs)],t3,by rw[List.length_append,List.length_singleton];omega,by go_num,fun a ha=>?_,by omega,by rw[List.length_append,List.length_singleton];omega,⟨_,_,OP⟩,hS6,hG6⟩;rcases List.mem_append.1 ha with h | h
        · exact HA.out a h
        · rw[List.mem_singleton.1 h];have:=HL3.out;show bs.length≤161;omega
      case measure=>simp[intOf];omega
    · have hkI:¬ 0<(k:Int):=by omega
      go_wp2_with fail;refine(zAl b p q cs t1 12 _ hs1 (by omega) (by omega) (by omega) (by omega)).mono ?_;rintro e w2 ⟨n,rfl,x2,y2,hs2,hg2⟩;replace ho:=ho.draw hg2 hb0.out;replace hg:=zC hg hg2;have hz22:Hid (wr.heap.size≤w2.heap.size):=hg2.size;clear hg2 hs1
      by_cases h0:n=0
      · subst h0;go_wp2_with fail;refine(zGt b p q cs (t1+1) _ hs2 (by omega) (by omega)).mono ?_;rintro e w3 ⟨kd,u3,bs,t3,rfl,hk0,hk1,hl3,ht5,ht6,k3,hs3,hg3⟩;obtain⟨pv,qv,rfl,-⟩:=k3.rd;have HL3:Hid (bs.length≤161):=hl3
        have hlow:Hid (∀ j,(Value.slice pv bs.length qv).ownBlock=some j→w2.heap.size≤j):=fun j hj=>k3.ge j hj
        replace ho:=ho.draw hg3 hb0.out;have hz2v:Hid (w.heap.size≤w2.heap.size):=hg.size;replace hg:=zC hg hg3;obtain⟨m,HBm⟩:∃ m,Hid (bs.length=m):=⟨_,rfl⟩;rw[HBm.out] at k3 hlow ⊢;have hb4:=zA w3 (.cells #[.int .i64 kd,.slice pv m qv] 46)
        have hnew:∀ j u,[Value.int .i64 kd,.slice pv m qv][j]?=some u→(w3.alloc (.cells #[.int .i64 kd,.slice pv m qv] 46)).cell? ((⟨w3.heap.size,0,none⟩:Addr).add j)=some u:=fun j u hj=>(yr w3 [.int .i64 kd,.slice pv m qv] 46).cells j u hj
        have k5:=k3.stay hb4;have ho5:=ho.stay hb4;have hs5:=hs3.keep hb4;have hg5:w.grownBy (w3.alloc (.cells #[.int .i64 kd,.slice pv m qv] 46)) (some b):=zC hg (World.grownBy_alloc _ _ _);have hrow5:Hid ((w3.alloc (.cells #[.int .i64 kd,.slice pv m qv] 46)).ownsRow w.heap.size 46 2 (.slice po l.length qo) l.length xs):=ho5.row;clear hg3 k3 ho hs3 hg hb4 hl3 hs2;go_wp2_with (at_builtin;go_loud (refine wpList_append_lies _ rfl (.tmp 21) (.tmp 24) 28 rfl w.heap.size 46 i0 (.agg #[.int .i64 0,.slice none 0 0]) 2 32 underlying28 hi hz0 hz1 hz2 rfl (by decide) (.slice po l.length qo) l.length xs rfl hrow5.out ⟨w3.heap.size,0,none⟩ 1 1 [.int .i64 kd,.slice pv m qv] rfl rfl hnew (by intro u hu;simp at hu;rcases hu with rfl | rfl <;> rfl) (by decide) (by unfold maxLen;omega) (by omega) hg5.size (w3.alloc (.cells #[.int .i64 kd,.slice pv m qv] 46)).heap.size rfl ?_);intro g6 c6 w6 hown6 hgrow6 hat6 hlt6);have ka:=zAA (a:=(kd,bs)) (k5.lower (B':=w.heap.size) hz2v.out)
        have OP:=ho5.push ka (fun j hj hj2=>by
          have h1:=hlow.out j (mem_opt.1 hj);have h2:=hinsO.out j hj2;have h3:=hz22.out
          omega) (k:=l.length+1) (v':=.slice (some ⟨g6,0,none⟩) (l.length+1) c6) (g:=g6) hown6 (by simp) hgrow6 rfl hat6
        have hS6:=hs5.other hgrow6 (fun k hk=>by have:=(ho5.ins k (List.mem_append_left _ (mem_opt.2 hk))).1;have:=hb0.out;omega);have hG6:=zFf hg5 hgrow6 (fun k hk=>(ho5.ins k (List.mem_append_left _ (mem_opt.2 hk))).1);go_ret;refine⟨_,l++[(kd,bs)],t3,rfl,by rw[List.length_append,List.length_singleton];omega,fun a ha=>?_,by omega,by omega,⟨_,_,OP⟩,hS6,hG6⟩;rcases List.mem_append.1 ha with h | h
        · exact HA.out a h
        · rw[List.mem_singleton.1 h];exact HL3.out
      · by_cases h1:n=1
        · subst h1;have hsz:w.heap.size≤w2.heap.size:=hg.size;go_wp2_with (at_make;go_loud (refine wpList_make_full _ rfl (.const (.int .i64 13)) (.const (.int .i64 13)) 28 rfl w.heap.size 46 i0 (.agg #[.int .i64 0,.slice none 0 0]) 2 underlying28 hi hz0 hz1 .i64 .i64 _ _ 13 rfl rfl rfl rfl (by rw[hz2];decide) (by unfold maxLen;decide) hsz ?_);intro w4 hown hgrow);have hbw:=zH9 hgrow;rw[show(madeCells (Value.cells (.agg #[.int .i64 0,.slice none 0 0])) (13*2)).toList=(List.replicate 13 [Value.int .i64 0,.slice none 0 0]).flatten by kernel_rfl] at hown;go_ret;exact⟨_,List.replicate 13 (0,[]),t1+1,rfl,by decide,fun a ha=>by rw[List.eq_of_mem_replicate ha];decide,by omega,by omega,⟨_,_,⟨hown,zHa _ _ 13,by simp[Value.ownBlock]⟩⟩,hs2.keep hbw,zC hg (zHz hbw _)⟩
        · have e0:(n==0)=false:=by simp[h0]
          have e1:(n==1)=false:=by simp[h1]
          go_wp2;go_ret;exact⟨_,l,t1+1,rfl,by omega,HA.out,by omega,by omega,⟨_,_,ho⟩,hs2,hg⟩
theorem zKK (a b:UInt8):bits .xor .u8 (a.toNat:Int) (b.toNat:Int)=((a ^^^ b).toNat:Int):=by
  rw[u8_xor_nat _ _ a.toNat_lt b.toNat_lt,UInt8.toNat_xor]
end Go.Proofs.YtiabacnmmojfjaaGreatDoor
