import Derived.Test.YtiabacnmmojfjabGreatDoorJoint11
import Derived.Test.YtiabacnmmojfjabGreatDoorJoint10
import Derived.Test.YtiabacnmmojfjabGreatDoorJoint1
import Derived.Test.YtiabacnmmojfjabGreatDoorJoint6
import Derived.Deep.AppendLies
import Derived.Great.BuildSlice
set_option maxHeartbeats 2000000
set_option maxRecDepth 4000
open Go.Proofs.Tryz
namespace Go.Proofs.YtiabacnmmojfjabGreatDoor
open Go.ChangeShapes Go.WideShapes Go.ChangeAt Go.RowKit
theorem zGe (l:List BlkD) (p:Option Addr) (q:Nat) (w:World) (hr:RdL bytC w p q l) (h2:(zA1 l).length≤1000000):
    Calls prog 188 #[.slice p l.length q] w fun e w'=>∃ u,e=.returned u∧Own w' w.heap.size u (zA1 l)∧Below w.heap.size w w':=by
  have HR:Hid (RdL bytC w p q l):=hr;have H2:Hid ((zA1 l).length≤1000000):=h2;have hq1:l.length≤q:=hr.1;have hq2:q≤2 ^ 63-1:=hr.2.1;have O1:=zCO w w.heap.size (yf _);have BW:=zA w (.cells #[] 5);clear hr h2;go_enter func188,ntmps188;go_wp2
  go_loopw [3,4] (fun v i wr=>∃ j:Nat,j≤l.length∧i=.int .i64 j∧Own wr w.heap.size v (zA1 (l.take j))∧Below w.heap.size w wr)
    (fun _ i _=>l.length-(intOf i).toNat)
  case atStart=>exact⟨0,Nat.zero_le _,rfl,O1,BW⟩
  case round=>
    clear O1 BW;obtain⟨j,hj,rfl,ho,BW⟩:=hrel;obtain⟨po,qo,rfl,-⟩:=ho.rd
    by_cases hlt:j<l.length
    · have hI:(j:Int)<(l.length:Int):=by omega
      obtain⟨b,o,e1,hc⟩:=HR.out.2.2.2 (by omega);subst e1;obtain⟨a,ha⟩:∃ a,l[j]?=some a:=⟨l[j],by simp[hlt]⟩;obtain⟨us,hrep,hcell⟩:=hc j a ha;obtain⟨pa,qa,rfl,ra⟩:=zNK hrep;have c0:=hcell 0 _ rfl;rw[show bytC.n=1 from rfl,Nat.add_zero,Nat.mul_one] at c0;have hb0:=World.block_lt_of_cell? w _ c0;replace c0:=zL c0 BW;have HT:Hid (zA1 (l.take (j+1))=zA1 (l.take j)++blkW a):=zJc ha
      have HLe:Hid ((zA1 (l.take j)).length+(blkW a).length≤1000000):=by have h:=zLX l (j+1);rw[HT.out,List.length_append] at h;have:=H2.out;show _≤_;omega
      have HBl:Hid ((blkW a).length=a.length+1):=zDY a;obtain⟨fs,hfs⟩:∃ fs,Hid (fs=zA1 (l.take j)):=⟨_,rfl⟩;rw[← hfs.out] at ho HT HLe ⊢;have HRA:Hid (Rd w pa qa a):=ra;have hM:Hid (((a.length:Int) % 256)=((zBk (a.length:Int)).toNat:Int)):=(zCf _).symm;have g0:=Gen.low_cell (B:=w.heap.size) c0 hb0;have hne:=Gen.low_some w.heap.size wr;clear hc hcell hrep c0 ra;go_wp2_with fail;refine Gen.wp_region_pick (Gen.low_pre w.heap.size) [0,1,2,3,4,5,6,9,10,11,12] 13 2 2 rfl rfl rfl (by kernel_rfl) (by kernel_rfl) (by kernel_rfl) (by kernel_rfl) ?_;simp only[zH,ya,yb,yc]
      repeat (go_big_quiet_step (fail))
      refine wpQuiet_nil ?_;clear g0 hne;refine Gen.wpM_only (i:=7) (by kernel_rfl) ?_;refine Gen.mOp_make rfl (by go_simp) ?_;rintro _ ⟨n1,rfl⟩;have B1:Below w.heap.size wr (wr.drewN n1):=(Gen.low_pre w.heap.size).drewN _ _;have hg1:wr.grownBy (wr.drewN n1) none:=zCD wr n1 none;replace ho:=ho.other hg1 (fun _ _ e=>by cases e);replace BW:=BW.trans B1;generalize wr.drewN n1=V1 at *;have R1:=zFA V1 (zBk (a.length:Int)) 5 _ hM.out;refine⟨.slice (some ⟨V1.heap.size,0,none⟩) 1 1,V1.alloc (.cells #[.int .u8 ((a.length:Int) % 256)] 5),by go_simp,⟨⟨_,(Below.refl _ _).alloc BW.size _⟩,rfl⟩,?_⟩;replace ho:=ho.stay (zA V1 (.cells #[.int .u8 ((a.length:Int) % 256)] 5));replace BW:=BW.alloc BW.size (.cells #[.int .u8 ((a.length:Int) % 256)] 5);generalize V1.alloc (.cells #[.int .u8 ((a.length:Int) % 256)] 5)=V2 at *;generalize V1.heap.size=g1 at *;clear B1 hg1;refine Gen.wpM_only (i:=8) (by kernel_rfl) ?_;refine Gen.mOp_list rfl (by go_simp) (by kernel_rfl) ?_;rintro _ ⟨n2,rfl⟩;have B2:Below w.heap.size V2 (V2.drewN n2):=(Gen.low_pre w.heap.size).drewN _ _;have hg2:V2.grownBy (V2.drewN n2) none:=zCD V2 n2 none;replace ho:=ho.other hg2 (fun _ _ e=>by cases e);replace R1:=R1.other hg2 (fun _ _ _ e=>by cases e);replace BW:=BW.trans B2;generalize V2.drewN n2=V3 at *;refine zG rfl (.tmp 12) (.tmp 19) rfl w.heap.size _ fs rfl ho _ 1 [zBk (a.length:Int)] rfl R1 (by have:=HLe.out;have:=HBl.out;simp;omega) BW.size ?_;intro v4 w4 ho4 hg4;have B4:=(Below.refl w.heap.size V3).grown hg4 BW.size (fun k hk=>ho.ge k hk);refine⟨rfl,B4,?_⟩;replace BW:=BW.trans B4;obtain⟨p4,q4,rfl,-⟩:=ho4.rd;clear hg4 ho R1 B2 hg2 B4;refine Gen.wpM_end (by kernel_rfl) rfl (by kernel_rfl) (by decide) ?_;rintro _ ⟨n5,rfl⟩;have B5:Below w.heap.size w4 (w4.drewN n5):=(Gen.low_pre w.heap.size).drewN _ _;have hg5:w4.grownBy (w4.drewN n5) none:=zCD w4 n5 none;replace ho4:=ho4.other hg5 (fun _ _ e=>by cases e);replace BW:=BW.trans B5;generalize w4.drewN n5=V5 at *;clear hg5 B5;have RA:=HRA.out.keep BW;simp only[yd,ye]
      have HE:Hid (zA1 (l.take (j+1))=(fs++[zBk (a.length:Int)])++a):=by rw[HT.out];show _=_;simp[blkW]
      have HL:Hid ((fs++[zBk (a.length:Int)]).length+a.length≤1000000):=by have:=HLe.out;have:=HBl.out;show _≤_;simp;omega
      generalize fs++[zBk (a.length:Int)]=gs at *;go_wp2_with (at_builtin;go_loud (refine zG rfl (.tmp 20) (.tmp 24) rfl w.heap.size _ gs rfl ho4 pa qa a rfl RA (by have:=HL.out;omega) BW.size ?_);intro v6 w6 ho6 hg6);have B6:=BW.grown hg6 BW.size (fun k hk=>ho4.ge k hk);rw[← HE.out] at ho6;clear ho4 hg6 RA BW;go_roundw
      case rel=>exact⟨j+1,by omega,by go_num,ho6,B6⟩
      case measure=>simp[intOf];omega
    · have e:j=l.length:=by omega
      subst e;rw[List.take_length] at ho ⊢;go_wp2;go_ret;exact⟨_,rfl,ho,BW⟩
theorem zKm (w:World) (B:Nat) (h:B≤w.heap.size):OwnL 22 bytC (w.alloc (.cells #[] 22)) B (.slice (some ⟨w.heap.size,0,none⟩) 0 0) [] [] []:=
  ⟨World.ownsRow_lit (base:=B) (e:=22) (size:=1) w #[] 0 h (by unfold maxLen;decide) (by simp),⟨rfl,rfl⟩,by simp[Value.ownBlock]⟩
theorem zCv (w:World) (B:Nat):OwnL 22 bytC w B (.slice none 0 0) [] [] []:=⟨World.ownsRow_nil _ _ _ _,⟨rfl,rfl⟩,by simp[Value.ownBlock]⟩
theorem zKn (data:List UInt8) (p:Option Addr) (q:Nat) (w:World) (hr:Rd w p q data) (hd:data.length≤1000):
    Calls prog 125 #[.slice p data.length q] w fun e w'=>∃ v,e=.returned (.tuple #[v,.bool (zAg data 0 []).isSome])∧(∃ xs fp,OwnL 22 bytC w' w.heap.size v ((zAg data 0 []).getD []) xs fp)∧Below w.heap.size w w':=by
  have HR:Hid (Rd w p q data):=hr;have hq1:data.length≤q:=hr.1;have hq2:q≤2 ^ 63-1:=hr.2.1
  have hdI:(data.length:Int)≤1000:=by omega
  have O1:=zKm w w.heap.size (yf _);have BW:=zA w (.cells #[] 22);obtain⟨fin,HF⟩:∃ fin,Hid (fin=zAg data 0 []):=⟨_,rfl⟩;rw[← HF.out];clear hr;go_enter func125,ntmps125;go_wp2_with fail
  go_loopw [4,5] (fun v i wr=>∃ (at_:Nat) (out:List BlkD) (xs:List Value) (fp:List Nat),at_≤data.length∧i=.int .i64 at_∧OwnL 22 bytC wr w.heap.size v out xs fp∧out.length≤8∧fin=zAg data at_ out∧Below w.heap.size w wr)
    (fun _ i _=>data.length-(intOf i).toNat)
  case atStart=>exact⟨0,[],[],[],Nat.zero_le _,rfl,O1,by decide,HF.out,BW⟩
  case round=>
    clear O1 BW HF;obtain⟨at_,out,xs,fp,hat,rfl,ho,hol,hfin,BW⟩:=hrel;have HFN:Hid (fin=zAg data at_ out):=hfin;clear hfin
    by_cases hlt:at_<data.length
    · have hI:(at_:Int)<(data.length:Int):=by omega
      obtain⟨b,o,e1,hcd⟩:=(HR.out.keep BW).2.2.2 (by omega);subst e1;have hcy:wr.cell? ⟨b,o+at_,none⟩=some (.int .u8 ((zAI data at_:Nat):Int)):=hcd at_ hlt;have hnl:zAI data at_<256:=UInt8.toNat_lt _
      have hnI:((zAI data at_:Nat):Int)<256:=by omega
      obtain⟨po,qo,rfl,hord⟩:=ho.rd;have hqo1:out.length≤qo:=hord.1;have hqo2:qo≤2 ^ 63-1:=hord.2.1
      by_cases h2:120<zAI data at_∨8≤out.length∨data.length<at_+1+zAI data at_
      · have HE:Hid (fin=none):=by show _=_;rw[HFN.out,zCq hlt h2]
        generalize zAI data at_=n at *;clear hcd HFN
        by_cases h3:120<n
        · have h3I:120<(n:Int):=by omega
          go_wp2_with fail;exact bodyPost_ret (v:=.tuple #[.slice none 0 0,.bool false]) (by simp[results,results125,go_sem]) rfl ⟨_,by rw[HE.out];rfl,⟨_,_,by rw[HE.out];exact zCv _ _⟩,BW⟩
        · have h3I:¬ (120<(n:Int)):=by omega
          by_cases h4:8≤out.length
          · have h4I:8≤(out.length:Int):=by omega
            go_wp2_with fail;exact bodyPost_ret (v:=.tuple #[.slice none 0 0,.bool false]) (by simp[results,results125,go_sem]) rfl ⟨_,by rw[HE.out];rfl,⟨_,_,by rw[HE.out];exact zCv _ _⟩,BW⟩
          · have h4I:¬ (8≤(out.length:Int)):=by omega
            have h5I:(data.length:Int)<(at_:Int)+1+(n:Int):=by omega
            go_wp2_with fail;exact bodyPost_ret (v:=.tuple #[.slice none 0 0,.bool false]) (by simp[results,results125,go_sem]) rfl ⟨_,by rw[HE.out];rfl,⟨_,_,by rw[HE.out];exact zCv _ _⟩,BW⟩
      · have h3I:¬ (120<((zAI data at_:Nat):Int)):=by omega
        have h4I:¬ (8≤(out.length:Int)):=by omega
        have h5I:¬ ((data.length:Int)<(at_:Int)+1+((zAI data at_:Nat):Int)):=by omega
        have HN:Hid (fin=zAg data (at_+1+zAI data at_) (out++[zA6 data at_])):=by show _=_;rw[HFN.out,zCr hlt h2]
        have hcut2:=(HR.out.keep BW).cut (at_+1) (zAI data at_) (q-(at_+1)) (by omega) (by omega) (by have:=HR.out.2.1;omega)
        have hbl:Hid ((zA6 data at_).length=zAI data at_):=by show _=_;unfold zA6;simp;omega
        have hol2:Hid ((out++[zA6 data at_]).length≤8):=by show _≤_;rw[List.length_append,List.length_singleton];omega
        have hnx:Hid (at_+1+zAI data at_≤data.length):=by show _≤_;omega
        have hrd2:Rd wr (if q=at_+1 then some ⟨b,o,none⟩ else some ⟨b,o+(at_+1),none⟩) (q-(at_+1)) (zA6 data at_):=by
          split
          · rename_i hq
            have hn0:zAI data at_=0:=by omega
            unfold zA6;rw[hn0,List.take_zero];exact⟨by simp,by unfold maxLen;omega,fun e=>by simp at e,fun h=>by simp at h⟩
          · exact hcut2
        have KC:Hid (∀ (pX:Option Addr) (cX:Nat),pX=(if q=at_+1 then some ⟨b,o,none⟩ else some ⟨b,o+(at_+1),none⟩)→cX=q-(at_+1)→Calls prog 66 #[.slice pX (zAI data at_) cX] wr fun e w'=>∃ u,e=.returned u∧Own w' wr.heap.size u (zA6 data at_)∧Below wr.heap.size wr w'):=fun pX cX h1 h2=>by
          subst h1 h2;have h:=zBc (if q=at_+1 then some ⟨b,o,none⟩ else some ⟨b,o+(at_+1),none⟩) (q-(at_+1)) _ wr hrd2 (by rw[hbl.out];omega);rw[hbl.out] at h;exact h
        clear hrd2;generalize zA6 data at_=body at *;generalize zAI data at_=n at *;clear hcd hcut2 h2 HFN hnl;go_wp2_with fail
        case' inl=>
          have hq:q=at_+1:=by assumption
          subst hq;refine(KC.out _ _ (by rw[if_pos rfl]) (by omega)).mono ?_
        case' inr=>refine(KC.out _ _ (by rw[if_neg (by assumption)]) rfl).mono ?_
        all_goals
          rintro e w3 ⟨u3,rfl,k3,hb3⟩;obtain⟨pv,qv,rfl,-⟩:=k3.rd;rw[hbl.out] at k3 ⊢;have hb4:=zA w3 (.cells #[.slice pv n qv] 22)
          have hnew:∀ j u,[Value.slice pv n qv][j]?=some u→(w3.alloc (.cells #[.slice pv n qv] 22)).cell? ((⟨w3.heap.size,0,none⟩:Addr).add j)=some u:=fun j u hj=>(yp w3 [.slice pv n qv] 22).cells j u hj
          have k5:=k3.stay hb4;have hb5:=yn hb3 hb4;have ho5:=ho.stay hb5;have BW5:=yn BW hb5;have hrow5:Hid ((w3.alloc (.cells #[.slice pv n qv] 22)).ownsRow w.heap.size 22 1 (.slice po out.length qo) out.length xs):=ho5.row;obtain⟨i0,hi,hz0,hz1,hz2⟩:=info_parts zKc;go_wp2_with (at_builtin;go_loud (refine wpList_append_lies _ rfl (.tmp 33) (.tmp 43) 144 rfl w.heap.size 22 i0 (.slice none 0 0) 1 24 underlying144 hi hz0 hz1 hz2 rfl (by decide) (.slice po out.length qo) out.length xs rfl hrow5.out ⟨w3.heap.size,0,none⟩ 1 1 [.slice pv n qv] rfl rfl hnew (by intro u hu;simp at hu;subst hu;rfl) (by decide) (by unfold maxLen;omega) (by omega) BW5.size (w3.alloc (.cells #[.slice pv n qv] 22)).heap.size rfl ?_);intro g6 c6 w6 hown6 hgrow6 hat6 hlt6)
          have hlow:Hid (∀ j,(Value.slice pv n qv).ownBlock=some j→wr.heap.size≤j):=fun j hj=>k5.ge j hj
          have hinsO:Hid (∀ j,j∈(Value.slice po out.length qo).ownBlock.toList++fp→j<wr.heap.size):=fun j hj=>(ho.ins j hj).2
          have ka:=zGZ (a:=body) (k5.lower (B':=w.heap.size) BW.size)
          have OP:=ho5.push ka (fun j hj hj2=>by
            have h1:=hlow.out j (mem_opt.1 hj);have h2:=hinsO.out j hj2
            omega) (k:=out.length+1) (v':=.slice (some ⟨g6,0,none⟩) (out.length+1) c6) (g:=g6) hown6 (by simp) hgrow6 rfl hat6
          have BW6:=BW5.grown hgrow6 BW5.size (fun k hk=>(ho5.ins k (List.mem_append_left _ (mem_opt.2 hk))).1);clear ho ho5 k3 k5 hown6 hgrow6 hat6 hnew hrow5 ka BW5 BW hb3 hb4 hb5 hcy;go_wp2_with fail;go_roundw
          case rel=>first | exact⟨at_+1+n,out++[body],_,_,hnx.out,by go_num,OP,hol2.out,HN.out,BW6⟩ | ((repeat apply Exists.intro);refine⟨?_,rfl⟩;exact⟨at_+1+n,out++[body],_,_,hnx.out,by go_num,OP,hol2.out,HN.out,BW6⟩)
          case measure=>have:=hnx.out;simp[intOf];omega
    · have e:at_=data.length:=by omega
      subst e
      have HE:Hid (fin=some out):=by show _=_;rw[HFN.out,zCg (by omega)]
      obtain⟨po,qo,rfl,-⟩:=ho.rd;go_wp2_with fail;exact bodyPost_ret (v:=.tuple #[.slice po out.length qo,.bool true]) (by simp[results,results125,go_sem]) rfl ⟨_,by rw[HE.out];rfl,⟨_,_,by rw[HE.out];exact ho⟩,BW⟩
theorem zI8 {data:List UInt8} (h:¬ data.length≤160):ubC data=2∧ubL data=[]:=by rw[ubC,ubL,if_neg h,if_neg h];exact⟨rfl,rfl⟩
theorem zLx {data:List UInt8} (h:data.length≤160) (h2:zAg data 0 []=none):ubC data=5∧ubL data=[]:=by rw[ubC,ubL,if_pos h,if_pos h,h2];exact⟨rfl,rfl⟩
theorem zG4 {data:List UInt8} {r:List BlkD} (h:data.length≤160) (h2:zAg data 0 []=some r):ubC data=0∧ubL data=r:=by rw[ubC,ubL,if_pos h,if_pos h,h2];exact⟨rfl,rfl⟩
theorem zKo (w:World) (B:Nat) (h:B≤w.heap.size):OwnL 53 msgC (w.alloc (.cells #[] 53)) B (.slice (some ⟨w.heap.size,0,none⟩) 0 0) [] [] []:=
  ⟨World.ownsRow_lit (base:=B) (e:=53) (size:=2) w #[] 0 h (by unfold maxLen;decide) (by simp),⟨rfl,rfl⟩,by simp[Value.ownBlock]⟩
theorem zEM (w:World) (B:Nat):OwnL 53 msgC w B (.slice none 0 0) [] [] []:=⟨World.ownsRow_nil _ _ _ _,⟨rfl,rfl⟩,by simp[Value.ownBlock]⟩
theorem zFE:∀ (l:List MsgD),zN l≤(zE l).length
  | []=>by simp[zN]
  | a :: l=>by
    have h:=zFE l;rw[zB0,List.length_append,zDC];simp only[zN,List.map_cons,List.sum_cons,List.length_cons] at h ⊢;omega
theorem zB7 {P:Program} {ops:Array Oper} {C:World→Prop} {Q:Act→Prop} {a:Act} {o:Oper} {rest:List Oper} (hgd:o.guard=none) (ty:TypeId) (x:Operand) (ho:o.op=.load ty x)
    (g:Nat) (hx:a.eval x=.pointer (some ⟨g,0,none⟩)) (t:TypeId) (cs:Array Value) (fr:Nat×Nat) (d:TypeDesc) (hg:∀ w,C w→w.heap[g]?=some (.cells cs t fr))
    (hu:P.underlying ty=some d) (hd:(match d with | .struct _ | .array _ _=>true | _=>false)=true) (hi:(P.info? ty).map (·.size)=some cs.size)
    (h:wpQuiet P ops C Q rest (a.put o.dst (.agg cs))):wpQuiet P ops C Q (o :: rest) a:=by
  unfold wpQuiet;rw[if_pos (by simp[Region.wanted,hgd])];refine⟨.agg cs,fun w hw=>?_,h⟩;unfold Oper.quietAt execOp;simp only[ho,hx,Instr.loadAt,Instr.sureAddr,Sem.run_bind,Sem.run_pure,Result.andThen_ok,run_loadVar_row w g t ty cs fr d (hg w hw) hu hd hi];exact⟨rfl,rfl⟩
theorem zB8 {P:Program} {ops:Array Oper} {C:World→Prop} {Q:Exit→Act→World→Prop} {a:Act} {w:World} {id:Nat} (n:Nat) {o:Oper} (hn:ops.size=n+1) (ho:ops[n]?=some o) (hgd:o.guard=none)
    (hm:P.follows .mixedOrders=true) (hs:Region.noSelect ops=true) (hB:lexT .any ops n 0 (Array.replicate ops.size false)=true) (hw:zDe .any ops n=true) (hC:C { w with drawn:=w.drawn+1 })
    (h:∀ Z:Act→Prop,(∀ a',(∀ w',C w'→∀ K:Act→World→Prop,(∀ a'' w'',Q .normal a'' w''→K a'' w'')→o.wp P a' w' K Q)→Z a')→wpQuiet P ops C Z (ops.toList.take n) a):(Code.region id ops true).wp P Q a w:=
  zDq n hn ho hgd hm hs hB hw hC (h _ (fun _ h=>h))
def keysI:List Int:=keysN.map Int.ofNat
def keysV:List Value:=keysI.map (Value.int .i64)
theorem zLy {i:Nat} (h:i<64):keysV[i]?=some (.int .i64 (keysN.getD i 0:Nat)):=by
  have hl:i<keysN.length:=h;simp[keysV,keysI,hl]
theorem zLz (w:World):Calls prog 132 #[] w fun e w'=>e=.returned (.agg keysV.toArray)∧Below w.heap.size w w':=by
  have hzv:Hid (∀ w,(zeroValue 153).run prog w=.ok (.agg zI.toArray) w):=(zero_of_info zCY).1
  have hsz:Hid ((Tryz.prog.info? 153).map (·.size)=some keysV.toArray.size):=by show _=_;rw[(zero_of_info zCY).2];rfl
  have hA:=(yp w zI 153);go_enter func132,ntmps132
  go_wp2_with (first
    | refine zT rfl 153 rfl _ hzv.out w.heap.size rfl ?_
    | refine wpList_buildFlatArrTo rfl 153 2 64 _ rfl .i64 keysI _ rfl underlying153 (by kernel_rfl) (by kernel_rfl) (by kernel_rfl) ?_
    | refine wpList_store_row rfl 153 (.tmp 0) (.tmp 1) rfl w.heap.size keysV.toArray rfl rfl 153 zI.toArray hA hsz.out rfl (by kernel_rfl) ?_)
  exact bodyPost_ret (v:=.agg keysV.toArray) (results_cell_row results132 _ _ w.heap.size 153 _ (0,0) _ rfl (hA.row _) underlying153 rfl hsz.out) rfl ⟨rfl,Below.row (zA _ _) (yf _) _⟩
theorem zNT (s t:S8):(s.list.map i64v).toArray.size=t.i64.size:=rfl
theorem zNU (s:S8):s.i64.all (·.oneCell')=true:=by simp[S8.i64];exact⟨rfl,rfl,rfl,rfl,rfl,rfl,rfl,rfl⟩
theorem zFF (bs:List UInt8) (k:Nat):zAj bs (k+1)=addS (zAj bs k) (zAi (zAh ((bs.drop (64*k)).take 64)) (zAj bs k) 64):=rfl
theorem zFG (ws:List Nat) (s:S8) (k:Nat):zAi ws s (k+1)=zCA (zAi ws s k) (ws.getD k 0) (keysN.getD k 0):=rfl
theorem zKp (w:World):Calls prog 133 #[] w fun e w'=>e=.returned (.agg startN.i64)∧Below w.heap.size w w':=by
  go_enter func133,ntmps133;go_wp2;exact bodyPost_ret (v:=.agg startN.i64) (by simp[results,results133,go_sem];rfl) rfl ⟨rfl,zA _ _⟩
def addV (f:Nat→Value) (s t:S8) (j:Nat):List Value:=(List.range 8).map fun i=>f (if i<j then (s.list.getD i 0+t.list.getD i 0) % 4294967296 else s.list.getD i 0)
theorem zKq (f:Nat→Value) (s t:S8):addV f s t 0=s.list.map f:=rfl
theorem zI9 (f:Nat→Value) (s t:S8):addV f s t 8=(addS s t).list.map f:=rfl
theorem lt8 {j:Nat} (h:j<8):j=0∨j=1∨j=2∨j=3∨j=4∨j=5∨j=6∨j=7:=by omega
theorem zJA (f:Nat→Value) (s t:S8) {j:Nat} (h:j<8):(addV f s t j).set j (f ((s.list.getD j 0+t.list.getD j 0) % 4294967296))=addV f s t (j+1):=by
  rcases lt8 h with rfl | rfl | rfl | rfl | rfl | rfl | rfl | rfl <;> rfl
theorem zKr (f:Nat→Value) (s t:S8) {j:Nat} (h:j<8):(addV f s t j)[j]?=some (f (s.list.getD j 0)):=by
  rcases lt8 h with rfl | rfl | rfl | rfl | rfl | rfl | rfl | rfl <;> rfl
theorem zFW (f:Nat→Value) (s:S8) {j:Nat} (h:j<8):(s.list.map f)[j]?=some (f (s.list.getD j 0)):=by
  rcases lt8 h with rfl | rfl | rfl | rfl | rfl | rfl | rfl | rfl <;> rfl
def zC7 (xs:List Nat) (j:Nat):List UInt8:=(xs.take j).flatMap (fun x=>putB x 4)
theorem zHs (s:S8) {j:Nat} (h:j≤8):(zC7 s.list j).length=4*j:=by
  rcases(show j<8∨j=8 by omega) with h | rfl
  · rcases lt8 h with rfl | rfl | rfl | rfl | rfl | rfl | rfl | rfl <;> simp[zC7,S8.list,zM]
  · simp[zC7,S8.list,zM]
theorem zGf (s:S8) {j:Nat} (h:j<8):zC7 s.list j++putB (s.list.getD j 0) 4=zC7 s.list (j+1):=by
  rcases lt8 h with rfl | rfl | rfl | rfl | rfl | rfl | rfl | rfl <;> simp[zC7,S8.list]
theorem zHt (s:S8):zC7 s.list 8=zE3 s:=by simp[zC7,zE3,S8.list]
theorem zGg (bs:List UInt8):(padN bs).length=64*((bs.length+72) / 64):=by rw[zCh];omega
theorem zKs:(Tryz.prog.info? 155).map (fun i=>(i.zero,i.size))=some (some (.agg (List.replicate 8 (Value.int .i64 0)).toArray),8):=by kernel_rfl
theorem zCl (p:Option Addr) (q:Nat) (bs:List UInt8) (w:World) (hr:Rd w p q bs) (hl:bs.length≤600):
    Calls prog 88 #[.slice p bs.length q] w fun e w'=>∃ u,e=.returned u∧Own w' w.heap.size u (zS bs)∧Below w.heap.size w w':=by
  have hzv:Hid (∀ w,(zeroValue 153).run prog w=.ok (.agg zI.toArray) w):=(zero_of_info zCY).1;have hzs:Hid (∀ w,(zeroValue 155).run prog w=.ok (.agg (List.replicate 8 (Value.int .i64 0)).toArray) w):=(zero_of_info zKs).1
  have hsz:Hid ((Tryz.prog.info? 153).map (·.size)=some keysV.toArray.size):=by show _=_;rw[(zero_of_info zCY).2];rfl
  have hs8:Hid (∀ s:S8,(Tryz.prog.info? 155).map (·.size)=some s.i64.size):=by intro s;rw[(zero_of_info zKs).2];rfl
  go_enter func88,ntmps88;go_wp2_with fail;refine(zLz _).mono ?_;rintro e w1 ⟨rfl,hb1⟩;have A1:=yp w1 zI 153;have A2:=A1.row keysV
  go_wp2_with (first
    | refine zT rfl 153 rfl _ hzv.out w1.heap.size rfl ?_
    | refine wpList_store_row rfl 153 (.tmp 3) (.tmp 13) rfl w1.heap.size keysV.toArray rfl rfl 153 zI.toArray A1 hsz.out rfl (by kernel_rfl) ?_)
  refine(zKp _).mono ?_;rintro e w2 ⟨rfl,hb2⟩;replace A2:=A2.stay hb2;have BW:Below w.heap.size w w2:=yn (Below.row (yr hb1 _) hb1.size _) hb2;have hg3:Hid (w.heap.size≤w1.heap.size):=hb1.size;clear hb1 hb2 A1;generalize w1.heap.size=g3 at *;clear w1;have B1:=yp w2 (List.replicate 8 (Value.int .i64 0)) 155;have B2:=B1.row (startN.list.map i64v);have hlt3:Hid (g3<w2.heap.size):=A2.lt;replace A2:=(A2.old _ (.cells (List.replicate 8 (Value.int .i64 0)).toArray 155)).rowOther (Nat.ne_of_lt A2.lt) startN.i64;have BX:Below w.heap.size w ((w2.alloc (.cells (List.replicate 8 (Value.int .i64 0)).toArray 155)).setRow w2.heap.size startN.i64):=Below.row (yr BW _) BW.size _;have hBg:Hid (w.heap.size≤w2.heap.size):=BW.size;have hsS:Hid ((Tryz.prog.info? 155).map (·.size)=some startN.i64.size):=hs8.out _;clear BW
  go_wp2_with (first
    | refine zT rfl 155 rfl _ hzs.out w2.heap.size rfl ?_
    | refine wpList_store_row rfl 155 (.tmp 4) (.tmp 14) rfl w2.heap.size startN.i64 rfl rfl 155 (List.replicate 8 (Value.int .i64 0)).toArray B1 hsS.out rfl (by kernel_rfl) ?_)
  refine(zNN p q bs _ (hr.keep BX) hl).mono ?_;rintro e w3 ⟨u,rfl,hu,hb3⟩;replace A2:=A2.stay hb3;replace B2:=B2.stay hb3;have BW:Below w.heap.size w w3:=yn BX hb3;rw[size_setRow,zB] at hu;clear BX hb3 B1 hsS hr;have hn:Hid ((padN bs).length=64*((bs.length+72) / 64)):=zGg bs
  have hn1:1≤(bs.length+72) / 64:=by omega
  have hn2:(bs.length+72) / 64≤11:=by omega
  obtain⟨a5,c5,rfl,hrd5⟩:=hu.rd;obtain⟨b5,o5,rfl,-⟩:=hrd5.2.2.2 (by rw[hn.out];omega)
  have hc1:64*((bs.length+72) / 64)≤c5:=by have:=hrd5.1;rw[hn.out] at this;exact this
  have hc2:c5≤2 ^ 63-1:=hrd5.2.1;clear hrd5;rw[hn.out] at hu ⊢;have HD:Hid (zS bs=zE3 (zAj (padN bs) ((bs.length+72) / 64))):=rfl;generalize (bs.length+72) / 64=n at *;generalize w2.heap.size=g4 at *;clear w2;clear hl;go_wp2
  go_loopw [6] (fun i wr=>∃ k:Nat,k≤n∧i=.int .i64 (64*(k:Int))∧Arr wr g3 153 keysV∧Arr wr g4 155 ((zAj (padN bs) k).list.map i64v)∧Own wr (g4+1) (.slice (some ⟨b5,o5,none⟩) (64*n) c5) (padN bs)∧Below w.heap.size w wr)
    (fun i _=>64*n-(intOf i).toNat)
  case atStart=>exact⟨0,Nat.zero_le _,rfl,A2,B2,hu,BW⟩
  case round=>
    clear A2 B2 hu BW;obtain⟨k,hk,rfl,A,B,hu,BW⟩:=hrel
    by_cases hlt:k<n
    · have hrd:Rd wr (some ⟨b5,o5,none⟩) c5 (padN bs):=by have h:=hu;rw[← hn.out] at h;exact Rd.own h
      have hcut:=hrd.cut (64*k) 64 (c5-64*k) (by rw[hn.out];omega) (by omega) (by have:=hrd.2.1;omega)
      have h64:Hid ((((padN bs).drop (64*k)).take 64).length=64):=by show _=_;have:=hn.out;simp;omega
      have HB:Hid (zAj (padN bs) (k+1)=addS (zAj (padN bs) k) (zAi (zAh (((padN bs).drop (64*k)).take 64)) (zAj (padN bs) k) 64)):=zFF _ _;have hok:Hid ((zAj (padN bs) k).ok):=zDa (padN bs) k;generalize zAj (padN bs) k=st at *;clear hrd;go_wp2_with fail;refine(zJn b5 (o5+64*k) (c5-64*k) _ _ hcut h64.out).mono ?_;rintro e w5 ⟨rfl,hb5⟩;replace A:=A.stay hb5;replace B:=B.stay hb5;replace hu:=hu.stay hb5;replace BW:=yn BW hb5;have hge:Hid (g4<w5.heap.size):=B.lt;have hge3:Hid (g3<w5.heap.size):=A.lt;have hgeu:Hid (∀ k,(Value.slice (some ⟨b5,o5,none⟩) (64*n) c5).ownBlock=some k→k<w5.heap.size):=hu.lt;have hgew:Hid (w.heap.size≤w5.heap.size):=BW.size;have hwl:Hid ((zAh (((padN bs).drop (64*k)).take 64)).length=64):=zA7 _;have hwok:Hid (Words (zAh (((padN bs).drop (64*k)).take 64))):=zJd _;clear hb5 hcut h64;generalize zAh (((padN bs).drop (64*k)).take 64)=ws at *
      have hszW:Hid ((Tryz.prog.info? 153).map (·.size)=some (ws.map i64v).toArray.size):=by show _=_;rw[(zero_of_info zCY).2];simp[hwl.out]
      have hlW:Hid (zI.toArray.size=(ws.map i64v).toArray.size):=by show _=_;simp[zKM,hwl.out]
      have hsS:Hid ((Tryz.prog.info? 155).map (·.size)=some (st.list.map i64v).toArray.size):=hs8.out st;have C1:=yp w5 zI 153;have C2:=C1.row (ws.map i64v);replace A:=(A.old _ (.cells zI.toArray 153)).rowOther (Nat.ne_of_lt A.lt) (ws.map i64v).toArray;replace B:=(B.old _ (.cells zI.toArray 153)).rowOther (Nat.ne_of_lt B.lt) (ws.map i64v).toArray;replace hu:=(hu.stay (zA _ (.cells zI.toArray 153))).row (fun k hk=>Nat.ne_of_lt (hu.lt k hk)) (ws.map i64v).toArray;replace BW:=Below.row (yr BW (.cells zI.toArray 153)) BW.size (ws.map i64v).toArray
      have hW:Hid (((w5.alloc (.cells zI.toArray 153)).setRow w5.heap.size (ws.map i64v).toArray).heap.size=w5.heap.size+1):=by show _=_;rw[size_setRow,zB]
      have D1:=yp ((w5.alloc (.cells zI.toArray 153)).setRow w5.heap.size (ws.map i64v).toArray) (List.replicate 8 (Value.int .i64 0)) 155;rw[hW.out] at D1
      go_wp2_with (first
        | refine zT rfl 153 rfl _ hzv.out w5.heap.size rfl ?_
        | refine wpList_store_row rfl 153 (.tmp 7) (.tmp 28) rfl w5.heap.size (ws.map i64v).toArray rfl rfl 153 zI.toArray C1 hszW.out hlW.out (by simp[i64v];intros;rfl) ?_
        | refine wpList_load_row rfl 155 (.tmp 4) rfl g4 rfl 155 (st.list.map i64v).toArray (0,0) _ B underlying155 rfl hsS.out ?_
        | refine zT rfl 155 rfl _ hzs.out (w5.heap.size+1) hW.out ?_
        | refine wpList_store_row rfl 155 (.tmp 8) (.tmp 29) rfl (w5.heap.size+1) (st.list.map i64v).toArray rfl rfl 155 (List.replicate 8 (Value.int .i64 0)).toArray D1 hsS.out rfl (by kernel_rfl) ?_)
      have D2:=D1.row (st.list.map i64v);replace A:=(A.old _ (.cells (List.replicate 8 (Value.int .i64 0)).toArray 155)).rowOther (g:=g3) (k:=w5.heap.size+1) (Nat.ne_of_lt (hW.out▸A.lt)) (st.list.map i64v).toArray;replace B:=(B.old _ (.cells (List.replicate 8 (Value.int .i64 0)).toArray 155)).rowOther (g:=g4) (k:=w5.heap.size+1) (Nat.ne_of_lt (hW.out▸B.lt)) (st.list.map i64v).toArray;replace C2:=(C2.old _ (.cells (List.replicate 8 (Value.int .i64 0)).toArray 155)).rowOther (g:=w5.heap.size) (k:=w5.heap.size+1) (Nat.ne_of_lt (yg _)) (st.list.map i64v).toArray;replace hu:=(hu.stay (zA _ (.cells (List.replicate 8 (Value.int .i64 0)).toArray 155))).row (g:=w5.heap.size+1) (fun k hk=>Nat.ne_of_lt (hW.out▸hu.lt k hk)) (st.list.map i64v).toArray;replace BW:=Below.row (g:=w5.heap.size+1) (yr BW (.cells (List.replicate 8 (Value.int .i64 0)).toArray 155)) (hW.out▸BW.size) (st.list.map i64v).toArray;clear hW D1 C1 hszW hlW hsS;generalize w5.heap.size=g7 at *
      go_loopw [9] (fun i wr=>∃ j:Nat,j≤64∧i=.int .i64 j∧Arr wr (g7+1) 155 ((zAi ws st j).list.map i64v)∧Arr wr g7 153 (ws.map i64v)∧Arr wr g3 153 keysV∧Arr wr g4 155 (st.list.map i64v)∧Own wr (g4+1) (.slice (some ⟨b5,o5,none⟩) (64*n) c5) (padN bs)∧Below w.heap.size w wr)
        (fun i _=>64-(intOf i).toNat)
      case atStart=>exact⟨0,Nat.zero_le _,rfl,D2,C2,A,B,hu,BW⟩
      case round=>
        clear D2 C2 A B hu BW;obtain⟨j,hj,rfl,D,C,A,B,hu,BW⟩:=hrel
        by_cases hjl:j<64
        · have hstep:Hid (zAi ws st (j+1)=zCA (zAi ws st j) (ws.getD j 0) (keysN.getD j 0)):=zFG _ _ _;have hokr:Hid ((zAi ws st j).ok):=zDZ ws hok.out j;have bw:Hid (ws.getD j 0<4294967296):=hwok.out.getD j;have bk:Hid (keysN.getD j 0<4294967296):=keysN_ok.getD j;have cW:∀ s:HW wr,s.w.cell? ⟨g7,j,none⟩=some (.int .i64 (ws.getD j 0:Nat)):=yq (by rw[C.cell];have:=hwl.out;simp[i64v,show j<ws.length by omega]);have cK:∀ s:HW wr,s.w.cell? ⟨g3,j,none⟩=some (.int .i64 (keysN.getD j 0:Nat)):=yq ((A.cell j).trans (zLy hjl));generalize zAi ws st j=R at *;generalize ws.getD j 0=wd at *;generalize keysN.getD j 0=kd at *;have hne:=yo wr;go_wp2_with fail;refine zB8 (C:=fun w'=>∃ s:HW wr,w'=s.w) 8 rfl rfl rfl (by kernel_rfl) (by kernel_rfl) (by kernel_rfl) (by kernel_rfl) ⟨⟨wr.drew,(Below.refl _ _).drew⟩,rfl⟩ ?_;intro Z hZ;simp only[List.take_succ_cons,List.take_zero];refine zB7 rfl 155 (.tmp 8) rfl (g7+1) rfl 155 R.i64 (0,0) _ (fun w' h=>by obtain⟨s,rfl⟩:=h;exact D.stay s.h) underlying155 rfl (hs8.out R) ?_
          go_simp
          repeat (go_big_quiet_step ((go_at_call 136;exact Calls.stay (zKd R wd kd _ hokr.out bw.out bk.out))))
          refine wpQuiet_nil (hZ _ ?_);rintro w' ⟨s,rfl⟩ K hK;refine wp_store_row 155 (.tmp 8) (.tmp 41) rfl (g7+1) (zCA R wd kd).i64 rfl rfl 155 _ (D.stay s.h) (hs8.out _) (zNT _ _) (zNU _) (hK _ _ ?_);clear cW cK hne;go_wp2;go_roundw
          case rel=>
            exact⟨j+1,by omega,by go_num,by rw[hstep.out];exact(D.stay s.h).row ((zCA R wd kd).list.map i64v),(C.stay s.h).rowOther (Nat.ne_of_lt (yg _)) _,(A.stay s.h).rowOther (by have:=hge3.out;omega) _,(B.stay s.h).rowOther (by have:=hge.out;omega) _,(hu.stay s.h).row (fun k hk=>by have:=hgeu.out k hk;omega) _,Below.row (yn BW s.h) (by have:=hgew.out;omega) _⟩
          case measure=>simp[intOf];omega
        · have e:j=64:=by omega
          subst e;have hokr:Hid ((zAi ws st 64).ok):=zDZ ws hok.out 64;generalize zAi ws st 64=R at *;clear C hjl hj hwok hwl;go_wp2
          go_loopw [10] (fun i wr=>∃ j:Nat,j≤8∧i=.int .i64 j∧Arr wr (g7+1) 155 (R.list.map i64v)∧Arr wr g3 153 keysV∧Arr wr g4 155 (addV i64v st R j)∧Own wr (g4+1) (.slice (some ⟨b5,o5,none⟩) (64*n) c5) (padN bs)∧Below w.heap.size w wr)
            (fun i _=>8-(intOf i).toNat)
          case atStart=>exact⟨0,Nat.zero_le _,rfl,D,A,B,hu,BW⟩
          case round=>
            clear D A B hu BW;obtain⟨j,hj,rfl,D,A,B,hu,BW⟩:=hrel
            by_cases hjl:j<8
            · have cS:=(B.cell j).trans (zKr i64v st R hjl);have fS:=B.frozen j;have cR:=(D.cell j).trans (zFW i64v R hjl);have bS:=(S8.words hok.out).getD j;have bR:=(S8.words hokr.out).getD j;have RS:=B.set j (i64v ((st.list.getD j 0+R.list.getD j 0) % 4294967296));rw[zJA i64v st R hjl] at RS;have RD:=D.setOther (a:=⟨g4,j,none⟩) (by show g7+1≠g4;have:=hge.out;omega);have RA:=A.setOther (a:=⟨g4,j,none⟩) (by show g3≠g4;have:=hlt3.out;omega)
              have RU:=fun v=>hu.set (a:=⟨g4,j,none⟩) (yg g4) v
              have RB:=fun v=>Below.setCell (p:=⟨g4,j,none⟩) BW hBg.out v
              unfold i64v at cS cR RS;generalize st.list.getD j 0=x at *;generalize R.list.getD j 0=y at *;clear B D A hu BW;go_wp2
              go_region
              go_wp2;go_roundw
              case rel=>
                have E:(((x:Int)+(y:Int)) % 4294967296)=(((x+y) % 4294967296:Nat):Int):=by omega
                rw[E];exact⟨j+1,by omega,by go_num,RD _,RA _,RS,RU _,Below.drew (RB _)⟩
              case measure=>simp[intOf];omega
            · have e:j=8:=by omega
              subst e;rw[zI9,← HB.out] at B;go_wp2;go_roundw
              case rel=>
                exact⟨k+1,hlt,by go_num,A,B,hu,BW⟩
              case measure=>simp[intOf];omega
    · have e:k=n:=by omega
      subst e;have hok:Hid ((zAj (padN bs) k).ok):=zDa (padN bs) k;generalize zAj (padN bs) k=st at *;have O1:=zCO wr (g4+1) B.lt;replace B:=B.old _ (.cells #[] 5);replace BW:=yr BW (.cells #[] 5);clear A hu hk;go_wp2
      go_loopw [11,12] (fun v i wr=>∃ j:Nat,j≤8∧i=.int .i64 j∧Own wr (g4+1) v (zC7 st.list j)∧Arr wr g4 155 (st.list.map i64v)∧Below w.heap.size w wr)
        (fun _ i _=>8-(intOf i).toNat)
      case atStart=>exact⟨0,Nat.zero_le _,rfl,O1,B,BW⟩
      case round=>
        clear O1 B BW;obtain⟨j,hj,rfl,ho,B,BW⟩:=hrel;obtain⟨a6,c6,rfl,-⟩:=ho.rd;have hlen:Hid ((zC7 st.list j).length=4*j):=zHs st hj;rw[hlen.out] at ho ⊢
        by_cases hjl:j<8
        · have cS:=(B.cell j).trans (zFW i64v st hjl);unfold i64v at cS;have bS:=(S8.words hok.out).getD j;have TS:Hid (zC7 st.list j++putB (st.list.getD j 0) 4=zC7 st.list (j+1)):=zGf st hjl;generalize st.list.getD j 0=x at *;go_wp2_with fail;refine(zIM _ 4 _ (by omega) (by omega) (by decide) (by decide)).mono ?_;rintro e w7 ⟨u7,rfl,hu7,hb7⟩;rw[Int.toNat_natCast,show(4:Int).toNat=4 from rfl] at hu7;obtain⟨a7,c7,rfl,hrd7⟩:=hu7.rd;replace ho:=ho.stay hb7;replace B:=B.stay hb7;replace BW:=yn BW hb7;clear hu7 hb7 cS
          go_wp2_with (first
            | (at_builtin;refine zG rfl (.tmp 61) (.tmp 65) rfl (g4+1) _ (zC7 st.list j) rfl ho a7 c7 (putB x 4) rfl hrd7 (by rw[hlen.out,zM];omega) B.lt ?_;intro v8 w8 ho8 hg8)
            | go_in)
          rw[TS.out] at ho8;have B8:=B.other hg8 (fun e=>by have:=ho.ge _ e;omega);have BW8:=BW.grown hg8 BW.size (fun k hk=>by have:=ho.ge k hk;have:=hBg.out;omega);clear ho hg8 B BW hrd7;go_roundw
          case rel=>exact⟨j+1,by omega,by go_num,ho8,B8,BW8⟩
          case measure=>simp[intOf];omega
        · have e:j=8:=by omega
          subst e;go_wp2;go_ret;exact⟨_,rfl,by rw[HD.out,← zHt];exact ho.lower (by have:=hBg.out;omega),BW⟩
end Go.Proofs.YtiabacnmmojfjabGreatDoor
