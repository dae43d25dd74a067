import Derived.Test.YtiabacnmmojfjaaGreatDoorJoint17
set_option maxHeartbeats 2000000
set_option maxRecDepth 4000
open Go.Proofs.Tryz
namespace Go.Proofs.YtiabacnmmojfjaaGreatDoor
open Go.ChangeShapes Go.WideShapes Go.ChangeAt Go.RowKit
theorem zJV (p p2:Option Addr) (q q2:Nat) (key data:List UInt8) (w:World) (hr:Rd w p q key) (hr2:Rd w p2 q2 data) (hT:Tabs w) (hk:key.length≤64) (hl:data.length≤536):
    Calls prog 223 #[.slice p key.length q,.slice (some ⟨w.heap.size,0,none⟩) 1 1] (w.alloc (.cells #[.slice p2 data.length q2] 22)) fun e w'=>∃ a c,e=.returned (.slice a 32 c)∧Own w' w.heap.size (.slice a 32 c) (macN key data)∧Below w.heap.size w w':=by
  have h:=zHk p q key [⟨p2,q2,data⟩] w.heap.size 0 1 _ (hr.keep (zA _ _)) (zMv w ⟨p2,q2,data⟩ 22 hr2) (hT.keep (zA _ _)) hk (by rw[zIm];exact hl) (by simp);rw[zIm] at h;refine h.mono ?_;rintro e w1 ⟨u,rfl,k,hb⟩;obtain⟨a,c,rfl,-⟩:=k.rd;rw[zCR] at k ⊢;exact⟨a,c,rfl,k.lower (by rw[zB];omega),yu hb⟩
theorem zJW (p p2 p3 p4:Option Addr) (q q2 q3 q4:Nat) (key xs ys:List UInt8) (z:UInt8) (w:World) (hr:Rd w p q key) (hr2:Rd w p2 q2 xs) (hr3:Rd w p3 q3 ys) (hr4:Rd w p4 q4 [z]) (hT:Tabs w) (hk:key.length≤64) (hl:xs.length+ys.length+1≤536):
    Calls prog 223 #[.slice p key.length q,.slice (some ⟨w.heap.size,0,none⟩) 3 3] (w.alloc (.cells #[.slice p2 xs.length q2,.slice p3 ys.length q3,.slice p4 1 q4] 22)) fun e w'=>∃ a c,e=.returned (.slice a 32 c)∧Own w' w.heap.size (.slice a 32 c) (macN key (xs++ys++[z]))∧Below w.heap.size w w':=by
  have h:=zHk p q key [⟨p2,q2,xs⟩,⟨p3,q3,ys⟩,⟨p4,q4,[z]⟩] w.heap.size 0 3 _ (hr.keep (zA _ _)) (zFc w ⟨p2,q2,xs⟩ ⟨p3,q3,ys⟩ ⟨p4,q4,[z]⟩ 22 hr2 hr3 hr4) (hT.keep (zA _ _)) hk (by rw[zCG];simp;omega) (by simp);rw[zCG] at h;refine h.mono ?_;rintro e w1 ⟨u,rfl,k,hb⟩;obtain⟨a,c,rfl,-⟩:=k.rd;rw[zCR] at k ⊢;exact⟨a,c,rfl,k.lower (by rw[zB];omega),yu hb⟩
theorem zFk (p p2:Option Addr) (q q2:Nat) (key data:List UInt8) (w:World) (hr:Rd w p q key) (hr2:Rd w p2 q2 data) (hT:Tabs w):
    Calls prog 213 #[.slice p key.length q,.slice p2 data.length q2] w fun e w'=>∃ u,e=.returned (.agg #[.int .i64 (macC key data),u])∧Own w' w.heap.size u (macL key data)∧Below w.heap.size w w':=by
  by_cases hc:key.length≤64∧data.length≤500
  · obtain⟨h1,h2⟩:=hc
    have hm:zEl key data=true:=by simp[zEl,keyB,zEF,h1,h2]
    rw[show macC key data=0 by simp[macC,hm],show macL key data=macN key data by simp[macL,hm]]
    have K:Hid (∀ w,Rd w p q key→Rd w p2 q2 data→Tabs w→Calls prog 223 #[.slice p key.length q,.slice (some ⟨w.heap.size,0,none⟩) 1 1] (w.alloc (.cells #[.slice p2 data.length q2] 22)) fun e w'=>∃ a c,e=.returned (.slice a 32 c)∧Own w' w.heap.size (.slice a 32 c) (macN key data)∧Below w.heap.size w w'):=fun w a b c=>zJV p p2 q q2 key data w a b c h1 (by omega)
    clear hm;go_enter func213,ntmps213;go_wp2_with fail;have K2:=K.out (w.alloc (.cells #[.int .i64 0,.slice none 0 0] 129)) (hr.keep (zA _ _)) (hr2.keep (zA _ _)) (hT.keep (zA _ _));rw[zB] at K2;refine K2.mono ?_;rintro e w1 ⟨a,cap,rfl,ho,hb⟩;rw[← zB w (.cells #[.int .i64 0,.slice none 0 0] 129)] at hb;obtain⟨hc,hf⟩:=zHE hb;rw[zB] at hc hf;have hres:=yu hb;clear K2;go_wp2;refine bodyPost_ret (v:=.agg #[.int .i64 0,.slice a 32 cap]) (by simp[results,results213,go_sem,hc]) rfl ⟨_,rfl,?_,(hres.setCell (yf _) _).setCell (yf _) _⟩;exact((ho.set (yg _) _).set (yg _) _).lower (yh _)
  · have hm:zEl key data=false:=by
      simp only[zEl,keyB,zEF,Bool.and_eq_false_iff,decide_eq_false_iff_not];omega
    rw[show macC key data=2 by simp[macC,hm],show macL key data=[] by simp[macL,hm]];clear hm
    by_cases h1:key.length≤64
    · have h2:¬ data.length≤500:=fun h=>hc ⟨h1,h⟩
      go_enter func213,ntmps213;go_wp2;exact bodyPost_ret (v:=.agg #[.int .i64 2,.slice none 0 0]) (by simp[results,results213,go_sem]) rfl ⟨_,rfl,zO _ _,zA _ _⟩
    · go_enter func213,ntmps213;go_wp2;exact bodyPost_ret (v:=.agg #[.int .i64 2,.slice none 0 0]) (by simp[results,results213,go_sem]) rfl ⟨_,rfl,zO _ _,zA _ _⟩
theorem zKb (p p2:Option Addr) (q q2:Nat) (key data:List UInt8) (w:World) (hr:Rd w p q key) (hr2:Rd w p2 q2 data) (hT:Tabs w):
    Calls prog 191 #[.slice p key.length q,.slice p2 data.length q2] w fun e w'=>∃ u,e=.returned (.agg #[.int .i64 (macC key data),u])∧Own w' w.heap.size u (extL key data)∧Below w.heap.size w w':=by
  obtain⟨i0,hi,hz0,hz1,hz2⟩:=info_parts zCr
  by_cases h0:key.length=0
  · have e0:key=[]:=List.eq_nil_of_length_eq_zero h0
    have HE:Hid (extL key data=macL (zs 32) data):=by show _=_;subst e0;simp[extL,macL,zEl,keyB,zAX,zAH,zJs]
    have HC:Hid (macC key data=macC (zs 32) data):=by show _=_;subst e0;simp[macC,zEl,keyB,zAX]
    rw[h0,HE.out,HC.out];go_enter func191,ntmps191;go_wp2_with (at_make;go_loud (refine wpList_make_full _ rfl (.const (.int .i64 32)) (.const (.int .i64 32)) 22 rfl w.heap.size 5 i0 (.int .u8 0) 1 underlying22 hi hz0 hz1 .i64 .i64 _ _ 32 rfl rfl rfl rfl (by rw[hz2];decide) (by unfold maxLen;decide) (by simp) ?_);intro w1 hown hgrow);have hb1:Below w.heap.size w w1:=(zA _ _).grown hgrow (by simp) (fun k hk=>by simp at hk);rw[zB] at hown;have k1:=zAT hown;have hcc:=(yr w [.int .i64 0,.slice none 0 0] 129).other hgrow (by simp);have K:=zFk (some ⟨w.heap.size+1,0,none⟩) p2 32 q2 (zs 32) data w1 (Rd.own k1) (hr2.keep hb1) (hT.keep hb1);rw[zAX] at K;refine K.mono ?_;rintro e w2 ⟨u2,rfl,k2,hb2⟩;obtain⟨a,cap,rfl,-⟩:=k2.rd;replace hcc:=hcc.stay hb2
    have hz:Hid (w.heap.size<w1.heap.size):=by show _<_;have:=hgrow.size;rw[zB] at this;omega
    replace hb1:=yn hb1 hb2;have c0:=hcc.cell 0;have c1:=hcc.cell 1;simp at c0 c1;have f0:=hcc.frozen;clear K hown hgrow k1 hb2 hr hr2;go_wp2;refine bodyPost_ret (v:=.agg #[.int .i64 (macC (zs 32) data),.slice a (macL (zs 32) data).length cap]) (by simp[results,results191,go_sem,c0,c1]) rfl ⟨_,rfl,?_,(hb1.setCell (yf _) _).setCell (yf _) _⟩;exact((k2.set hz.out _).set hz.out _).lower (Nat.le_of_lt hz.out)
  · have HE:Hid (extL key data=macL key data):=by show _=_;simp[extL,macL,zAH,zJs,h0]
    have hne:((key.length:Int)==0)=false:=by rw[beq_eq_false_iff_ne];omega
    rw[HE.out];go_enter func191,ntmps191;go_wp2_with fail;refine(zFk p p2 q q2 key data _ (hr.keep (zA _ _)) (hr2.keep (zA _ _)) (hT.keep (zA _ _))).mono ?_;rintro e w1 ⟨u,rfl,ho,hb⟩;obtain⟨hc,hf⟩:=zHE hb;rw[zB] at hc hf ho;obtain⟨a,cap,rfl,-⟩:=ho.rd;have hres:=yu hb;go_wp2;refine bodyPost_ret (v:=.agg #[.int .i64 (macC key data),.slice a (macL key data).length cap]) (by simp[results,results191,go_sem,hc]) rfl ⟨_,rfl,?_,(hres.setCell (yf _) _).setCell (yf _) _⟩;exact((ho.set (yg _) _).set (yg _) _).lower (yh _)
theorem zFE {P:Program} {w:World} {ops:Array Oper} {rest:List Oper} {o:Oper} {a:Act} {Q:Exit→Act→World→Prop} (hgd:o.guard=none) (d s:Operand) (dT sT:TypeId)
    (ho:o.op=.call { callee:=.builtin .copy,args:=#[d,s],argTypes:=#[dT,sT] }) (elem:TypeId) (hu:P.underlying dT=some (.slice elem)) (hsz:(P.info? elem).map (·.size)=some 1)
    (dp sp:Option Addr) (dn dc sn sc:Nat) (hd:a.eval d=.slice dp dn dc) (hs:a.eval s=.slice sp sn sc) (g off:Nat) (old:List Value) (t:TypeId) (hg:Arr w g t old) (cs:List Value) (hn:cs.length=Nat.min sn dn)
    (hp:0<cs.length→dp=some ⟨g,off,none⟩∧∃ ad,sp=some ad∧∀ j v,cs[j]?=some v→w.cell? (ad.add j)=some v) (hf:off+cs.length≤old.length) (h1:∀ v∈cs,v.oneCell'=true)
    (h:∀ w',Hid (Arr w' g t (splice old off cs))→w.grownBy w' (some g)→wpList P ops Q rest (a.put o.dst (goInt cs.length)) w'):wpList P ops Q (o :: rest) a w:=by
  cases cs with
  | nil=>
    refine wpList_copy_nothing hgd d s dT sT ho elem hu hsz dp sp dn dc sn sc hd hs (by simpa using hn.symm) ?_;refine h w ?_ (World.grownBy.refl _ _)
    show Arr _ _ _ _
    simpa [splice] using hg
  | cons c cs=>
    obtain⟨rfl,ad,rfl,hsrc⟩:=hp (by simp);refine wpList_copy_own hgd d s dT sT ho elem hu hsz g off dn dc ad sn sc hd hs old.toArray t hg (c :: cs) hn hsrc (by simpa using hf) h1 ?_;refine h _ ?_ ⟨rfl,rfl,rfl,by rw[size_setRow];exact yf _,fun k hk hne=>setRow_other w g k _ (fun e=>hne (by rw[e]))⟩;have h2:=hg.row (splice old off (c :: cs))
    show Arr _ _ _ _
    simpa [splice] using h2
theorem Rd.addr_take {w:World} {p:Option Addr} {q:Nat} {bs:List UInt8} (h:Rd w p q bs) (c:Nat) (hp:0<bs.length):∃ ad,p=some ad∧∀ j v,((bs.take c).map u8v)[j]?=some v→w.cell? (ad.add j)=some v:=by
  obtain⟨ad,e,hc⟩:=h.addr hp;refine⟨ad,e,fun j v hv=>hc j v ?_⟩;rw[List.map_take,List.getElem?_take] at hv;split at hv
  · exact hv
  · cases hv
theorem zHl (key info:List UInt8) (n k c:Nat) (hk:32*k<n) (hc:c=min 32 (n-32*k)):((zBL key info n).drop (32*k)).take c=(zBi key info (k+1)).take c:=by
  have h1:=zJt key info (k+1) ((n+31) / 32) (by omega)
  have h2:(outN key info (k+1)).drop (32*k)=zBi key info (k+1):=by
    rw[outN,← zDY key info k,List.drop_left]
  have h3:((outN key info ((n+31) / 32)).drop (32*k)).take 32=zBi key info (k+1):=by
    rw[← h2,← h1,List.drop_take,show 32*(k+1)-32*k=32 by omega]
  rw[zBL,List.drop_take,List.take_take,← h3,List.take_take]
  congr 1
  omega
theorem zJX (p p2:Option Addr) (q q2:Nat) (key info:List UInt8) (n:Nat) (w:World) (hr:Rd w p q key) (hr2:Rd w p2 q2 info) (hT:Tabs w) (hk:key.length≤64) (hl:info.length≤400) (hn:n≤255):
    Calls prog 229 #[.slice p key.length q,.slice p2 info.length q2,.int .i64 (n:Int)] w fun e w'=>∃ u,e=.returned u∧Own w' w.heap.size u (zBL key info n)∧Below w.heap.size w w':=by
  obtain⟨i0,hi,hz0,hz1,hz2⟩:=info_parts zCr
  have HI:Hid ((Tryz.prog.info? 5).map (·.size)=some 1):=by show _=_;rw[hi];simp[hz1]
  have HR:Hid (Rd w p q key):=hr;have HR2:Hid (Rd w p2 q2 info):=hr2;have HT:Hid (Tabs w):=hT;have HK:Hid (key.length≤64):=hk;have HL:Hid (info.length≤400):=hl;clear hr hr2 hT hk hl;go_enter func229,ntmps229;go_wp2_with (at_make;go_loud (refine wpList_make_full _ rfl (.tmp 11) (.tmp 11) 22 rfl w.heap.size 5 i0 (.int .u8 0) 1 underlying22 hi hz0 hz1 .i64 .i64 _ _ n rfl rfl rfl rfl (by rw[hz2];omega) (by unfold maxLen;omega) (yf _) ?_);intro w1 hown hgrow);have hA1:=(zAT hown).arr (zAX n);have hb1:Below w.heap.size w w1:=(Below.refl _ _).grown hgrow (yf _) (fun k hk=>by simp at hk);clear hown hgrow hi hz0 hz1 hz2;obtain⟨fs,hfs⟩:∃ fs,Hid (fs=zBL key info n):=⟨_,rfl⟩
  have HF:Hid (fs.length=n):=by show _=_;rw[hfs.out,zCp]
  go_loopw [8,9,10] (fun l c i wr=>∃ (k:Nat) (pl:Option Addr) (ql:Nat),32*k<n+32∧i=.int .i64 ((min (32*k) n:Nat):Int)∧l=.slice pl (zBi key info k).length ql∧c=.int .u8 (k:Int)∧Arr wr w.heap.size 5 ((zCP fs (min (32*k) n)).map u8v)∧Rd wr pl ql (zBi key info k)∧Below w.heap.size w wr)
    (fun _ _ i _=>n-(intOf i).toNat)
  case atStart=>exact⟨0,none,0,by omega,by simp,rfl,rfl,by rw[show min (32*0) n=0 by omega,zGT,HF.out];exact hA1,⟨yf _,by unfold maxLen;decide,fun _=>rfl,fun hp=>by simp[zBi] at hp⟩,hb1⟩
  case round=>
    clear hA1 hb1;obtain⟨k,pl,ql,hk,rfl,rfl,rfl,A,rl,BW⟩:=hrel
    by_cases hlt:32*k<n
    · have hmk:min (32*k) n=32*k:=by omega
      rw[hmk] at A ⊢;have HLL:Hid ((zBi key info k).length≤32):=zHK key info k;have HS:Hid (zBi key info (k+1)=macN key (zBi key info k++info++[UInt8.ofNat (k+1)])):=zEY key info k;generalize zBi key info k=ls at *
      have hv:Hid ((k:Int)+1=((UInt8.ofNat (k+1)).toNat:Int)):=by show _=_;rw[UInt8.toNat_ofNat',Nat.mod_eq_of_lt (by omega)];omega
      clear hmk;go_wp2_with fail;have K:=zJW p pl p2 (some ⟨wr.heap.size,0,none⟩) q ql q2 1 key ls info (UInt8.ofNat (k+1)) (wr.alloc (.cells #[.int .u8 ((k:Int)+1)] 5)) (HR.out.keep (yt BW _)) (rl.keep (zA _ _)) (HR2.out.keep (yt BW _)) (zE4 wr _ _ _ hv.out) (HT.out.keep (yt BW _)) HK.out (by have:=HLL.out;have:=HL.out;omega);rw[zB,← HS.out] at K;refine K.mono ?_;rintro e w3 ⟨a3,c3,rfl,k3,hb3⟩;rw[← zB wr (.cells #[.int .u8 ((k:Int)+1)] 5)] at hb3;replace hb3:=yu hb3;have A3:=A.stay hb3;have BW3:=yn BW hb3;have HZ:Hid (w.heap.size≤wr.heap.size):=BW.size;have rd3:=Rd.own k3
      have HLn:Hid ((zBi key info (k+1)).length=32):=by show _=_;rw[HS.out,zCR]
      have HP:Hid ((fs.drop (32*k)).take (min 32 (n-32*k))=(zBi key info (k+1)).take (min 32 (n-32*k))):=by show _=_;rw[hfs.out];exact zHl key info n k _ hlt rfl
      have HMk:Hid (min (32*(k+1)) n=32*k+min 32 (n-32*k)):=by show _=_;omega
      clear K rl A BW hb3 HS HLL;obtain⟨ln,hln⟩:∃ ln,Hid (ln=zBi key info (k+1)):=⟨_,rfl⟩;rw[← hln.out] at HP HLn rd3 k3;obtain⟨c,hc⟩:∃ c,Hid (c=min 32 (n-32*k)):=⟨_,rfl⟩;rw[← hc.out] at HP HMk
      have hc1:c≤32:=by have:=hc.out;omega
      have hc2:32*k+c≤n:=by have:=hc.out;omega
      have hc3:1≤c:=by have:=hc.out;omega
      have HCL:Hid ((ln.take c).length=c):=by show _=_;have:=HLn.out;simp;omega
      have HSP:Hid (splice ((zCP fs (32*k)).map u8v) (32*k) ((ln.take c).map u8v)=(zCP fs (32*k+c)).map u8v):=by
        show _=_
        have h:=zE5 fs (32*k) (ln.take c) (by rw[HCL.out,HF.out];exact hc2) (by rw[HCL.out];exact HP.out);rw[HCL.out] at h;exact h
      have HFL:Hid ((zCP fs (32*k)).length=n):=by show _=_;rw[zHX _ _ (by rw[HF.out];omega),HF.out]
      obtain⟨cs,hcs⟩:∃ cs,Hid (cs=(ln.take c).map u8v):=⟨_,rfl⟩;rw[← hcs.out] at HSP
      have HCS:Hid (cs.length=c):=by show _=_;rw[hcs.out,List.length_map,HCL.out]
      have HAD:Hid (∃ ad,a3=some ad∧∀ j v,cs[j]?=some v→w3.cell? (ad.add j)=some v):=by rw[hcs.out];exact rd3.addr_take c (by rw[HLn.out];decide)
      have HON:Hid (∀ v∈cs,v.oneCell'=true):=by rw[hcs.out];intro u hu;obtain⟨x,-,rfl⟩:=List.mem_map.1 hu;rfl
      have hnk:¬ n=32*k:=by omega
      have hcl:cs.length≤32:=by rw[HCS.out];exact hc1
      go_wp2_with ((refine zFE rfl (.tmp 28) (.tmp 29) 22 22 rfl 5 underlying22 HI.out _ _ _ _ _ _ rfl rfl w.heap.size (32*k) ((zCP fs (32*k)).map u8v) 5 A3 cs (by rw[HCS.out];exact hc.out) (fun _=>⟨by first | rfl | (simp[hnk];done),HAD.out⟩) (by rw[HCS.out,List.length_map,HFL.out];exact hc2) HON.out ?_);intro w4 hA4 hg4)
      have A4:Arr w4 w.heap.size 5 ((zCP fs (32*k+c)).map u8v):=by have h:=hA4.out;rw[HSP.out] at h;exact h
      have rd4:=rd3.other hg4 (fun _ y hy e=>by
        have h1:=k3.ge y.block (by rw[hy];rfl);have h2:=HZ.out;simp at e
        omega)
      have BW4:=BW3.grown hg4 BW3.size (fun k hk=>by simp at hk;omega);rw[HCS.out];have hlo:=HLn.out;rw[hln.out] at rd4 hlo;clear hcl hA4 hg4 rd3 k3 A3 BW3 HAD HON HSP hcs HCS HFL HCL HP HLn hc hlt;go_roundw
      case rel=>exact⟨k+1,a3,c3,by omega,by rw[HMk.out];go_num,by rw[hlo],by go_num,by rw[HMk.out];exact A4,rd4,BW4⟩
      case measure=>simp[intOf];omega
    · have hmk:min (32*k) n=n:=by omega
      rw[hmk] at A ⊢
      have e2:zCP fs n=fs:=by rw[← HF.out];exact zHW fs
      rw[e2] at A;have ho:=A.own (yf _) (by rw[HF.out];omega);rw[HF.out] at ho;go_wp2;go_ret;exact⟨_,rfl,by rw[← hfs.out];exact ho,BW⟩
theorem zJY (p p2:Option Addr) (q q2:Nat) (key info:List UInt8) (n:Int) (w:World) (hr:Rd w p q key) (hr2:Rd w p2 q2 info) (hT:Tabs w):
    Calls prog 222 #[.slice p key.length q,.slice p2 info.length q2,.int .i64 n] w fun e w'=>∃ u,e=.returned (.agg #[.int .i64 (expC key info n),u])∧Own w' w.heap.size u (expL key info n)∧Below w.heap.size w w':=by
  by_cases hc:key.length≤64∧info.length≤300
  · obtain⟨l1,l2⟩:=hc
    have h1:keyB key=true:=by simp[keyB,l1]
    have h2:zHh info=true:=by simp[zHh,l2]
    cases h3:inB n 0 255
    · rw[show expC key info n=3 by simp[expC,h1,h2,h3],show expL key info n=[] by simp[expL,h1,h2,h3]];clear h1 h2;go_enter func222,ntmps222;go_wp2_with fail;refine(zDb n _).mono ?_;rintro e w' ⟨rfl,hw⟩;subst hw;rw[h3];go_wp2;exact bodyPost_ret (v:=.agg #[.int .i64 3,.slice none 0 0]) (by simp[results,results222,go_sem]) rfl ⟨_,rfl,zO _ _,zA _ _⟩
    · obtain⟨m,rfl,hm⟩:=zKS h3;rw[show expC key info (m:Int)=0 by simp[expC,h1,h2,h3],show expL key info (m:Int)=zBL key info m by simp[expL,h1,h2,h3]]
      have K:Hid (∀ w,Rd w p q key→Rd w p2 q2 info→Tabs w→Calls prog 229 #[.slice p key.length q,.slice p2 info.length q2,.int .i64 (m:Int)] w fun e w'=>∃ u,e=.returned u∧Own w' w.heap.size u (zBL key info m)∧Below w.heap.size w w'):=fun w a b c=>zJX p p2 q q2 key info m w a b c l1 (by omega) hm
      clear h1 h2;go_enter func222,ntmps222;go_wp2_with fail;refine(zDb _ _).mono ?_;rintro e w' ⟨rfl,hw⟩;subst hw;rw[h3];go_wp2_with fail;refine(K.out _ (hr.keep (zA _ _)) (hr2.keep (zA _ _)) (hT.keep (zA _ _))).mono ?_;rintro e w1 ⟨u,rfl,ho,hb⟩;obtain⟨hc,hf⟩:=zHE hb;rw[zB] at hc hf ho;obtain⟨a,cap,rfl,-⟩:=ho.rd;have hres:=yu hb;go_wp2;refine bodyPost_ret (v:=.agg #[.int .i64 0,.slice a (zBL key info m).length cap]) (by simp[results,results222,go_sem,hc]) rfl ⟨_,rfl,?_,(hres.setCell (yf _) _).setCell (yf _) _⟩;exact((ho.set (yg _) _).set (yg _) _).lower (yh _)
  · have h12:(keyB key&&zHh info)=false:=by
      simp only[keyB,zHh,Bool.and_eq_false_iff,decide_eq_false_iff_not];omega
    rw[show expC key info n=2 by simp only[expC,h12];rfl,show expL key info n=[] by simp only[expL,h12];rfl];clear h12
    by_cases l1:key.length≤64
    · have l2:¬ info.length≤300:=fun h=>hc ⟨l1,h⟩
      go_enter func222,ntmps222;go_wp2;exact bodyPost_ret (v:=.agg #[.int .i64 2,.slice none 0 0]) (by simp[results,results222,go_sem]) rfl ⟨_,rfl,zO _ _,zA _ _⟩
    · go_enter func222,ntmps222;go_wp2;exact bodyPost_ret (v:=.agg #[.int .i64 2,.slice none 0 0]) (by simp[results,results222,go_sem]) rfl ⟨_,rfl,zO _ _,zA _ _⟩
theorem zEn (p p2:Option Addr) (q q2:Nat) (key l ctx:List UInt8) (n:Int) (w:World) (hr:Rd w p q key) (hr2:Rd w p2 q2 ctx) (hl:l.length≤1048576) (hT:Tabs w):
    Calls prog 212 #[.slice p key.length q,.string (strB l),.slice p2 ctx.length q2,.int .i64 n] w fun e w'=>∃ u,e=.returned (.agg #[.int .i64 (elC key l ctx n),u])∧Own w' w.heap.size u (elL key l ctx n)∧Below w.heap.size w w':=by
  by_cases l1:key.length≤64
  · have hk:keyB key=true:=by simp[keyB,l1]
    have HR:Hid (Rd w p q key):=hr;have HT:Hid (Tabs w):=hT;clear hT hr
    by_cases hc:zAm l ctx n=0
    · obtain⟨h1,h2,h3⟩:=zDx hc;have h40:=zCM h1;obtain⟨m,rfl,hm⟩:=zKS h3;rw[show elC key l ctx (m:Int)=0 by simp[elC,hk,hc],show elL key l ctx (m:Int)=zAP key l ctx m by simp[elL,elC,hk,hc]]
      have K:Hid (∀ w,Rd w p2 q2 ctx→Calls prog 221 #[.string (strB l),.slice p2 ctx.length q2,.int .i64 (m:Int)] w fun e w'=>∃ u,e=.returned (.agg #[.int .i64 0,u])∧Own w' w.heap.size u (zA3 l ctx m)∧Below w.heap.size w w'):=fun w h=>by
        have g:=zKa p2 q2 l ctx (m:Int) w h hl;rw[hc,show labL l ctx (m:Int)=zA3 l ctx m by simp[labL,hc]] at g;exact g
      have HB:Hid ((zA3 l ctx m).length≤300):=by show _≤_;rw[zGH];omega
      have KE:Hid (∀ w a c,Rd w p q key→Rd w a c (zA3 l ctx m)→Tabs w→Calls prog 222 #[.slice p key.length q,.slice a (zA3 l ctx m).length c,.int .i64 (m:Int)] w fun e w'=>∃ u,e=.returned (.agg #[.int .i64 0,u])∧Own w' w.heap.size u (zAP key l ctx m)∧Below w.heap.size w w'):=fun w a c h h' h''=>by
        have g:=zJY p a q c key (zA3 l ctx m) (m:Int) w h h' h''
        have hi:zHh (zA3 l ctx m)=true:=by simp only[zHh,decide_eq_true_eq];exact HB.out
        rw[show expC key (zA3 l ctx m) (m:Int)=0 by simp[expC,hk,hi,h3],show expL key (zA3 l ctx m) (m:Int)=zAP key l ctx m by simp[expL,hk,hi,h3,zAP]] at g;exact g
      generalize zA3 l ctx m=lb at *;clear h1 h3 hc hk;go_enter func212,ntmps212;go_wp2_with fail;refine(K.out _ (hr2.keep (zA _ _))).mono ?_;rintro e w1 ⟨u,rfl,ho,hb⟩;obtain⟨a,cap,rfl,rd1⟩:=ho.rd;have C1:=(yr w [.int .i64 0,.slice none 0 0] 129).stay hb;have BW:=yu hb;have f0:=zIX 0 a lb.length cap;have f1:=zAk 0 a lb.length cap;have hz:Hid (w.heap.size<w1.heap.size):=zC8 hb;clear ho hb;go_wp2_with fail;refine(KE.out _ a cap (HR.out.keep (yt BW _)) (rd1.keep (zA _ _)) (HT.out.keep (yt BW _))).mono ?_;rintro e w2 ⟨u2,rfl,k2,hb2⟩;obtain⟨a2,cap2,rfl,-⟩:=k2.rd;rw[zB] at k2;replace C1:=(C1.old _ (.cells #[.int .i64 0,.slice a lb.length cap] 129)).stay hb2;replace hz:Hid (w.heap.size<w1.heap.size+1):=Nat.lt_succ_of_lt hz.out;replace BW:=yt BW (.cells #[.int .i64 0,.slice a lb.length cap] 129);replace BW:=yn BW hb2;have c0:=C1.cell 0;have c1:=C1.cell 1;simp at c0 c1;have fz:=C1.frozen;clear hb2 rd1 f0 f1;go_wp2;refine bodyPost_ret (v:=.agg #[.int .i64 0,.slice a2 (zAP key l ctx m).length cap2]) (by simp[results,results212,go_sem,c0,c1]) rfl ⟨_,rfl,?_,(BW.setCell (yf _) _).setCell (yf _) _⟩;exact((k2.set hz.out _).set hz.out _).lower (Nat.le_of_lt hz.out)
    · rw[show elC key l ctx n=zAm l ctx n by simp[elC,hk],show elL key l ctx n=[] by simp[elL,elC,hk,hc]]
      have K:Hid (∀ w,Rd w p2 q2 ctx→Calls prog 221 #[.string (strB l),.slice p2 ctx.length q2,.int .i64 n] w fun e w'=>∃ u,e=.returned (.agg #[.int .i64 (zAm l ctx n),.slice none 0 0])∧Below w.heap.size w w'):=fun w h=>by
        refine(zHi p2 q2 l ctx n w h hl).mono ?_;rintro e w' ⟨u,rfl,-,hb,hu⟩;exact⟨u,by rw[hu hc],hb⟩
      generalize zAm l ctx n=c at *
      have cz1:(c != 0)=true:=by rw[bne_iff_ne];exact hc
      have hcc:Hid (c≠0):=hc;clear hc hk;go_enter func212,ntmps212;go_wp2_with fail;refine(K.out _ (hr2.keep (zA _ _))).mono ?_;rintro e w1 ⟨u,rfl,hb⟩;have C1:=(yr w [.int .i64 0,.slice none 0 0] 129).stay hb;have BW:=yu hb;have f0:=zIX c none 0 0;replace C1:=C1.old _ (.cells #[.int .i64 c,.slice none 0 0] 129);replace BW:=yt BW (.cells #[.int .i64 c,.slice none 0 0] 129);have c0:=C1.cell 0;have c1:=C1.cell 1;simp at c0 c1;have fz:=C1.frozen;clear hb;go_wp2;exact bodyPost_ret (v:=.agg #[.int .i64 c,.slice none 0 0]) (by simp[results,results212,go_sem,c0,c1]) rfl ⟨_,rfl,zO _ _,(BW.setCell (yf _) _).setCell (yf _) _⟩
  · have hk:keyB key=false:=by simp[keyB,l1]
    rw[show elC key l ctx n=2 by simp[elC,hk],show elL key l ctx n=[] by simp[elL,elC,hk]];go_enter func212,ntmps212;go_wp2;exact bodyPost_ret (v:=.agg #[.int .i64 2,.slice none 0 0]) (by simp[results,results212,go_sem]) rfl ⟨_,rfl,zO _ _,zA _ _⟩
theorem zKc (p p2:Option Addr) (q q2:Nat) (key l data:List UInt8) (w:World) (hr:Rd w p q key) (hr2:Rd w p2 q2 data) (hl:l.length≤1048576) (hT:Tabs w):
    Calls prog 189 #[.slice p key.length q,.string (strB l),.slice p2 data.length q2] w fun e w'=>∃ u,e=.returned (.agg #[.int .i64 (dkC key l data),u])∧Own w' w.heap.size u (dkL key l data)∧Below w.heap.size w w':=by
  by_cases l1:key.length≤64
  · have h1:keyB key=true:=by simp[keyB,l1]
    cases h2:zAU l
    · rw[show dkC key l data=5 by simp[dkC,h1,h2],show dkL key l data=[] by simp[dkL,h1,h2]];clear h1;go_enter func189,ntmps189;go_wp2_with fail;refine(zBg l _ hl).mono ?_;rintro e w' ⟨rfl,hw⟩;subst hw;rw[h2];go_wp2;exact bodyPost_ret (v:=.agg #[.int .i64 5,.slice none 0 0]) (by simp[results,results189,go_sem]) rfl ⟨_,rfl,zO _ _,zA _ _⟩
    · by_cases l2:data.length≤500
      · have h3:zEF data=true:=by simp[zEF,l2]
        rw[show dkC key l data=0 by simp[dkC,h1,h2,h3],show dkL key l data=zAG key l data by simp[dkL,h1,h2,h3]];obtain⟨dg,hdg⟩:∃ d,Hid (d=zW data):=⟨_,rfl⟩
        have HDL:Hid (dg.length=32):=by show _=_;rw[hdg.out,zAz]
        have KD:Hid (∀ w,Rd w p2 q2 data→Tabs w→Calls prog 158 #[.slice p2 data.length q2] w fun e w'=>∃ a c,e=.returned (.agg #[.int .i64 0,.slice a 32 c])∧Own w' w.heap.size (.slice a 32 c) dg∧Below w.heap.size w w'):=fun w h h'=>by rw[hdg.out];exact zFj p2 q2 data w h h' (by omega)
        have KE:Hid (∀ w a c,Rd w p q key→Rd w a c dg→Tabs w→Calls prog 212 #[.slice p key.length q,.string (strB l),.slice a 32 c,.int .i64 32] w fun e w'=>∃ u,e=.returned (.agg #[.int .i64 0,u])∧Own w' w.heap.size u (zAG key l data)∧Below w.heap.size w w'):=fun w a c h h' h''=>by
          have g:=zEn p a q c key l dg 32 w h h' hl h''
          have hc:zAm l dg 32=0:=by have:=HDL.out;simp[zAm,h2,inB];omega
          rw[HDL.out,show elC key l dg 32=0 by simp[elC,h1,hc],show elL key l dg 32=zAG key l data by rw[elL,if_pos (by simp[elC,h1,hc]),zAG,← hdg.out];rfl] at g;exact g
        have HR:Hid (Rd w p q key):=hr;have HT:Hid (Tabs w):=hT;clear h1 hT hr h3;go_enter func189,ntmps189;go_wp2_with fail;refine(zBg l _ hl).mono ?_;rintro e w' ⟨rfl,hw⟩;subst hw;rw[h2];go_wp2_with fail;refine(KD.out _ (hr2.keep (zA _ _)) (HT.out.keep (zA _ _))).mono ?_;rintro e w1 ⟨a,cap,rfl,ho,hb⟩;have rd1:=Rd.own ho;have C1:=(yr w [.int .i64 0,.slice none 0 0] 129).stay hb;have BW:=yu hb;have f1:=zAk 0 a 32 cap;have hz:Hid (w.heap.size<w1.heap.size):=zC8 hb;clear ho hb;go_wp2_with fail;refine(KE.out _ a cap (HR.out.keep BW) rd1 (HT.out.keep BW)).mono ?_;rintro e w2 ⟨u2,rfl,k2,hb2⟩;obtain⟨a2,cap2,rfl,-⟩:=k2.rd;replace C1:=C1.stay hb2;replace BW:=yn BW hb2;have c0:=C1.cell 0;have c1:=C1.cell 1;simp at c0 c1;have fz:=C1.frozen;clear hb2 rd1 f1;go_wp2;refine bodyPost_ret (v:=.agg #[.int .i64 0,.slice a2 (zAG key l data).length cap2]) (by simp[results,results189,go_sem,c0,c1]) rfl ⟨_,rfl,?_,(BW.setCell (yf _) _).setCell (yf _) _⟩;exact((k2.set hz.out _).set hz.out _).lower (Nat.le_of_lt hz.out)
      · have h3:zEF data=false:=by simp[zEF,l2]
        rw[show dkC key l data=2 by simp[dkC,h1,h2,h3],show dkL key l data=[] by simp[dkL,h1,h2,h3]];clear h1 h3;go_enter func189,ntmps189;go_wp2_with fail;refine(zBg l _ hl).mono ?_;rintro e w' ⟨rfl,hw⟩;subst hw;rw[h2];go_wp2;exact bodyPost_ret (v:=.agg #[.int .i64 2,.slice none 0 0]) (by simp[results,results189,go_sem]) rfl ⟨_,rfl,zO _ _,zA _ _⟩
  · have h1:keyB key=false:=by simp[keyB,l1]
    rw[show dkC key l data=2 by simp[dkC,h1],show dkL key l data=[] by simp[dkL,h1]];go_enter func189,ntmps189;go_wp2;exact bodyPost_ret (v:=.agg #[.int .i64 2,.slice none 0 0]) (by simp[results,results189,go_sem]) rfl ⟨_,rfl,zO _ _,zA _ _⟩
end Go.Proofs.YtiabacnmmojfjaaGreatDoor
