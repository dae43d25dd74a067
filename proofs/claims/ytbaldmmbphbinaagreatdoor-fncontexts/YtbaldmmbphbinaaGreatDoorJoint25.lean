import Derived.Test.YtbaldmmbphbinaaGreatDoorJoint23
import Derived.Laws.CopyOwn
import Derived.Laws.Rows
import Derived.Laws.Tables
import Derived.Maps.OwnSet
import Derived.Maps.OwnOps
import Derived.DeepKeys5
import Derived.Test.YtbaldmmbphbinaaGreatDoorJoint7
set_option maxHeartbeats 1000000
set_option maxRecDepth 4000
namespace Go.Proofs.YtbaldmmbphbinaaGreatDoor
open Go.ChangeShapes Go.WideShapes Go.ChangeAt Go.RowKit
def keyL (p c:Int) (d:List UInt8):List Value:=.int .i64 p :: .int .i64 c :: d.map u8v
def keyV (p c:Int) (d:List UInt8):Value:=.agg (keyL p c d).toArray
theorem zME {a b:UInt8} (h:u8v a=u8v b):a=b:=by
  unfold u8v at h
  injection h with _ h
  exact UInt8.toNat_inj.1 (by omega)
theorem zEL:∀ {d e:List UInt8},d.map u8v=e.map u8v→d=e
  | [],[],_=>rfl
  | [],_ :: _,h=>by simp at h
  | _ :: _,[],h=>by simp at h
  | a :: d,b :: e,h=>by
    simp only[List.map_cons,List.cons.injEq] at h;rw[zME h.1,zEL h.2]
theorem zKx {p q c f:Int} {d e:List UInt8} (h:keyV p c d=keyV q f e):p=q∧c=f∧d=e:=by
  injection h with h
  have h2:keyL p c d=keyL q f e:=by simpa using congrArg Array.toList h
  simp only[keyL,List.cons.injEq,Value.int.injEq,true_and] at h2;exact⟨h2.1,h2.2.1,zEL h2.2.2⟩
theorem zGK {α β:Type} {f:α→Option β}:∀ {l:List α},(∀ x∈l,∃ y,f x=some y)→∃ ys,l.mapM f=some ys
  | [],_=>⟨[],rfl⟩
  | a :: l,h=>by
    obtain⟨y,hy⟩:=h a (List.mem_cons_self ..);obtain⟨ys,hys⟩:=zGK (l:=l) (fun x hx=>h x (List.mem_cons_of_mem _ hx));exact⟨y :: ys,by simp[List.mapM_cons,hy,hys]⟩
theorem zCz {n:Nat} {t:TypeId} {q:IntKind} {a:Int} (ht:Tryz.prog.underlying t=some (.int q)) (ha:(Lit.int q a).wf=true):Tryz.prog.keyLits (n+1) t [.int q a]=some [.int q a]:=by
  simp[Program.keyLits,ht,ha]
theorem zEM:Tryz.prog.cellsOf 156=34:=by kernel_rfl
theorem zHl:Tryz.prog.cellsOf 154=32:=by kernel_rfl
theorem zMF:Tryz.prog.cellsOf 5=1:=by kernel_rfl
theorem zKy:Tryz.prog.cellsOf 2=1:=by kernel_rfl
theorem zE1:Tryz.prog.keyType 156=true:=by kernel_rfl
theorem zIN:laidOutB Tryz.prog=true:=by kernel_rfl
theorem signedLaw:Go.Maps.Keyed Tryz.prog 156:=Go.Maps.Keyed.of_law (deep_law_gate zIN (of_decide_eq_true (by kernel_rfl)) (of_decide_eq_true (by kernel_rfl)) zE1 (by kernel_rfl))
theorem zNN (x:UInt8):(Lit.int .u8 (x.toNat:Int)).wf=true:=by
  have h:=x.toNat_lt
  have h1:IntKind.u8.min=0:=by kernel_rfl
  have h2:IntKind.u8.max=255:=by kernel_rfl
  simp only[Lit.wf,h1,h2,Bool.and_eq_true,decide_eq_true_eq];omega
theorem zGw {n:Nat} {d:List UInt8} (hd:d.length=32):∃ ls,Tryz.prog.keyLits (n+2) 154 (d.map u8v)=some ls:=by
  unfold Program.keyLits;rw[Tryz.underlying154];simp only[List.length_map,hd,zHl,if_true,zMF,Nat.mul_one]
  obtain⟨ys,hys⟩:=zGK (l:=List.range 32) (f:=fun i=>Tryz.prog.keyLits (n+1) 5 (((d.map u8v).drop i).take 1)) (fun i hi=>by
    have hi':i<d.length:=by rw[hd];exact List.mem_range.1 hi
    rw[List.drop_eq_getElem_cons (by simpa using hi'),List.take_succ_cons,List.take_zero,List.getElem_map]
    exact⟨_,zCz Tryz.underlying5 (zNN d[i])⟩)
  exact⟨ys.flatten,by rw[hys];rfl⟩
theorem zE2 {p c:Int} {d:List UInt8} (hp:(Lit.int .i64 p).wf=true) (hc:(Lit.int .i64 c).wf=true) (hd:d.length=32):∃ kl,keyOf Tryz.prog 156 (keyV p c d)=some kl:=by
  obtain⟨m,hm⟩:∃ m,Tryz.prog.types.size=m+2:=⟨Tryz.prog.types.size-2,by kernel_rfl⟩;obtain⟨ls,hls⟩:=zGw (n:=m) hd;unfold keyOf;rw[Tryz.underlying156]
  have hf:(keyV p c d).formed Tryz.prog 156=true:=by
    unfold keyV Value.formed;rw[Tryz.underlying156,zEM];simp[keyL,hd]
  simp only[zE1,hf,Bool.and_self,if_true]
  have e:Tryz.prog.keyLits (Tryz.prog.types.size+1) 156 (keyL p c d)=some ([.int .i64 p]++([.int .i64 c]++(ls++[]))):=by
    unfold Program.keyLits;rw[Tryz.underlying156]
    have hl:(keyL p c d).length=34:=by simp[keyL,hd]
    have hnm : (#[({ name := "place", type := 2, offset := 0, embedded := false, tag := "", pkgPath := "loop.example/g00375/impl", byteOffset := 0 } : Field), { name := "cert", type := 2, offset := 1, embedded := false, tag := "", pkgPath := "loop.example/g00375/impl", byteOffset := 8 }, { name := "digest", type := 154, offset := 2, embedded := false, tag := "", pkgPath := "loop.example/g00375/impl", byteOffset := 16 }].all (·.name != "_")) = true := by kernel_rfl
    simp only[hl,zEM,hnm,and_self,if_true];simp only[List.mapM_cons,List.mapM_nil,zKy,zHl]
    have k1:Tryz.prog.keyLits Tryz.prog.types.size 2 (((keyL p c d).drop 0).take 1)=some [.int .i64 p]:=by
      rw[hm];exact zCz Tryz.underlying2 hp
    have k2:Tryz.prog.keyLits Tryz.prog.types.size 2 (((keyL p c d).drop 1).take 1)=some [.int .i64 c]:=by
      rw[hm];exact zCz Tryz.underlying2 hc
    have k3:Tryz.prog.keyLits Tryz.prog.types.size 154 (((keyL p c d).drop 2).take 32)=some ls:=by
      rw[hm,show((keyL p c d).drop 2).take 32=d.map u8v by simp only[keyL,List.drop_succ_cons,List.drop_zero];exact List.take_of_length_le (by rw[List.length_map,hd];exact Nat.le_refl _)];exact hls
    rw[k1,k2,k3];simp
  rw[show(keyV p c d).cells.toList=keyL p c d by simp[keyV,Value.cells],e];exact⟨_,rfl⟩
def zK:List Value:=keyL 0 0 (zs 32)
theorem zDt {P:Program} {ops:Array Oper} {rest:List Oper} {o:Oper} {a:Act} {w:World} {Q:Exit→Act→World→Prop} (hgd:o.guard=none) (t:TypeId) (x y:Operand) (ho:o.op=.build t #[(0,x),(1,y)]) (va vb:Value) (hx:a.eval x=va) (hy:a.eval y=vb) (cells:Array Value)
    (hb:P.built t [(0,va),(1,vb)]=some cells) (h:wpList P ops Q rest (a.put o.dst (.agg cells)) w):wpList P ops Q (o :: rest) a w:=by
  subst hx hy;exact wpList_build hgd t _ ho (by simp[hb]) (by simpa [hb] using h)
theorem zE3 (w:World):(zeroValue 156).run Tryz.prog w=.ok (.agg zK.toArray) w:=by kernel_rfl
theorem zGx (p c:Int):Tryz.prog.built 156 [(0,.int .i64 p),(1,.int .i64 c)]=some (keyL p c (zs 32)).toArray:=by kernel_rfl
theorem zIO:(Tryz.prog.info? 156).map (·.size)=some 34:=by kernel_rfl
theorem zMn:(Tryz.prog.info? 5).map (·.size)=some 1:=by kernel_rfl
theorem zHm {p c:Int} {d:List UInt8}:(keyL p c d).toArray.all (·.oneCell')=true:=by
  simp[keyL,Value.oneCell',u8v]
theorem zMG {p c:Int} {d:List UInt8} (hd:d.length=32):(keyL p c (zs 32)).toArray.toList.take 2++(d.map u8v++(keyL p c (zs 32)).toArray.toList.drop (2+(d.map u8v).length))=keyL p c d:=by
  simp[keyL,hd,zs]
theorem zE4 (place cert:Int) (d:List UInt8) (p:Option Addr) (q:Nat) (w:World) (hr:Rd w p q d) (hd:d.length=32):
    Calls Tryz.prog 126 #[.int .i64 place,.int .i64 cert,.slice p d.length q] w fun e w'=>e=.returned (keyV place cert d)∧Below w.heap.size w w':=by
  obtain⟨ad,rfl,hsrc⟩:=hr.addr (by omega);have B1:=zA w (.cells zK.toArray 156)
  have HS:Hid (∀ V:World,Below w.heap.size w V→∀ j v,(d.map u8v)[j]?=some v→V.cell? (ad.add j)=some v):=fun V hV j v hj=>by
    obtain⟨ad2,e2,h2⟩:=(hr.keep hV).addr (by omega);cases e2;exact h2 j v hj
  have HZ:Hid (zK.toArray.size=(34:Nat)):=by show _=_;simp[zK,keyL,zs]
  have HD:Hid (d.length=32):=hd
  have h34:Hid (∀ (p c:Int) (d:List UInt8),d.length=32→(Tryz.prog.info? 156).map (·.size)=some (keyL p c d).toArray.size):=fun p c d h=>by rw[zIO];simp[keyL,h]
  have hz32:Hid ((zs 32).length=32):=by show _=_;simp[zs]
  have R:=(Arr.new w zK 156).old _ (.cells zK.toArray 156);have X:=Arr.new (w.alloc (.cells zK.toArray 156)) zK 156;rw[zD] at X;have B2:=Below.mk B1 (.cells zK.toArray 156);have X2:=X.row (keyL place cert (zs 32));have R2:=R.rowOther (k:=w.heap.size+1) (by omega) (keyL place cert (zs 32)).toArray;have B3:=Below.row B2 (g:=w.heap.size+1) (by omega) (keyL place cert (zs 32)).toArray;have X4:=X2.row (keyL place cert d);have R4:=R2.rowOther (k:=w.heap.size+1) (by omega) (keyL place cert d).toArray;have B4:=Below.row B3 (g:=w.heap.size+1) (by omega) (keyL place cert d).toArray;have R5:=R4.row (keyL place cert d);have B5:=Below.row B4 (g:=w.heap.size) (Nat.le_refl _) (keyL place cert d).toArray
  have HM:Hid ((d.map u8v).length=Nat.min 32 32):=by show _=_;rw[List.length_map,hd];rfl
  rw[hd];clear hr hd hsrc;go_enter Tryz.func126,Tryz.ntmps126
  go_wp2_with (first
    | refine zS rfl 156 rfl zK.toArray zE3 w.heap.size rfl ?_
    | refine zS rfl 156 rfl zK.toArray zE3 (w.heap.size+1) (zD _ _) ?_
    | refine zDt rfl 156 _ _ rfl _ _ rfl rfl _ (zGx place cert) ?_
    | refine wpList_store_row rfl 156 _ _ rfl (w.heap.size+1) (keyL place cert (zs 32)).toArray rfl rfl 156 zK.toArray X (h34.out _ _ _ hz32.out) (by simp[zK,keyL]) zHm ?_
    | (refine wpList_copy_own rfl (.tmp 12) (.tmp 13) 22 22 rfl 5 Tryz.underlying22 zMn (w.heap.size+1) 2 32 32 ad 32 q rfl rfl (keyL place cert (zs 32)).toArray 156 X2 (d.map u8v) HM.out (HS.out _ B3) (by rw[HM.out];simp[keyL,zs]) (by intro v hv;obtain⟨b,-,rfl⟩:=List.mem_map.1 hv;rfl) ?_;rw[zMG HD.out])
    | refine wpList_load_row rfl 156 (.tmp 7) rfl (w.heap.size+1) rfl 156 (keyL place cert d).toArray (0,0) _ X4 Tryz.underlying156 rfl (h34.out _ _ _ HD.out) ?_
    | refine wpList_store_row rfl 156 _ _ rfl w.heap.size (keyL place cert d).toArray rfl rfl 156 zK.toArray R4 (h34.out _ _ _ HD.out) (by rw[HZ.out];simp[keyL,HD.out]) zHm ?_)
  exact bodyPost_ret (v:=keyV place cert d) (results_cell_row Tryz.results126 _ _ w.heap.size 156 (keyL place cert d).toArray (0,0) _ rfl R5 Tryz.underlying156 rfl (h34.out _ _ _ HD.out)) rfl ⟨rfl,B5⟩
theorem zJk {x:Int} (h1:-9223372036854775808≤x) (h2:x≤9223372036854775807):(Lit.int .i64 x).wf=true:=by
  have e1:IntKind.i64.min=-9223372036854775808:=by kernel_rfl
  have e2:IntKind.i64.max=9223372036854775807:=by kernel_rfl
  simp only[Lit.wf,e1,e2,Bool.and_eq_true,decide_eq_true_eq];omega
theorem zCX {w w':World} {k:TypeId} {R:Value→Option (DataW Unit×List MemPlace)} {b n:Nat} {D:DataW Unit} (h:w.ownsMap Tryz.prog k R b n D) (hb:Below w.heap.size w w'):w'.ownsMap Tryz.prog k R b n D:=by
  obtain⟨es,c,h1,h2⟩:=h;exact⟨es,c,(hb.block b (Array.getElem?_eq_some_iff.1 h1).1).trans h1,h2⟩
def HasK (D:DataW Unit) (l:List zO) (k:Nat):Prop:=∀ v kl,keyOf Tryz.prog 156 v=some kl→(Go.Maps.has D kl=true↔∃ (j:Nat) (s:zO),j<k∧l[j]?=some s∧keyV j s.1 s.2.2=v)
theorem HasK.zero (l:List zO):HasK (.map []) l 0:=fun v kl _=>⟨fun h=>(by cases h),fun ⟨j,s,h,_⟩=>absurd h (Nat.not_lt_zero _)⟩
theorem HasK.step {D:DataW Unit} {l:List zO} {k:Nat} {a:zO} {kl:Lit} {d:DataW Unit} (h:HasK D l k) (hm:Go.Maps.IsMap D) (ha:l[k]?=some a) (hk:keyOf Tryz.prog 156 (keyV k a.1 a.2.2)=some kl):HasK (D.put kl d) l (k+1):=fun v kv hv=>by
  by_cases he:kv=kl
  · subst he;have e:=signedLaw.inj hk hv;refine⟨fun _=>⟨k,a,Nat.lt_succ_self _,ha,e⟩,fun _=>Go.Maps.has_put_same hm (signedLaw.key hk) d⟩
  · rw[Go.Maps.has_put_other he,h v kv hv];refine⟨fun ⟨j,s,h1,h2,h3⟩=>⟨j,s,by omega,h2,h3⟩,fun ⟨j,s,h1,h2,h3⟩=>?_⟩
    by_cases hj:j=k
    · subst hj;rw[ha] at h2;cases h2;rw[h3] at hk;rw[hk] at hv;exact absurd (Option.some.inj hv).symm he
    · exact⟨j,s,by omega,h2,h3⟩
theorem HasK.ck {D:DataW Unit} {l:List zO} {place id:Int} {d:List UInt8} {kl:Lit} (h:HasK D l l.length) (hk:keyOf Tryz.prog 156 (keyV place id d)=some kl):Go.Maps.has D kl=ckA l place id d:=by
  rw[Bool.eq_iff_iff,h _ _ hk];constructor
  · rintro ⟨j,s,h1,h2,h3⟩;obtain⟨rfl,rfl,rfl⟩:=zKx h3;rw[zJS h2];simp
  · intro hc
    by_cases hin:0≤place∧place<(l.length:Int)
    · obtain⟨j,rfl⟩:∃ j:Nat,place=(j:Int):=⟨place.toNat,by omega⟩
      have hj:j<l.length:=by omega
      obtain⟨s,hs⟩:∃ s,l[j]?=some s:=⟨l[j],by simp[hj]⟩;rw[zJS hs] at hc;simp only[Bool.and_eq_true,beq_iff_eq,decide_eq_true_eq] at hc;exact⟨j,s,hj,hs,by rw[hc.1,hc.2]⟩
    · rw[zGq hin] at hc;cases hc
theorem zIP (n:Int) (w:World):(Instr.makeMap 152 (some (.int .i64 n))).run Tryz.prog w=.ok (.map (some w.heap.size)) (w.alloc (.map #[] 0)):=by kernel_rfl
theorem zIQ (l:List zO) (p:Option Addr) (q:Nat) (w:World) (hr:RdL signC w p q l) (hs:sgC l=0):
    Calls Tryz.prog 125 #[.slice p l.length q] w fun e w'=>∃ D:DataW Unit,e=.returned (.map (some w.heap.size))∧w'.ownsMap Tryz.prog 156 (plainElem Tryz.prog 2) w.heap.size l.length D∧HasK D l l.length∧Below w.heap.size w w':=by
  have HR:Hid (RdL signC w p q l):=hr;have hq1:l.length≤q:=hr.1;have hq2:q≤2 ^ 63-1:=hr.2.1;have HS:Hid (l.length≤40∧∀ s∈l,sgO s=0):=sgC_all.1 hs
  have hln:(l.length:Int)≤40:=by have:=HS.out.1;omega
  have O1:=World.ownsMap_made (H:=Unit) w Tryz.prog 156 (plainElem Tryz.prog 2);have BW:=zA w (.map #[] 0);have hmm:=zIP;clear hr hs;go_enter Tryz.func125,Tryz.ntmps125;go_wp2_with fail
  go_loopw [11] (fun i wr=>∃ (k:Nat) (D:DataW Unit),k≤l.length∧i=.int .i64 k∧wr.ownsMap Tryz.prog 156 (plainElem Tryz.prog 2) w.heap.size k D∧HasK D l k∧Below w.heap.size w wr)
    (fun i _=>l.length-(intOf i).toNat)
  case atStart=>exact⟨0,_,Nat.zero_le _,rfl,O1,HasK.zero l,BW⟩
  case round=>
    clear O1 BW hmm;obtain⟨k,D,hk,rfl,ho,hh,BW⟩:=hrel
    by_cases hlt:k<l.length
    · have hI:(k:Int)<(l.length:Int):=by omega
      obtain⟨b,o,e1,hc⟩:=(HR.out.keep BW).2.2.2 (by omega);subst e1;obtain⟨a,ha⟩:∃ a,l[k]?=some a:=⟨l[k],by simp[hlt]⟩;obtain⟨us,hrep,hcell⟩:=hc k a ha;obtain⟨pa,qa,rfl,ra⟩:=zDx hrep;have m0:=hcell 0 _ rfl;have m1:=hcell 1 _ rfl;have m2:=hcell 2 _ rfl;rw[show signC.n=3 from rfl] at m0 m1 m2;rw[Nat.add_zero] at m0;have hpa:=zGE (HS.out.2 a (List.mem_of_getElem? ha));obtain⟨kl,hkl⟩:=zE2 (p:=(k:Int)) (c:=a.1) (d:=a.2.2) (zJk (by omega) (by omega)) (zJk (by omega) (by omega)) hpa.2.2.2.2;have HKL:Hid (keyOf Tryz.prog 156 (keyV k a.1 a.2.2)=some kl):=hkl;have hal:=zA wr (.cells #[.int .i64 a.1,.int .i64 a.2.1,.slice pa a.2.2.length qa] 67);have N:=Arr.new wr [.int .i64 a.1,.int .i64 a.2.1,.slice pa a.2.2.length qa] 67;have HRA:=ra.keep hal;have ho2:=zCX ho hal;have BW2:=Below.step BW hal
      have HHs:Hid (∀ d,HasK (D.put kl d) l (k+1)):=fun d=>hh.step ho.isMap ha hkl
      have hwf:(Lit.int .i64 a.2.1).wf=true:=zJk (by omega) (by omega);have HPE:Hid (plainElem (H:=Unit) Tryz.prog 2 (.int .i64 a.2.1)=some (.lit (.int .i64 a.2.1),[])):=plainElem_int Tryz.underlying2 hwf;have HA32:Hid (a.2.2.length=32):=hpa.2.2.2.2;clear hc hcell hrep hpa hkl hh hwf ra ho BW;go_wp2_with fail;generalize hV:wr.alloc (.cells #[.int .i64 a.1,.int .i64 a.2.1,.slice pa a.2.2.length qa] 67)=V at *;have n0:=zQ (N.cell 0) rfl;have n1:=zQ (N.cell 1) rfl;have n2:=zQ (N.cell 2) rfl
      have KA:Hid (∀ W:World,Below V.heap.size V W→Calls Tryz.prog 126 #[.int .i64 (k:Int),.int .i64 a.1,.slice pa a.2.2.length qa] W fun e w'=>e=.returned (keyV k a.1 a.2.2)∧Below W.heap.size W w'):=fun W hW=>zE4 k a.1 a.2.2 pa qa W (HRA.keep hW) HA32.out
      clear hV m0 m1 m2 hal;apply zBR
      case h=>
        intro JN;have BB:=Below.refl V.heap.size V;have hne:=HW.some V;have g0:=HW.at (n0);have g1:=HW.at (n1);have g2:=HW.at (n2);refine wp_region_pick [0,1,2,3,4,5,7,8] 9 1 1 rfl rfl rfl (by kernel_rfl) (by kernel_rfl) (by kernel_rfl) (by kernel_rfl) ?_;simp only[zL,List.getElem?_toArray,List.getElem?_cons_zero,List.getElem?_cons_succ]
        repeat (go_big_quiet_step (fail))
        refine wpQuiet_nil ?_;clear g0 g1 g2;refine wpM_only (i:=6) (by kernel_rfl) ?_;refine mOp_call rfl (by go_simp) 126 _ #[.int .i64 (k:Int),.int .i64 a.1,.slice pa a.2.2.length qa] (fun w=>by go_simp) rfl ?_;rintro _ ⟨sg,rfl⟩;refine(KA.out _ (Below.step BB sg.h)).mono ?_;rintro e wg1 ⟨rfl,hbx⟩;have hbg:=Below.step sg.h hbx;refine⟨_,rfl,⟨⟨wg1,hbx⟩,rfl⟩,?_⟩;replace BB:=Below.step BB hbg;clear hbg hbx sg;replace hne:=HW.some wg1;refine wpM_end (by kernel_rfl) rfl (by kernel_rfl) (by decide) ?_;rintro _ ⟨sz,rfl⟩;simp only[List.drop_succ_cons,List.drop_zero]
        go_simp
        replace BB:=Below.step BB sz.h;clear hne;generalize sz.w=W at *;clear sz;revert BB;revert W;exact JN.out
      case hj=>
      intro W BB;have ho3:=zCX ho2 BB;have BW3:=Below.step BW2 BB;clear n0 n1 n2 KA N HRA ho2;refine wpList_mapUpdate_own _ rfl _ _ _ 152 rfl 156 2 signedLaw Tryz.underlying152 _ w.heap.size k D rfl ho3 (by unfold maxLen;omega) (keyV k a.1 a.2.2) (.int .i64 a.2.1) kl rfl rfl HKL.out (.lit (.int .i64 a.2.1)) [] HPE.out ?_;intro w6 ho6 hg6;have BW6:=BW3.grown hg6 BW3.size (fun j hj=>by cases hj;exact Nat.le_refl _);have hh6:=HHs.out (.lit (.int .i64 a.2.1));clear ho3 hg6 BW3 BW2 BB;go_wp2_with fail;go_roundw
      case rel=>exact⟨k+1,_,by omega,by go_num,ho6,hh6,BW6⟩
      case measure=>simp[intOf];omega
    · have e:k=l.length:=by omega
      subst e;go_wp2_with fail;go_ret;exact⟨D,rfl,ho,hh,BW⟩
theorem zMH (w:World):(zeroValue 2).run Tryz.prog w=.ok (.int .i64 0) w:=by kernel_rfl
theorem zKz (l:List zO) (p p2:Option Addr) (q q2:Nat) (place id:Int) (d:List UInt8) (w:World) (hr:RdL signC w p q l) (hd:Rd w p2 q2 d) (hpl:(Lit.int .i64 place).wf=true) (hid:(Lit.int .i64 id).wf=true):
    Calls Tryz.prog 100 #[.slice p l.length q,.int .i64 place,.int .i64 id,.slice p2 d.length q2] w fun e w'=>e=.returned (.bool (ckB l place id d))∧Below w.heap.size w w':=by
  have K1:Hid (Calls Tryz.prog 94 #[.slice p l.length q] _ _):=zHi l p q w hr;have HR:Hid (RdL signC w p q l):=hr;have HD:Hid (Rd w p2 q2 d):=hd;clear hr hd
  by_cases hs:sgC l=0
  · rw[hs] at K1;cases h3:is32 d
    · have HF:Hid (ckB l place id d=false):=by
        show _=_
        unfold ckB ckA
        have h32:d.length≠32:=by simpa [is32] using h3
        cases hl:l[place.toNat]? with
        | none=>simp
        | some s=>
          have:=(zGE ((sgC_all.1 hs).2 s (List.mem_of_getElem? hl))).2.2.2.2
          have hne:s.2.2≠d:=fun e=>h32 (by rw[← e];exact this)
          simp[hne]
      rw[HF.out];clear hs;go_enter Tryz.func100,Tryz.ntmps100;go_wp2_with fail;refine K1.out.mono ?_;rintro e w2 ⟨rfl,hb2⟩;go_wp2_with fail;refine(zBn p2 q2 d _).mono ?_;rintro e w3 ⟨rfl,hw⟩;subst hw;rw[h3];go_wp2;go_ret;exact⟨rfl,hb2⟩
    · have hd32:d.length=32:=by simpa [is32] using h3
      have HE:Hid (ckB l place id d=ckA l place id d):=by show _=_;simp[ckB,hs]
      obtain⟨kl,hkl⟩:=zE2 hpl hid hd32;have HKL:Hid (keyOf Tryz.prog 156 (keyV place id d)=some kl):=hkl;have HS:Hid (sgC l=0):=hs;have H32:Hid (d.length=32):=hd32;rw[HE.out];clear hs hkl hd32;go_enter Tryz.func100,Tryz.ntmps100;go_wp2_with fail;refine K1.out.mono ?_;rintro e w2 ⟨rfl,hb2⟩;go_wp2_with fail;refine(zBn p2 q2 d _).mono ?_;rintro e w3 ⟨rfl,hw⟩;subst hw;rw[h3];go_wp2_with fail;refine(zIQ l p q _ (HR.out.keep hb2) HS.out).mono ?_;rintro e w5 ⟨D,rfl,ho,hh,hb3⟩;have B3:=Below.step hb2 hb3;go_wp2_with fail;refine(zE4 place id d p2 q2 w5 (HD.out.keep B3) H32.out).mono ?_;rintro e w4 ⟨rfl,hb4⟩;have B4:=Below.step B3 hb4;have ho4:=zCX ho hb4;have HC:Hid (Go.Maps.has D kl=ckA l place id d):=hh.ck HKL.out;go_wp2_with (at_lookup;refine wpList_lookup_own_ok_int _ rfl _ _ 152 rfl 156 2 .i64 signedLaw Tryz.underlying152 Tryz.underlying2 (zMH _) _ l.length D rfl ho4 (keyV place id d) kl rfl HKL.out ?_;intro c hat hwc);go_ret;exact⟨by rw[← HC.out];rfl,B4⟩
  · have HF:Hid (ckB l place id d=false):=by show _=_;simp[ckB,hs]
    obtain⟨z,hz⟩:∃ z,Hid (sgC l=z):=⟨_,rfl⟩
    have dz:(z != 0)=true:=by rw[bne_iff_ne,← hz.out];exact hs
    rw[hz.out] at K1;rw[HF.out];clear hs hz;go_enter Tryz.func100,Tryz.ntmps100;go_wp2_with fail;refine K1.out.mono ?_;rintro e w2 ⟨rfl,hb2⟩;go_wp2;go_ret;exact⟨rfl,hb2⟩
end Go.Proofs.YtbaldmmbphbinaaGreatDoor
