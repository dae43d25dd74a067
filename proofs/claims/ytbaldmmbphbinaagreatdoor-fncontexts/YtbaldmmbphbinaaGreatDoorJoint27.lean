import Derived.Shelf.SlIterI.Nil
import Derived.Shelf.SortM.Plain
import Derived.Shelf.SortM.SortNone
import Derived.Test.YtbaldmmbphbinaaGreatDoorJoint8
import Derived.Test.YtbaldmmbphbinaaGreatDoorJoint24
import Derived.Laws.AppendOwn
import Derived.Deep.AppendLies
import Derived.Maps.OwnSet
import Derived.Maps.OwnOps
set_option maxHeartbeats 2000000
set_option maxRecDepth 4000
namespace Go.Proofs.YtbaldmmbphbinaaGreatDoor
open Go Go.Shelf Go.Maps Go.Sort Go.RowKit
def zGM:Go.Shelf.Ren:=⟨fun | 7=>83 | 10=>106 | n=>n,fun | 23=>49 | 26=>2 | 3=>2 | 28=>111 | 0=>0 | 27=>110 | 33=>104 | 4=>4 | n=>n,fun | n=>n⟩
theorem zMu:Go.Proofs.SlLaysZI.n7 Tryz.prog zGM:={
  mixed:=by kernel_rfl
  f7:=⟨Tryz.f83.name,by decide,Tryz.func83.trans (congrArg some (by kernel_rfl))⟩
  f10:=⟨Tryz.f106.name,by decide,Tryz.func106.trans (congrArg some (by kernel_rfl))⟩
  t0:=Tryz.underlying0
  a0:=Tryz.isAgg0
  z0:=Tryz.sizeOf0
  v0:=Tryz.zeroValue0
  t4:=Tryz.underlying4
  a4:=Tryz.isAgg4
  z4:=Tryz.sizeOf4
  v4:=Tryz.zeroValue4
  t23:=Tryz.underlying49
  a23:=Tryz.isAgg49
  z23:=Tryz.sizeOf49
  v23:=Tryz.zeroValue49
  t26:=Tryz.underlying2
  a26:=Tryz.isAgg2
  z26:=Tryz.sizeOf2
  v26:=Tryz.zeroValue2
  t27:=Tryz.underlying110
  a27:=Tryz.isAgg110
  z27:=Tryz.sizeOf110
  v27:=Tryz.zeroValue110
  t28:=Tryz.underlying111
  a28:=Tryz.isAgg111
  z28:=Tryz.sizeOf111
  v28:=Tryz.zeroValue111
  t33:=Tryz.underlying104
  a33:=Tryz.isAgg104
  z33:=Tryz.sizeOf104
  v33:=Tryz.zeroValue104 }
def zER:Go.Shelf.Ren:=⟨fun | 6=>82 | 8=>104 | 9=>105 | 11=>129 | 13=>131 | 12=>130 | 23=>154 | 24=>155 | 14=>145 | 15=>146 | 16=>147 | 17=>148 | 18=>149 | 19=>150 | 20=>151 | 21=>152 | 22=>153 | 25=>167 | 26=>168 | 27=>169 | 28=>170 | 29=>171 | 30=>172 | 31=>185 | n=>n,fun | 26=>2 | 28=>111 | 24=>94 | 0=>0 | 3=>3 | 37=>133 | 48=>171 | 50=>191 | 4=>4 | 40=>182 | 39=>181 | 45=>187 | 5=>5 | 9=>9 | 51=>211 | 55=>215 | 57=>226 | 58=>227 | 33=>104 | n=>n,fun | n=>n⟩
theorem zMN:Go.Proofs.SlLaysZI.n6 Tryz.prog zER:={
  mixed:=by kernel_rfl
  f6:=⟨Tryz.f82.name,by decide,Tryz.func82.trans (congrArg some (by kernel_rfl))⟩
  f8:=⟨Tryz.f104.name,by decide,Tryz.func104.trans (congrArg some (by kernel_rfl))⟩
  f11:=⟨Tryz.f129.name,by decide,Tryz.func129.trans (congrArg some (by kernel_rfl))⟩
  t0:=Tryz.underlying0
  a0:=Tryz.isAgg0
  z0:=Tryz.sizeOf0
  v0:=Tryz.zeroValue0
  t24:=Tryz.underlying94
  a24:=Tryz.isAgg94
  z24:=Tryz.sizeOf94
  v24:=Tryz.zeroValue94
  t26:=Tryz.underlying2
  a26:=Tryz.isAgg2
  z26:=Tryz.sizeOf2
  v26:=Tryz.zeroValue2
  t28:=Tryz.underlying111
  a28:=Tryz.isAgg111
  z28:=Tryz.sizeOf111
  v28:=Tryz.zeroValue111
  i26:=by kernel_rfl }
def zJq:Go.Shelf.Ren:=⟨fun | 5=>105 | 8=>131 | 7=>130 | 19=>154 | 20=>155 | 10=>145 | 11=>146 | 12=>147 | 13=>148 | 14=>149 | 15=>150 | 16=>151 | 17=>152 | 18=>153 | 30=>167 | 31=>168 | 32=>169 | 33=>170 | 34=>171 | 35=>172 | 40=>185 | n=>n,fun | 23=>94 | 25=>2 | 3=>3 | 32=>133 | 22=>94 | 0=>0 | 44=>171 | 46=>191 | 4=>4 | 36=>182 | 35=>181 | 41=>187 | 5=>5 | 9=>9 | 53=>211 | 57=>215 | 63=>226 | 64=>227 | n=>n,fun | n=>n⟩
theorem zMv:Go.Proofs.SlLaysM.n5 Tryz.prog zJq:={
  mixed:=by kernel_rfl
  f5:=⟨Tryz.f105.name,by decide,Tryz.func105.trans (congrArg some (by kernel_rfl))⟩
  f7:=⟨Tryz.f130.name,by decide,Tryz.func130.trans (congrArg some (by kernel_rfl))⟩
  f8:=Tryz.func131.trans (congrArg some (by kernel_rfl))
  f10:=⟨Tryz.f145.name,by decide,Tryz.func145.trans (congrArg some (by kernel_rfl))⟩
  f11:=⟨Tryz.f146.name,by decide,Tryz.func146.trans (congrArg some (by kernel_rfl))⟩
  f12:=⟨Tryz.f147.name,by decide,Tryz.func147.trans (congrArg some (by kernel_rfl))⟩
  f13:=⟨Tryz.f148.name,by decide,Tryz.func148.trans (congrArg some (by kernel_rfl))⟩
  f14:=⟨Tryz.f149.name,by decide,Tryz.func149.trans (congrArg some (by kernel_rfl))⟩
  f15:=⟨Tryz.f150.name,by decide,Tryz.func150.trans (congrArg some (by kernel_rfl))⟩
  f16:=⟨Tryz.f151.name,by decide,Tryz.func151.trans (congrArg some (by kernel_rfl))⟩
  f17:=⟨Tryz.f152.name,by decide,Tryz.func152.trans (congrArg some (by kernel_rfl))⟩
  f18:=⟨Tryz.f153.name,by decide,Tryz.func153.trans (congrArg some (by kernel_rfl))⟩
  f19:=Tryz.func154.trans (congrArg some (by kernel_rfl))
  f20:=Tryz.func155.trans (congrArg some (by kernel_rfl))
  f30:=⟨Tryz.f167.name,by decide,Tryz.func167.trans (congrArg some (by kernel_rfl))⟩
  f31:=Tryz.func168.trans (congrArg some (by kernel_rfl))
  f32:=Tryz.func169.trans (congrArg some (by kernel_rfl))
  f33:=⟨Tryz.f170.name,by decide,Tryz.func170.trans (congrArg some (by kernel_rfl))⟩
  f34:=⟨Tryz.f171.name,by decide,Tryz.func171.trans (congrArg some (by kernel_rfl))⟩
  f35:=⟨Tryz.f172.name,by decide,Tryz.func172.trans (congrArg some (by kernel_rfl))⟩
  f40:=⟨Tryz.f185.name,by decide,Tryz.func185.trans (congrArg some (by kernel_rfl))⟩
  t0:=Tryz.underlying0
  a0:=Tryz.isAgg0
  z0:=Tryz.sizeOf0
  v0:=Tryz.zeroValue0
  t3:=Tryz.underlying3
  a3:=Tryz.isAgg3
  z3:=Tryz.sizeOf3
  v3:=Tryz.zeroValue3
  t4:=Tryz.underlying4
  a4:=Tryz.isAgg4
  z4:=Tryz.sizeOf4
  v4:=Tryz.zeroValue4
  t5:=Tryz.underlying5
  a5:=Tryz.isAgg5
  z5:=Tryz.sizeOf5
  v5:=Tryz.zeroValue5
  t9:=Tryz.underlying9
  a9:=Tryz.isAgg9
  z9:=Tryz.sizeOf9
  v9:=Tryz.zeroValue9
  t22:=Tryz.underlying94
  a22:=Tryz.isAgg94
  z22:=Tryz.sizeOf94
  v22:=Tryz.zeroValue94
  t23:=Tryz.underlying94
  a23:=Tryz.isAgg94
  z23:=Tryz.sizeOf94
  v23:=Tryz.zeroValue94
  t25:=Tryz.underlying2
  a25:=Tryz.isAgg2
  z25:=Tryz.sizeOf2
  v25:=Tryz.zeroValue2
  t32:=Tryz.underlying133
  a32:=Tryz.isAgg133
  z32:=Tryz.sizeOf133
  v32:=Tryz.zeroValue133
  t35:=Tryz.underlying181
  a35:=Tryz.isAgg181
  z35:=Tryz.sizeOf181
  v35:=Tryz.zeroValue181
  t36:=Tryz.underlying182
  a36:=Tryz.isAgg182
  z36:=Tryz.sizeOf182
  v36:=Tryz.zeroValue182
  t41:=Tryz.underlying187
  a41:=Tryz.isAgg187
  z41:=Tryz.sizeOf187
  v41:=Tryz.zeroValue187
  t44:=Tryz.underlying171
  a44:=Tryz.isAgg171
  z44:=Tryz.sizeOf171
  v44:=Tryz.zeroValue171
  t46:=Tryz.underlying191
  a46:=Tryz.isAgg191
  z46:=Tryz.sizeOf191
  v46:=Tryz.zeroValue191
  t53:=Tryz.underlying211
  a53:=Tryz.isAgg211
  z53:=Tryz.sizeOf211
  v53:=Tryz.zeroValue211
  t57:=Tryz.underlying215
  a57:=Tryz.isAgg215
  z57:=Tryz.sizeOf215
  v57:=Tryz.zeroValue215
  t63:=Tryz.underlying226
  a63:=Tryz.isAgg226
  z63:=Tryz.sizeOf226
  v63:=Tryz.zeroValue226
  t64:=Tryz.underlying227
  a64:=Tryz.isAgg227
  z64:=Tryz.sizeOf227
  v64:=Tryz.zeroValue227 }
theorem zMw (m:Nat):AnyZI.SortsIn Tryz.prog zER Fence.wide m:=
  ⟨fun blk off cap ss W hH hblk hsz=>callsIn_wide.2 (AnyM.slices_Sort_int zMv blk off cap ss W hH hblk hsz),
   fun p cap W=>callsIn_wide.2 (AnyM.slices_Sort_int_none zMv p cap W)⟩
theorem zK4 (mb:Option Nat) (W:World):Calls Tryz.prog 83 #[.map mb] W fun e w'=>e=.returned (.func (.func 106) #[] #[.pointer (some ⟨W.heap.size,0,none⟩)])∧w'=W.alloc (.cells #[.map mb] 49):=
  (callsIn_wide (n:=5)).1 (AnyZI.keys_in zMu Fence.wide 5 trivial rfl mb W)
theorem zGN (b nn g:Nat) (D0:DataW Unit) (R:Value→Option (DataW Unit×List MemPlace)) (W:World) (hg:g<W.heap.size) (hc:W.cell? ⟨g,0,none⟩=some (.map (some b))) (hown:W.ownsMap Tryz.prog 2 R b nn D0) (hmax:Maps.size D0≤maxLen) (hbytes:Maps.size D0*8≤140737488355328):
    Calls Tryz.prog 82 #[.func (.func 106) #[] #[.pointer (some ⟨g,0,none⟩)]] W fun e w'=>∃ (v:Value) (ss:List Int),e=.returned v∧ss.Perm (intKeys D0)∧w'.ownsRow W.heap.size 2 1 v ss.length ((ss.mergeSort (fun x y=>decide (x≤y))).map encZ)∧(v=.slice none 0 0↔ss=[])∧Below W.heap.size W w':=by
  have hseq:SeqGives Fence.wide 2 Tryz.prog 106 #[.pointer (some ⟨g,0,none⟩)] encZ (fun ss=>ss.Perm (intKeys D0)) (Maps.size D0) W:=
    AnyZI.keys_gives (ρ:=zGM) { zMu with } Fence.wide _ trivial rfl (by omega) g b nn D0 _ hg hc hown
  have cS:=AnyZI.sorted_in zMN Fence.wide 5 trivial trivial trivial trivial rfl (by omega) (zMw _) (enters_of Tryz.func105 (by kernel_rfl) rfl) 106 #[.pointer (some ⟨g,0,none⟩)] trivial (enters_of Tryz.func106 (by kernel_rfl) rfl) _ _ hmax hbytes _ hseq;exact(callsIn_wide (n:=5)).1 cS
end Go.Proofs.YtbaldmmbphbinaaGreatDoor
namespace Go.Proofs.YtbaldmmbphbinaaGreatDoor
open Go.ChangeShapes Go.WideShapes Go.ChangeAt Go.RowKit
def lkH (l:List zJ) (k:Int):Option Int:=(l.find? fun h=>h.1==k).map (·.2)
theorem zK5 (l:List zJ) (k:Int):lkH (l.take 0) k=none:=by simp[lkH]
theorem zFe {l:List zJ} {k:Int}:(lkH l k).isSome=hasH l k:=by
  unfold lkH hasH;rw[Option.isSome_map,List.isSome_find?]
theorem zHp {l:List zJ} {k:Nat} {a:zJ} (hr:Rise l) (ha:l[k]?=some a):lkH (l.take (k+1))=fun j=>if j=a.1 then some a.2 else lkH (l.take k) j:=by
  funext j
  unfold lkH;rw[List.take_add_one,ha,List.find?_append]
  by_cases hj:j=a.1
  · subst hj
    have hn:(l.take k).find? (fun h=>h.1==a.1)=none:=by
      rw[List.find?_eq_none];intro x hx;obtain⟨i,hi⟩:=List.mem_iff_getElem?.1 hx
      have hik:i<k:=by
        have:=(List.getElem?_eq_some_iff.1 hi).1;rw[List.length_take] at this;omega
      rw[List.getElem?_take_of_lt hik] at hi;obtain⟨hi1,hi2⟩:=List.getElem?_eq_some_iff.1 hi;obtain⟨hk1,hk2⟩:=List.getElem?_eq_some_iff.1 ha;have:=List.pairwise_iff_getElem.1 hr i k hi1 hk1 hik;rw[hi2,hk2] at this
      have hne:¬ x.1=a.1:=by omega
      simpa using hne
    rw[hn];simp
  · have e:(a.1==j)=false:=by rw[beq_eq_false_iff_ne];exact fun h=>hj h.symm
    rw[if_neg hj];simp[e]
theorem zJr {l:List zJ} {k:Nat} {a:zJ} (hr:Rise l) (ha:l[k]?=some a):lkH l a.1=some a.2:=by
  have h1:∀ j,k<j→j≤l.length→lkH (l.take j) a.1=some a.2:=fun j=>by
    induction j with
    | zero=>intro h;omega
    | succ j ih=>
      intro h1 h2;obtain⟨b,hb⟩:∃ b,l[j]?=some b:=⟨l[j],by simp⟩;rw[zHp hr hb]
      by_cases hk:k=j
      · subst hk;rw[ha] at hb;cases hb;simp
      · have hlt:k<j:=by omega
        obtain⟨hi1,hi2⟩:=List.getElem?_eq_some_iff.1 ha;obtain⟨hk1,hk2⟩:=List.getElem?_eq_some_iff.1 hb;have:=List.pairwise_iff_getElem.1 hr k j hi1 hk1 hlt;rw[hi2,hk2] at this;simp only;rw[if_neg (by omega)];exact ih hlt (by omega)
  have:=h1 l.length (List.getElem?_eq_some_iff.1 ha).1 (Nat.le_refl _)
  rwa [List.take_length] at this
theorem zMx {l:List zJ} {k now:Int} (hr:Rise l):hnB l k now=match lkH l k with | some u=>decide (now≤u) | none=>false:=by
  cases h:lkH l k with
  | none=>
    have h2:hasH l k=false:=by rw[← zFe,h];rfl
    simp only;unfold hnB;rw[List.any_eq_false];intro x hx;have:=h2;simp only[hasH,List.any_eq_false] at this;have:=this x hx;simp at this;simp[this]
  | some u=>
    have h2:hasH l k=true:=by rw[← zFe,h];rfl
    obtain⟨a,ha,rfl⟩:=hasH_iff.1 h2;obtain⟨i,hi⟩:=List.mem_iff_getElem?.1 ha;have h3:=zJr hr hi;rw[h] at h3;cases h3;simp only;unfold hnB;cases hd:decide (now≤a.2)
    · rw[List.any_eq_false];intro x hx
      by_cases he:x.1=a.1
      · obtain⟨j,hj⟩:=List.mem_iff_getElem?.1 hx;have h4:=zJr hr hj;rw[he,h] at h4;have h5:x.2=a.2:=(Option.some.inj h4).symm;rw[h5]
        simpa [he] using hd
      · simp[he]
    · rw[List.any_eq_true];exact⟨a,ha,by simpa using hd⟩
def zAV (l:List zJ):List Value:=l.flatMap fun a=>[.int .i64 a.1,.int .i64 a.2]
theorem zC0 (l:List zJ) (a:zJ):zAV (l++[a])=zAV l++[.int .i64 a.1,.int .i64 a.2]:=by simp[zAV]
theorem zDZ {w:World} {B:Nat}:∀ (l:List zJ),OwnAll holdC w B l (zAV l) []
  | []=>⟨rfl,rfl⟩
  | _ :: l=>⟨_,_,[],[],rfl,rfl,zKB,zDZ l⟩
open Go.Maps in
def MapIs (D:DataW Unit) (f:Int→Option Int):Prop:=∀ k:Int,Maps.has D (.int .i64 k)=(f k).isSome∧D.atKey (.int .i64 k) (.lit (.int .i64 0))=.lit (.int .i64 ((f k).getD 0))
theorem MapIs.nil:MapIs (.map []) (fun _=>none):=fun _=>⟨rfl,rfl⟩
theorem zMy {a b:Int} (h:a≠b):(Lit.int .i64 a)≠(Lit.int .i64 b):=fun e=>h (by injection e)
theorem MapIs.put {D:DataW Unit} {f:Int→Option Int} (h:MapIs D f) (hm:Go.Maps.IsMap D) (k u:Int) (hk:WideAt.IsKeyLit (.int .i64 k)):MapIs (D.put (.int .i64 k) (.lit (.int .i64 u))) (fun j=>if j=k then some u else f j):=fun j=>by
  by_cases hj:j=k
  · subst hj;simp only[if_true];exact⟨Go.Maps.has_put_same hm hk _,Go.Maps.atKey_put_same hm hk _ _⟩
  · simp only[if_neg hj];rw[Go.Maps.has_put_other (zMy hj),Go.Maps.atKey_put_other (zMy hj)];exact h j
theorem wf64 {x:Int} (h1:-9223372036854775808≤x) (h2:x≤9223372036854775807):(Lit.int .i64 x).wf=true:=by
  have e1:IntKind.i64.min=-9223372036854775808:=by kernel_rfl
  have e2:IntKind.i64.max=9223372036854775807:=by kernel_rfl
  simp only[Lit.wf,e1,e2,Bool.and_eq_true,decide_eq_true_eq];omega
theorem keyH (x:Int) (h:(Lit.int .i64 x).wf=true):keyOf Tryz.prog 2 (.int .i64 x)=some (.int .i64 x):=Go.Maps.keyOf_int_mk Tryz.underlying2 h
theorem lawH:Go.Maps.Keyed Tryz.prog 2:=Go.Maps.int_keyed Tryz.underlying2
theorem zK6 (w:World):(zeroValue 2).run Tryz.prog w=.ok (.int .i64 0) w:=by kernel_rfl
theorem zNP (n:Int) (w:World):(Instr.makeMap 49 (some (.int .i64 n))).run Tryz.prog w=.ok (.map (some w.heap.size)) (w.alloc (.map #[] 0)):=by kernel_rfl
abbrev MapH (w:World) (b n:Nat) (D:DataW Unit):Prop:=w.ownsMap Tryz.prog 2 (plainElem Tryz.prog 2) b n D
theorem MapH.keep {w w':World} {b n:Nat} {D:DataW Unit} (h:MapH w b n D) (hb:Below w.heap.size w w'):MapH w' b n D:=by
  obtain⟨es,c,h1,h2⟩:=h;exact⟨es,c,(hb.block b (Array.getElem?_eq_some_iff.1 h1).1).trans h1,h2⟩
theorem zE5 (l:List zJ) (p:Option Addr) (q:Nat) (w:World) (hr:RdL holdC w p q l) (hs:Rise l) (ho:∀ h∈l,okH h=true) (hl:l.length≤1000):
    Calls Tryz.prog 20 #[.slice p l.length q] w fun e w'=>∃ D:DataW Unit,e=.returned (.map (some w.heap.size))∧MapH w' w.heap.size l.length D∧MapIs D (lkH l)∧Below w.heap.size w w':=by
  have HR:Hid (RdL holdC w p q l):=hr;have hq1:l.length≤q:=hr.1;have hq2:q≤2 ^ 63-1:=hr.2.1;have HS:Hid (Rise l∧∀ h∈l,okH h=true):=⟨hs,ho⟩;have HL:Hid (l.length≤1000):=hl;have O1:=World.ownsMap_made (H:=Unit) w Tryz.prog 2 (plainElem Tryz.prog 2);have BW:=zA w (.map #[] 0);have hmm:=zNP
  have M0:MapIs (.map []) (lkH (l.take 0)):=by
    have:lkH (l.take 0)=fun _=>none:=funext fun k=>zK5 l k
    rw[this];exact MapIs.nil
  clear hr hs ho hl;go_enter Tryz.func20,Tryz.ntmps20;go_wp2_with fail
  go_loopw [11] (fun i wr=>∃ (k:Nat) (D:DataW Unit),k≤l.length∧i=.int .i64 k∧MapH wr w.heap.size k D∧MapIs D (lkH (l.take k))∧Below w.heap.size w wr)
    (fun i _=>l.length-(intOf i).toNat)
  case atStart=>exact⟨0,_,Nat.zero_le _,rfl,O1,M0,BW⟩
  case round=>
    clear O1 BW hmm M0;obtain⟨k,D,hk,rfl,ho,hm,BW⟩:=hrel
    by_cases hlt:k<l.length
    · have hI:(k:Int)<(l.length:Int):=by omega
      obtain⟨b,o,e1,hc⟩:=(HR.out.keep BW).2.2.2 (by omega);subst e1;obtain⟨a,ha⟩:∃ a,l[k]?=some a:=⟨l[k],by simp[hlt]⟩;obtain⟨us,hrep,hcell⟩:=hc k a ha;obtain rfl:=zBS hrep;have m0:=hcell 0 _ rfl;have m1:=hcell 1 _ rfl;rw[show holdC.n=2 from rfl] at m0 m1;rw[Nat.add_zero] at m0;have hpa:=zCU (HS.out.2 a (List.mem_of_getElem? ha));have HW1:Hid ((Lit.int .i64 a.1).wf=true):=wf64 (by omega) (by omega);have HW2:Hid (plainElem (H:=Unit) Tryz.prog 2 (.int .i64 a.2)=some (.lit (.int .i64 a.2),[])):=plainElem_int Tryz.underlying2 (wf64 (by omega) (by omega));have hal:=zA wr (.cells #[.int .i64 a.1,.int .i64 a.2] 81);have ho2:=ho.keep hal;have BW2:=Below.step BW hal
      have HM:Hid (MapIs (D.put (.int .i64 a.1) (.lit (.int .i64 a.2))) (lkH (l.take (k+1)))):=by
        show MapIs _ _
        rw[zHp HS.out.1 ha];exact hm.put ho.isMap _ _ (lawH.key (keyH _ HW1.out))
      clear hc hcell hrep hpa hm ho BW hal;go_wp2_with (at_mapUpdate;refine wpList_mapUpdate_own _ rfl _ _ _ 49 rfl 2 2 lawH Tryz.underlying49 _ w.heap.size k D rfl ho2 (by have:=HL.out;unfold maxLen;omega) (.int .i64 a.1) (.int .i64 a.2) _ rfl rfl (keyH _ HW1.out) (.lit (.int .i64 a.2)) [] HW2.out ?_;intro w6 ho6 hg6);have BW6:=BW2.grown hg6 BW2.size (fun j hj=>by cases hj;exact Nat.le_refl _);clear ho2 hg6 BW2;go_roundw
      case rel=>exact⟨k+1,_,by omega,by go_num,ho6,HM.out,BW6⟩
      case measure=>simp[intOf];omega
    · have e:k=l.length:=by omega
      subst e;rw[List.take_length] at hm;go_wp2_with fail;go_ret;exact⟨D,rfl,ho,hm,BW⟩
theorem zG0 (b n:Nat) (D:DataW Unit) (f:Int→Option Int) (id:Int) (w:World) (ho:MapH w b n D) (hm:MapIs D f) (hid:(Lit.int .i64 id).wf=true):
    Calls Tryz.prog 73 #[.map (some b),.int .i64 id] w fun e w'=>e=.returned (.bool (f id).isSome)∧w'=w:=by
  have HI:Hid ((Lit.int .i64 id).wf=true):=hid;have h1:Hid (Go.Maps.has D (.int .i64 id)=(f id).isSome):=(hm id).1;clear hm hid;go_enter Tryz.func73,Tryz.ntmps73;go_wp2_with (at_lookup;refine wpList_lookup_own_ok_int _ rfl _ _ 49 rfl 2 2 .i64 lawH Tryz.underlying49 Tryz.underlying2 (zK6 _) b n D rfl ho (.int .i64 id) _ rfl (keyH _ HI.out) ?_;intro c hat hwc);go_ret;exact⟨by rw[← h1.out];rfl,rfl⟩
theorem zJs {w:World} {b n:Nat} {D:DataW Unit} {l:List zJ} (h:MapH w b n D) (hm:MapIs D (lkH l)) (hr:Rise l):(l.map (·.1)).Perm (Go.intKeys D):=by
  obtain⟨es,hD,hpw,-⟩:=h.entries lawH;obtain⟨es',hD',hko⟩:=h.keysOf
  obtain rfl:es=es':=by rw[hD] at hD';simpa using hD'
  subst hD;refine Go.perm_intKeys hpw (fun p hp=>by obtain⟨v,hv⟩:=hko p hp;obtain⟨x,_,hx,_⟩:=Go.Maps.keyOf_i64 Tryz.underlying2 hv;exact⟨x,hx⟩) ?_ (fun x=>?_)
  · exact(List.pairwise_map.2 (hr.imp fun h e=>by omega))
  · rw[(hm x).1,zFe,hasH_iff,List.mem_map]
theorem zG1 {l:List zJ} (hr:Rise l):(l.map (·.1)).mergeSort (fun x y=>decide (x≤y))=l.map (·.1):=
  List.mergeSort_of_pairwise (List.pairwise_map.2 (hr.imp fun h=>by simp;omega))
theorem zJt:(Tryz.prog.info? 81).map (fun i=>(i.zero,i.size,i.bytes))=some (some (.agg #[.int .i64 0,.int .i64 0]),2,16):=by kernel_rfl
theorem zGO (b n:Nat) (D:DataW Unit) (l:List zJ) (w:World) (ho:MapH w b n D) (hm:MapIs D (lkH l)) (hr:Rise l) (hk:∀ h∈l,okH h=true) (hl:l.length≤1000) (hn:n≤1000):
    Calls Tryz.prog 53 #[.map (some b)] w fun e w'=>∃ v,e=.returned v∧w'.ownsRow w.heap.size 81 2 v l.length (zAV l)∧Below w.heap.size w w':=by
  obtain⟨i0,hi,hz0,hz1,hz2⟩:=info_parts zJt;have HO:Hid (MapH w b n D):=ho;have HMI:Hid (MapIs D (lkH l)):=hm;have HR:Hid (Rise l∧(∀ h∈l,okH h=true)∧l.length≤1000):=⟨hr,hk,hl⟩;have hal:=zA w (.cells #[.map (some b)] 49);have K1:=zK4 (some b) w;have hsz:Maps.size D≤1000:=Nat.le_trans ho.size_le hn;have K2:=zGN b n w.heap.size D (plainElem Tryz.prog 2) (w.alloc (.cells #[.map (some b)] 49)) (by rw[zD];omega) ((Arr.new w [.map (some b)] 49).cell 0) (ho.keep hal) (by unfold maxLen;omega) (by omega)
  have HP:Hid (∀ ss:List Int,ss.Perm (Go.intKeys D)→ss.mergeSort (fun x y=>decide (x≤y))=l.map (·.1)∧ss.length=l.length):=fun ss hs=>by
    have h1:ss.Perm (l.map (·.1)):=hs.trans (zJs ho hm hr).symm;exact⟨(Go.mergeSort_of_perm_i h1).trans (zG1 hr),by rw[h1.length_eq,List.length_map]⟩
  clear ho hm hr hk hl hn hsz;go_enter Tryz.func53,Tryz.ntmps53;go_wp2_with fail;refine K1.mono ?_;rintro e w1 ⟨rfl,hw⟩;rw[hw];clear hw w1 K1;go_wp2_with fail;refine K2.mono ?_;rintro e w2 ⟨v2,ss,rfl,hp,hrow,-,hb2⟩;obtain⟨hp1,hp2⟩:=HP.out ss hp;rw[hp1,hp2] at hrow;have BW:=Below.step hal hb2;obtain⟨p2,q2,rfl,r2⟩:=zT hrow;have HR2:Hid (Raw w2 p2 q2 l.length 1 ((l.map (·.1)).map encZ)):=r2;have hq1:l.length≤q2:=r2.2.1;have hq2:q2≤2 ^ 63-1:=r2.2.2.1;have HB2:Hid (w.heap.size≤w2.heap.size):=BW.size;clear K2 hp hp1 hp2 hrow hb2 hal r2 HP;go_wp2_with fail
  go_loopw [3,10] (fun v i wr=>∃ k:Nat,k≤l.length∧i=.int .i64 k∧wr.ownsRow w2.heap.size 81 2 v k (zAV (l.take k))∧Below w2.heap.size w2 wr)
    (fun _ i _=>l.length-(intOf i).toNat)
  case atStart=>exact⟨0,Nat.zero_le _,rfl,⟨rfl,.inl ⟨rfl,rfl⟩⟩,Below.refl _ _⟩
  case round=>
    obtain⟨k,hk,rfl,hrow,BX⟩:=hrel;have BWx:=Below.step BW BX
    by_cases hlt:k<l.length
    · have hI:(k:Int)<(l.length:Int):=by omega
      obtain⟨b5,o5,e1,hcc⟩:=(HR2.out.keep BX).2.2.2.2 (by omega);subst e1;obtain⟨a,ha⟩:∃ a,l[k]?=some a:=⟨l[k],by simp[hlt]⟩;have c0:=hcc k (.int .i64 a.1) (by rw[List.getElem?_map,List.getElem?_map,ha];rfl);have hpa:=zCU (HR.out.2.1 a (List.mem_of_getElem? ha));have HW1:Hid ((Lit.int .i64 a.1).wf=true):=wf64 (by omega) (by omega);have hoD:=HO.out.keep BWx
      have HA:Hid (D.atKey (.int .i64 a.1) (.lit (.int .i64 0))=.lit (.int .i64 a.2)):=by show _=_;rw[(HMI.out a.1).2,zJr HR.out.1 ha];rfl
      have HCT:Hid (zAV (l.take (k+1))=zAV (l.take k)++[.int .i64 a.1,.int .i64 a.2]):=by show _=_;rw[List.take_add_one,ha];exact zC0 _ _
      have HL:Hid (k≤1000):=by show _≤_;have:=HR.out.2.2;omega
      obtain⟨pv,qv,rfl,rv⟩:=zT hrow;have HBX:Hid (w2.heap.size≤wr.heap.size):=BX.size
      have HLT:Hid (∀ j,(Value.slice pv k qv).ownBlock=some j→w2.heap.size≤j):=fun j hj=>(World.ownsRow.lt hrow j hj).1
      have hrow2:=zM (w':=wr.alloc (.cells #[.int .i64 a.1,.int .i64 a.2] 81)) hrow (fun j hj=>Below.heap_alloc _ _ j (World.ownsRow.lt hrow j hj).2);have hal:=zA wr (.cells #[.int .i64 a.1,.int .i64 a.2] 81)
      have hnew:∀ j u,([.int .i64 a.1,.int .i64 a.2]:List Value)[j]?=some u→(wr.alloc (.cells #[.int .i64 a.1,.int .i64 a.2] 81)).cell? ((⟨wr.heap.size,0,none⟩:Addr).add j)=some u:=fun j u hj=>(Arr.new wr [.int .i64 a.1,.int .i64 a.2] 81).cells j u hj
      have BX2:=Below.step BX hal;clear hcc hpa rv hrow BWx hal BX
      go_wp2_with (first
        | (at_lookup;refine wpList_lookup_own_int _ rfl _ _ 49 rfl 2 2 .i64 lawH Tryz.underlying49 Tryz.underlying2 (zK6 _) b n D rfl hoD (.int .i64 a.1) _ rfl (keyH _ HW1.out) ?_;intro c hat hwc;obtain rfl:c=a.2:=by { rw[HA.out] at hat;injection hat with h1;injection h1 with _ h2;exact h2.symm })
        | (at_builtin;refine wpList_append_lies _ rfl (.tmp 14) (.tmp 20) 25 rfl w2.heap.size 81 i0 (.agg #[.int .i64 0,.int .i64 0]) 2 16 Tryz.underlying25 hi hz0 hz1 hz2 rfl (by decide) (.slice pv k qv) k (zAV (l.take k)) rfl hrow2 ⟨wr.heap.size,0,none⟩ 1 1 [.int .i64 a.1,.int .i64 a.2] rfl rfl hnew (by intro u hu;simp at hu;rcases hu with rfl | rfl <;> rfl) (by decide) (by have:=HL.out;unfold maxLen;omega) (by have:=HL.out;omega) BX2.size _ rfl ?_;intro g6 c6 w6 hown6 hgrow6 hat6 hlt6))
      have BX6:=BX2.grown hgrow6 BX2.size (fun j hj=>HLT.out j hj);rw[← HCT.out] at hown6;clear hrow2 hoD hnew hgrow6 hat6 hlt6 BX2 HLT HCT c0;go_roundw
      case rel=>exact⟨k+1,by omega,by go_num,hown6,BX6⟩
      case measure=>simp[intOf];omega
    · have e:k=l.length:=by omega
      subst e;rw[List.take_length] at hrow;have hrow2:=zAo hrow HB2.out;obtain⟨pv,qv,rfl,-⟩:=zT hrow;clear hrow BX;go_wp2_with fail;go_ret;exact⟨_,rfl,hrow2,BWx⟩
theorem zK7 (x:SesD) (us:List Value) (id now:Int) (w:World) (h:sessionC.rep w x us) (hid:(Lit.int .i64 id).wf=true):
    Calls Tryz.prog 12 #[.agg us.toArray,.int .i64 id,.int .i64 now] w fun e w'=>e=.returned (.bool (hoB hdC x id now))∧Below w.heap.size w w':=by
  obtain⟨p1,q1,p3,q3,p4,q4,p5,q5,rfl,r1,r3,r4,r5⟩:=zN h;have HI:Hid ((Lit.int .i64 id).wf=true):=hid;have BW:=zA w (.cells #[.slice p1 x.1.length q1,.int .i64 x.2.1,.slice p3 x.2.2.1.length q3,.slice p4 x.2.2.2.1.length q4,.slice p5 x.2.2.2.2.length q5] 27);have R:=Arr.new w [.slice p1 x.1.length q1,.int .i64 x.2.1,.slice p3 x.2.2.1.length q3,.slice p4 x.2.2.2.1.length q4,.slice p5 x.2.2.2.2.length q5] 27;have c0:=zQ (R.cell 0) rfl;have c1:=zQ (R.cell 1) rfl;have c2:=zQ (R.cell 2) rfl;have c3:=zQ (R.cell 3) rfl;have c4:=zQ (R.cell 4) rfl;have K1:=zBB x _ _ (sessionC.keep h BW);have R5:Hid (RdL holdC w p5 q5 x.2.2.2.2):=r5;have HS:Hid (seF hdC x=0→Ses x):=seC_iff.1;have HE:Hid (hoB hdC x id now=if seF hdC x=0 then hnB x.2.2.2.2 id now else false):=rfl;clear h hid r1 r3 r4 r5;go_enter Tryz.func12,Tryz.ntmps12;go_wp2_with fail;refine K1.mono ?_;rintro e w1 ⟨rfl,hb⟩;replace R:=R.stay hb;replace BW:=Below.step BW hb;clear K1 hb c0 c1 c2 c3 c4
  by_cases h0:seF hdC x=0
  case neg=>
    have dk:(seF hdC x != 0)=true:=by rw[bne_iff_ne];exact h0
    have hz:Hid (hoB hdC x id now=false):=by show _=_;rw[HE.out,if_neg h0]
    clear HE HS h0 R;go_wp2_with fail;go_ret;exact⟨by rw[hz.out];rfl,BW⟩
  have hS:=HS.out h0
  have hz:Hid (hoB hdC x id now=hnB x.2.2.2.2 id now):=by show _=_;rw[HE.out,if_pos h0]
  have K2:=zE5 x.2.2.2.2 p5 q5 w1 (R5.out.keep BW) hS.rs hS.ok (by have:=hS.ln.2.2;omega);have HN:=zMx (k:=id) (now:=now) hS.rs;rw[h0];have c4:=zQ (R.cell 4) rfl;clear HE HS h0 hS;go_wp2_with fail;refine K2.mono ?_;rintro e w2 ⟨D,rfl,ho,hm,hb⟩;replace BW:=Below.step BW hb;have h1:=(hm id).1;have h2:Hid (D.atKey (.int .i64 id) (.lit (.int .i64 0))=.lit (.int .i64 ((lkH x.2.2.2.2 id).getD 0))):=(hm id).2;clear K2 hb hm c4 R;cases hf:lkH x.2.2.2.2 id with
  | none=>
    rw[hf] at h1 HN h2
    have hz2:Hid (hoB hdC x id now=false):=by show _=_;rw[hz.out,HN]
    have h3:Go.Maps.has D (.int .i64 id)=false:=h1;clear hz HN h1 h2 hf;go_wp2_with (at_lookup;refine wpList_lookup_own_ok_int _ rfl _ _ 49 rfl 2 2 .i64 lawH Tryz.underlying49 Tryz.underlying2 (zK6 _) _ _ D rfl ho (.int .i64 id) _ rfl (keyH _ HI.out) ?_;intro c hat hwc;rw[h3]);go_ret;exact⟨by rw[hz2.out];rfl,BW⟩
  | some u=>
    rw[hf] at h1 HN h2;have h3:Go.Maps.has D (.int .i64 id)=true:=h1
    have hz2:Hid (hoB hdC x id now=decide (now≤u)):=by show _=_;rw[hz.out,HN]
    clear hz HN h1 hf;go_wp2_with (at_lookup;refine wpList_lookup_own_ok_int _ rfl _ _ 49 rfl 2 2 .i64 lawH Tryz.underlying49 Tryz.underlying2 (zK6 _) _ _ D rfl ho (.int .i64 id) _ rfl (keyH _ HI.out) ?_;intro c hat hwc;rw[h3];obtain rfl:c=u:=by { rw[h2.out] at hat;injection hat with h1;injection h1 with _ h2;exact h2.symm });go_ret;exact⟨by rw[hz2.out];rfl,BW⟩
end Go.Proofs.YtbaldmmbphbinaaGreatDoor
