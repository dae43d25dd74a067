/- RevokeIn, TimeIn and AskContext of the program, at every argument (written by tools/ses_o.py). What was there stays. -/
import Derived.Test.YtflhoefocjmihaaSesC
namespace Go.Proofs.Ytflhoefocjmihaa
open Go.ChangeShapes Go.WideShapes Go.ChangeAt Go.RowKit

def rvD (x : SesD) (id : Int) : SessionResultD := if rvC hdC x id = 0 then (0, 0, revN x id) else (rvC hdC x id, 0, zeroSes)
def tmD (x : SesD) (now : Int) : SessionResultD := if tmC hdC x now = 0 then (0, 0, timN x now) else (tmC hdC x now, 0, zeroSes)
def acD (x : SesD) (c : List UInt8) : SessionResultD := if acC hdC x c = 0 then (0, 0, askN x c) else (acC hdC x c, 0, zeroSes)
theorem lkH_go {l : List HeldD} {id : Int} : lkH (goN l id) = fun j => if j = id then none else lkH l j := by
  funext j
  unfold lkH goN
  induction l with
  | nil => simp
  | cons a l ih =>
    by_cases h1 : a.1 = id
    · rw [List.filter_cons_of_neg (by simp [h1]), ih]
      by_cases h2 : j = id
      · rw [if_pos h2, if_pos h2]
      · have h3 : (a.1 == j) = false := by rw [beq_eq_false_iff_ne, h1]; exact fun e => h2 e.symm
        rw [if_neg h2, if_neg h2]
        simp [h3]
    · rw [List.filter_cons_of_pos (by simp [h1])]
      by_cases h4 : a.1 = j
      · have h5 : ¬ j = id := fun e => h1 (h4.trans e)
        rw [if_neg h5]
        simp [h4]
      · have h3 : (a.1 == j) = false := by rw [beq_eq_false_iff_ne]; exact h4
        simp only [List.find?_cons, h3]
        exact ih
theorem goN_ok {l : List HeldD} {id : Int} (h : ∀ a ∈ l, okH a = true) : ∀ a ∈ goN l id, okH a = true := fun a ha => h a (List.mem_filter.1 ha).1
theorem goN_rise {l : List HeldD} {id : Int} (h : Rise l) : Rise (goN l id) := List.Pairwise.filter _ h
theorem goN_le (l : List HeldD) (id : Int) : (goN l id).length ≤ l.length := List.length_filter_le _ _
/-- What is held behind the first k that were looked at. -/
def nowK (l : List HeldD) (now : Int) (k : Nat) : List HeldD := nowN (l.take k) now ++ l.drop k
theorem nowK_zero (l : List HeldD) (now : Int) : nowK l now 0 = l := by simp [nowK, nowN]
theorem nowK_end (l : List HeldD) (now : Int) : nowK l now l.length = nowN l now := by simp [nowK]
theorem nowK_keep {l : List HeldD} {now : Int} {k : Nat} {a : HeldD} (ha : l[k]? = some a) (h : now ≤ a.2) : nowK l now (k + 1) = nowK l now k := by
  unfold nowK nowN
  rw [List.take_add_one, ha, drop_at ha, List.filter_append]
  simp [h]
theorem nowK_rise {l : List HeldD} {now : Int} {k : Nat} (h : Rise l) : Rise (nowK l now k) := by
  have h2 : (nowK l now k).Sublist l := by
    unfold nowK nowN
    conv => rhs; rw [← List.take_append_drop k l]
    exact List.Sublist.append List.filter_sublist (List.Sublist.refl _)
  exact List.Pairwise.sublist h2 h
theorem nowK_go {l : List HeldD} {now : Int} {k : Nat} {a : HeldD} (hr : Rise l) (ha : l[k]? = some a) (h : a.2 < now) : goN (nowK l now k) a.1 = nowK l now (k + 1) := by
  obtain ⟨hk, he⟩ := List.getElem?_eq_some_iff.1 ha
  have n1 : ∀ x ∈ l.take k, ¬ x.1 = a.1 := fun x hx e => by
    obtain ⟨j, hj⟩ := List.mem_iff_getElem?.1 hx
    have hjk : j < k := by
      have := (List.getElem?_eq_some_iff.1 hj).1
      rw [List.length_take] at this
      omega
    rw [List.getElem?_take_of_lt hjk] at hj
    obtain ⟨hj1, hj2⟩ := List.getElem?_eq_some_iff.1 hj
    have := List.pairwise_iff_getElem.1 hr j k hj1 hk hjk
    rw [hj2, he] at this; omega
  have n2 : ∀ x ∈ l.drop (k + 1), ¬ x.1 = a.1 := fun x hx e => by
    obtain ⟨j, hj⟩ := List.mem_iff_getElem?.1 hx
    rw [List.getElem?_drop] at hj
    obtain ⟨hj1, hj2⟩ := List.getElem?_eq_some_iff.1 hj
    have := List.pairwise_iff_getElem.1 hr k (k + 1 + j) hk hj1 (by omega)
    rw [hj2, he] at this; omega
  have h3 : ¬ now ≤ a.2 := by omega
  have e1 : goN (nowN (l.take k) now) a.1 = nowN (l.take k) now := List.filter_eq_self.2 fun x hx => by simpa using n1 x (List.mem_filter.1 hx).1
  have e2 : goN (l.drop (k + 1)) a.1 = l.drop (k + 1) := List.filter_eq_self.2 fun x hx => by simpa using n2 x hx
  have e3 : nowN (l.take (k + 1)) now = nowN (l.take k) now := by
    unfold nowN
    rw [List.take_add_one, ha, List.filter_append]
    simp [h3]
  unfold nowK
  rw [e3, drop_at ha]
  show (nowN (l.take k) now ++ a :: l.drop (k + 1)).filter _ = _
  rw [List.filter_append, List.filter_cons_of_neg (by simp)]
  show goN _ _ ++ goN _ _ = _
  rw [e1, e2]
set_option maxRecDepth 4000 in
set_option maxHeartbeats 2000000 in
theorem implRv_k (x : SesD) (us : List Value) (id : Int) (w : World) (h : sessionC.rep w x us) (hid : (Lit.int .i64 id).wf = true) :
    Calls Try.prog 10 #[.agg us.toArray, .int .i64 id] w fun e w' => ∃ vs fp, e = .returned (.agg vs.toArray) ∧ sessionResultC.own w' w.heap.size (rvD x id) vs fp ∧ Below w.heap.size w w' := by
  obtain ⟨p1, q1, p3, q3, p4, q4, p5, q5, rfl, r1, r3, r4, r5⟩ := session_rep h
  have A0 := Arr.new w [.slice p1 x.1.length q1, .int .i64 x.2.1, .slice p3 x.2.2.1.length q3, .slice p4 x.2.2.2.1.length q4, .slice p5 x.2.2.2.2.length q5] 27
  have B0 := alloc_below w (.cells #[.slice p1 x.1.length q1, .int .i64 x.2.1, .slice p3 x.2.2.1.length q3, .slice p4 x.2.2.2.1.length q4, .slice p5 x.2.2.2.2.length q5] 27)
  have R := Arr.new (w.alloc (.cells #[.slice p1 x.1.length q1, .int .i64 x.2.1, .slice p3 x.2.2.1.length q3, .slice p4 x.2.2.2.1.length q4, .slice p5 x.2.2.2.2.length q5] 27)) [.int .i64 0, .int .i64 0, .slice none 0 0, .int .i64 0, .slice none 0 0, .slice none 0 0, .slice none 0 0] 31
  rw [size_alloc] at R
  have A := A0.old _ (.cells #[.int .i64 0, .int .i64 0, .slice none 0 0, .int .i64 0, .slice none 0 0, .slice none 0 0, .slice none 0 0] 31)
  have BW := Below.mk B0 (.cells #[.int .i64 0, .int .i64 0, .slice none 0 0, .int .i64 0, .slice none 0 0, .slice none 0 0, .slice none 0 0] 31)
  have hres : Hid ((Try.prog.info? 31).map (·.size) = some 7) := by show _ = _; kernel_rfl
  have hz2 : Hid (((w.alloc (.cells #[.slice p1 x.1.length q1, .int .i64 x.2.1, .slice p3 x.2.2.1.length q3, .slice p4 x.2.2.2.1.length q4, .slice p5 x.2.2.2.2.length q5] 27)).alloc (.cells #[.int .i64 0, .int .i64 0, .slice none 0 0, .int .i64 0, .slice none 0 0, .slice none 0 0, .slice none 0 0] 31)).heap.size = w.heap.size + 2) := by show _ = _; rw [size_alloc, size_alloc]
  have HREP : Hid (∀ V, Below w.heap.size w V → sessionC.rep V x [.slice p1 x.1.length q1, .int .i64 x.2.1, .slice p3 x.2.2.1.length q3, .slice p4 x.2.2.2.1.length q4, .slice p5 x.2.2.2.2.length q5]) := fun V hV => sessionC.keep h hV
  have R5 : Hid (∀ V, Below w.heap.size w V → RdL holdC V p5 q5 x.2.2.2.2) := fun V hV => r5.keep hV
  have HS : Hid (seF hdC x = 0 → Ses x) := seC_iff.1
  have hln5 : x.2.2.2.2.length ≤ q5 := r5.1
  have hqn5 : q5 ≤ 2 ^ 63 - 1 := r5.2.1
  have HI : Hid ((Lit.int .i64 id).wf = true) := hid
  have HE : Hid (rvC hdC x id = if seF hdC x = 0 then (if hasH x.2.2.2.2 id then 0 else 4) else seF hdC x) := rfl
  have HD1 : Hid (rvC hdC x id ≠ 0 → rvD x id = (rvC hdC x id, 0, zeroSes)) := fun k => by unfold rvD; rw [if_neg k]
  have HD0 : Hid (rvC hdC x id = 0 → rvD x id = (0, 0, revN x id)) := fun k => by unfold rvD; rw [if_pos k]
  have K1 := sessFault_k x _ _ (sessionC.keep h BW)
  have c0 := (A.cell 0).trans (show _ = some _ from rfl)
  have c1 := (A.cell 1).trans (show _ = some _ from rfl)
  have c2 := (A.cell 2).trans (show _ = some _ from rfl)
  have c3 := (A.cell 3).trans (show _ = some _ from rfl)
  have c4 := (A.cell 4).trans (show _ = some _ from rfl)
  clear h hid r1 r3 r4 r5 A0 B0
  go_enter Try.func10, Try.ntmps10
  go_wp2_with fail
  generalize hV : (w.alloc (.cells #[.slice p1 x.1.length q1, .int .i64 x.2.1, .slice p3 x.2.2.1.length q3, .slice p4 x.2.2.2.1.length q4, .slice p5 x.2.2.2.2.length q5] 27)).alloc (.cells #[.int .i64 0, .int .i64 0, .slice none 0 0, .int .i64 0, .slice none 0 0, .slice none 0 0, .slice none 0 0] 31) = V at *
  have hzV : Hid (V.heap.size = w.heap.size + 2) := hz2.out
  clear hV hz2
  refine K1.mono ?_
  rintro e w1 ⟨rfl, hb⟩
  replace R := R.stay hb
  replace A := A.stay hb
  replace BW := Below.step BW hb
  have hz1 : Hid (w.heap.size + 2 ≤ w1.heap.size) := by have h := hb.size; rw [hzV.out] at h; exact h
  clear K1 hb c0 c1 c2 c3 c4 hzV
  by_cases h0 : seF hdC x = 0
  case neg =>
    have dk : (seF hdC x != 0) = true := by rw [bne_iff_ne]; exact h0
    have he : rvC hdC x id = seF hdC x := by rw [HE.out, if_neg h0]
    have HC : Hid (rvD x id = (seF hdC x, 0, zeroSes)) := by show _ = _; rw [HD1.out (by rw [he]; exact h0), he]
    clear HE HS h0 A HD0 HD1 he
    generalize seF hdC x = k at *
    go_wp2_with (refine wpList_store_row rfl 31 _ _ rfl (w.heap.size + 1) #[.int .i64 k, .int .i64 0, .slice none 0 0, .int .i64 0, .slice none 0 0, .slice none 0 0, .slice none 0 0] rfl rfl 31 #[.int .i64 0, .int .i64 0, .slice none 0 0, .int .i64 0, .slice none 0 0, .slice none 0 0, .slice none 0 0] R hres.out rfl (by simp [Value.oneCell']) ?_)
    exact bodyPost_ret (v := .agg #[.int .i64 k, .int .i64 0, .slice none 0 0, .int .i64 0, .slice none 0 0, .slice none 0 0, .slice none 0 0]) (results_cell_row Try.results10 _ _ (w.heap.size + 1) 31 _ (0, 0) _ rfl (R.row [.int .i64 k, .int .i64 0, .slice none 0 0, .int .i64 0, .slice none 0 0, .slice none 0 0, .slice none 0 0]) Try.underlying31 rfl hres.out) rfl ⟨_, _, rfl, by rw [HC.out]; exact sesR_own zeroSes_own, Below.row BW (Nat.le_succ _) _⟩
  have hS : Hid (Ses x) := HS.out h0
  have he : rvC hdC x id = if hasH x.2.2.2.2 id then 0 else 4 := by rw [HE.out, if_pos h0]
  have K2 := untilsOf_c x.2.2.2.2 p5 q5 w1 (R5.out _ BW) hS.out.rs hS.out.ok (by have := hS.out.ln.2.2; omega)
  rw [h0]
  have c4 := (A.cell 4).trans (show _ = some _ from rfl)
  clear HE HS h0
  go_wp2_with fail
  refine K2.mono ?_
  rintro e w2 ⟨D, rfl, ho, hm, hb⟩
  replace R := R.stay hb
  replace A := A.stay hb
  have BW2 := Below.step BW hb
  have hz2 : Hid (w.heap.size + 2 ≤ w2.heap.size) := Nat.le_trans hz1.out hb.size
  have K3 := untilsHas_c w1.heap.size x.2.2.2.2.length D (lkH x.2.2.2.2) id w2 ho hm HI.out
  rw [lkH_has] at K3
  have HW1 : Hid (w.heap.size ≤ w1.heap.size) := BW.size
  clear K2 hb c4 BW
  have BW := BW2
  clear BW2
  go_wp2_with fail
  refine K3.mono ?_
  rintro e w3 ⟨rfl, hw⟩
  rw [hw]
  clear hw w3 K3
  cases hh : hasH x.2.2.2.2 id
  · have he2 : rvC hdC x id = 4 := by rw [he, hh]; rfl
    have HC : Hid (rvD x id = (4, 0, zeroSes)) := by show _ = _; rw [HD1.out (by rw [he2]; decide), he2]
    clear he he2 hh HD0 HD1 A ho hm
    go_wp2_with (refine wpList_store_row rfl 31 _ _ rfl (w.heap.size + 1) #[.int .i64 4, .int .i64 0, .slice none 0 0, .int .i64 0, .slice none 0 0, .slice none 0 0, .slice none 0 0] rfl rfl 31 #[.int .i64 0, .int .i64 0, .slice none 0 0, .int .i64 0, .slice none 0 0, .slice none 0 0, .slice none 0 0] R hres.out rfl (by simp [Value.oneCell']) ?_)
    exact bodyPost_ret (v := .agg #[.int .i64 4, .int .i64 0, .slice none 0 0, .int .i64 0, .slice none 0 0, .slice none 0 0, .slice none 0 0]) (results_cell_row Try.results10 _ _ (w.heap.size + 1) 31 _ (0, 0) _ rfl (R.row [.int .i64 4, .int .i64 0, .slice none 0 0, .int .i64 0, .slice none 0 0, .slice none 0 0, .slice none 0 0]) Try.underlying31 rfl hres.out) rfl ⟨_, _, rfl, by rw [HC.out]; exact sesR_own zeroSes_own, Below.row BW (Nat.le_succ _) _⟩
  have HC : Hid (rvD x id = (0, 0, revN x id)) := HD0.out (by rw [he, hh]; rfl)
  have c0 := (A.cell 0).trans (show _ = some _ from rfl)
  have c1 := (A.cell 1).trans (show _ = some _ from rfl)
  have c2 := (A.cell 2).trans (show _ = some _ from rfl)
  have c3 := (A.cell 3).trans (show _ = some _ from rfl)
  have c4 := (A.cell 4).trans (show _ = some _ from rfl)
  clear he hh HD0 HD1
  have HM : Hid (MapIs (D.del (.int .i64 id)) (lkH (goN x.2.2.2.2 id))) := by show MapIs _ _; rw [lkH_go]; exact hm.del id
  clear hm c0 c1 c2 c3 c4
  go_wp2_with (at_delete; refine wpList_delete_own _ rfl _ _ 45 2 rfl 2 lawH Try.underlying45 _ w1.heap.size _ D rfl ho _ _ rfl (keyH _ HI.out) ?_; intro w4 ho4 hturn4; have hg4 := hturn4.grown; have A4 := A.other hg4 (fun e => by have h9 := Option.some.inj e; have := hz1.out; omega); have R4 := R.other hg4 (fun e => by have h9 := Option.some.inj e; have := hz1.out; omega); have BW4 := BW.grown hg4 BW.size (fun k hk => by cases hk; exact HW1.out); have hz4 : Hid (w.heap.size + 2 ≤ w4.heap.size) := Nat.le_trans hz2.out hg4.size; have c0 := (A4.cell 0).trans (show _ = some _ from rfl); have c1 := (A4.cell 1).trans (show _ = some _ from rfl); have c2 := (A4.cell 2).trans (show _ = some _ from rfl); have c3 := (A4.cell 3).trans (show _ = some _ from rfl); have c4 := (A4.cell 4).trans (show _ = some _ from rfl))
  clear ho hturn4 hg4 A R BW c0 c1 c2 c3 c4 A4
  have R := R4
  have BW := BW4
  clear R4 BW4
  refine (ownSession_c x _ (goN x.2.2.2.2 id) w1.heap.size x.2.2.2.2.length _ w4 (HREP.out _ BW) hS.out ho4 HM.out (goN_rise hS.out.rs) (goN_ok hS.out.ok) (by have := goN_le x.2.2.2.2 id; have := hS.out.ln.2.2; omega) (by have := hS.out.ln.2.2; omega)).mono ?_
  rintro e w5 ⟨vs, fp, rfl, kS, hb⟩
  obtain ⟨s1, t1, s3, t3, s4, t4, s5, t5, rfl, -, -, -, -⟩ := session_rep (sessionC.toRep kS)
  replace R := R.stay hb
  replace BW := Below.step BW hb
  clear ho4 hb
  go_wp2_with (refine wpList_store_row rfl 31 _ _ rfl (w.heap.size + 1) #[.int .i64 0, .int .i64 0, .slice s1 x.1.length t1, .int .i64 x.2.1, .slice s3 x.2.2.1.length t3, .slice s4 x.2.2.2.1.length t4, .slice s5 (goN x.2.2.2.2 id).length t5] rfl rfl 31 #[.int .i64 0, .int .i64 0, .slice none 0 0, .int .i64 0, .slice none 0 0, .slice none 0 0, .slice none 0 0] R hres.out rfl (by simp [Value.oneCell']) ?_)
  exact bodyPost_ret (v := .agg #[.int .i64 0, .int .i64 0, .slice s1 x.1.length t1, .int .i64 x.2.1, .slice s3 x.2.2.1.length t3, .slice s4 x.2.2.2.1.length t4, .slice s5 (goN x.2.2.2.2 id).length t5]) (results_cell_row Try.results10 _ _ (w.heap.size + 1) 31 _ (0, 0) _ rfl (R.row [.int .i64 0, .int .i64 0, .slice s1 x.1.length t1, .int .i64 x.2.1, .slice s3 x.2.2.1.length t3, .slice s4 x.2.2.2.1.length t4, .slice s5 (goN x.2.2.2.2 id).length t5]) Try.underlying31 rfl hres.out) rfl ⟨_, _, rfl, by rw [HC.out]; exact sesR_own (sessionC.low (sessionC.rowS kS (by have := hz4.out; omega) _) (by have := hz4.out; omega)), Below.row BW (Nat.le_succ _) _⟩
theorem isNowS_c (v : Int) (w : World) : Calls Try.prog 18 #[.int .i64 v] w fun e w' => e = .returned (.bool (inB v 0 9999)) ∧ w' = w := by
  by_cases h1 : (0 : Int) ≤ v
  · by_cases h2 : v ≤ 9999
    · rw [inB_true h1 h2]
      go_enter Try.func18, Try.ntmps18
      go_wp2
      go_ret
      exact ⟨rfl, rfl⟩
    · rw [inB_false (by omega)]
      go_enter Try.func18, Try.ntmps18
      go_wp2
      go_ret
      exact ⟨rfl, rfl⟩
  · rw [inB_false (by omega)]
    go_enter Try.func18, Try.ntmps18
    go_wp2
    go_ret
    exact ⟨rfl, rfl⟩
set_option maxRecDepth 4000 in
set_option maxHeartbeats 2000000 in
theorem implTm_k (x : SesD) (us : List Value) (now : Int) (w : World) (h : sessionC.rep w x us) :
    Calls Try.prog 7 #[.agg us.toArray, .int .i64 now] w fun e w' => ∃ vs fp, e = .returned (.agg vs.toArray) ∧ sessionResultC.own w' w.heap.size (tmD x now) vs fp ∧ Below w.heap.size w w' := by
  obtain ⟨p1, q1, p3, q3, p4, q4, p5, q5, rfl, r1, r3, r4, r5⟩ := session_rep h
  have A0 := Arr.new w [.slice p1 x.1.length q1, .int .i64 x.2.1, .slice p3 x.2.2.1.length q3, .slice p4 x.2.2.2.1.length q4, .slice p5 x.2.2.2.2.length q5] 27
  have B0 := alloc_below w (.cells #[.slice p1 x.1.length q1, .int .i64 x.2.1, .slice p3 x.2.2.1.length q3, .slice p4 x.2.2.2.1.length q4, .slice p5 x.2.2.2.2.length q5] 27)
  have R := Arr.new (w.alloc (.cells #[.slice p1 x.1.length q1, .int .i64 x.2.1, .slice p3 x.2.2.1.length q3, .slice p4 x.2.2.2.1.length q4, .slice p5 x.2.2.2.2.length q5] 27)) [.int .i64 0, .int .i64 0, .slice none 0 0, .int .i64 0, .slice none 0 0, .slice none 0 0, .slice none 0 0] 31
  rw [size_alloc] at R
  have A := A0.old _ (.cells #[.int .i64 0, .int .i64 0, .slice none 0 0, .int .i64 0, .slice none 0 0, .slice none 0 0, .slice none 0 0] 31)
  have BW := Below.mk B0 (.cells #[.int .i64 0, .int .i64 0, .slice none 0 0, .int .i64 0, .slice none 0 0, .slice none 0 0, .slice none 0 0] 31)
  have hres : Hid ((Try.prog.info? 31).map (·.size) = some 7) := by show _ = _; kernel_rfl
  have hz2 : Hid (((w.alloc (.cells #[.slice p1 x.1.length q1, .int .i64 x.2.1, .slice p3 x.2.2.1.length q3, .slice p4 x.2.2.2.1.length q4, .slice p5 x.2.2.2.2.length q5] 27)).alloc (.cells #[.int .i64 0, .int .i64 0, .slice none 0 0, .int .i64 0, .slice none 0 0, .slice none 0 0, .slice none 0 0] 31)).heap.size = w.heap.size + 2) := by show _ = _; rw [size_alloc, size_alloc]
  have HREP : Hid (∀ V, Below w.heap.size w V → sessionC.rep V x [.slice p1 x.1.length q1, .int .i64 x.2.1, .slice p3 x.2.2.1.length q3, .slice p4 x.2.2.2.1.length q4, .slice p5 x.2.2.2.2.length q5]) := fun V hV => sessionC.keep h hV
  have R5 : Hid (∀ V, Below w.heap.size w V → RdL holdC V p5 q5 x.2.2.2.2) := fun V hV => r5.keep hV
  have HS : Hid (seF hdC x = 0 → Ses x) := seC_iff.1
  have hln5 : x.2.2.2.2.length ≤ q5 := r5.1
  have hqn5 : q5 ≤ 2 ^ 63 - 1 := r5.2.1
  have HE : Hid (tmC hdC x now = if seF hdC x = 0 then (if inB now 0 9999 then 0 else 3) else seF hdC x) := rfl
  have HD1 : Hid (tmC hdC x now ≠ 0 → tmD x now = (tmC hdC x now, 0, zeroSes)) := fun k => by unfold tmD; rw [if_neg k]
  have HD0 : Hid (tmC hdC x now = 0 → tmD x now = (0, 0, timN x now)) := fun k => by unfold tmD; rw [if_pos k]
  have K1 := sessFault_k x _ _ (sessionC.keep h BW)
  have c0 := (A.cell 0).trans (show _ = some _ from rfl)
  have c1 := (A.cell 1).trans (show _ = some _ from rfl)
  have c2 := (A.cell 2).trans (show _ = some _ from rfl)
  have c3 := (A.cell 3).trans (show _ = some _ from rfl)
  have c4 := (A.cell 4).trans (show _ = some _ from rfl)
  clear h r1 r3 r4 r5 A0 B0
  go_enter Try.func7, Try.ntmps7
  go_wp2_with fail
  generalize hV : (w.alloc (.cells #[.slice p1 x.1.length q1, .int .i64 x.2.1, .slice p3 x.2.2.1.length q3, .slice p4 x.2.2.2.1.length q4, .slice p5 x.2.2.2.2.length q5] 27)).alloc (.cells #[.int .i64 0, .int .i64 0, .slice none 0 0, .int .i64 0, .slice none 0 0, .slice none 0 0, .slice none 0 0] 31) = V at *
  have hzV : Hid (V.heap.size = w.heap.size + 2) := hz2.out
  clear hV hz2
  refine K1.mono ?_
  rintro e w1 ⟨rfl, hb⟩
  replace R := R.stay hb
  replace A := A.stay hb
  replace BW := Below.step BW hb
  have hz1 : Hid (w.heap.size + 2 ≤ w1.heap.size) := by have h := hb.size; rw [hzV.out] at h; exact h
  clear K1 hb c0 c1 c2 c3 c4 hzV
  by_cases h0 : seF hdC x = 0
  case neg =>
    have dk : (seF hdC x != 0) = true := by rw [bne_iff_ne]; exact h0
    have he : tmC hdC x now = seF hdC x := by rw [HE.out, if_neg h0]
    have HC : Hid (tmD x now = (seF hdC x, 0, zeroSes)) := by show _ = _; rw [HD1.out (by rw [he]; exact h0), he]
    clear HE HS h0 A HD0 HD1 he
    generalize seF hdC x = k at *
    go_wp2_with (refine wpList_store_row rfl 31 _ _ rfl (w.heap.size + 1) #[.int .i64 k, .int .i64 0, .slice none 0 0, .int .i64 0, .slice none 0 0, .slice none 0 0, .slice none 0 0] rfl rfl 31 #[.int .i64 0, .int .i64 0, .slice none 0 0, .int .i64 0, .slice none 0 0, .slice none 0 0, .slice none 0 0] R hres.out rfl (by simp [Value.oneCell']) ?_)
    exact bodyPost_ret (v := .agg #[.int .i64 k, .int .i64 0, .slice none 0 0, .int .i64 0, .slice none 0 0, .slice none 0 0, .slice none 0 0]) (results_cell_row Try.results7 _ _ (w.heap.size + 1) 31 _ (0, 0) _ rfl (R.row [.int .i64 k, .int .i64 0, .slice none 0 0, .int .i64 0, .slice none 0 0, .slice none 0 0, .slice none 0 0]) Try.underlying31 rfl hres.out) rfl ⟨_, _, rfl, by rw [HC.out]; exact sesR_own zeroSes_own, Below.row BW (Nat.le_succ _) _⟩
  have hS : Hid (Ses x) := HS.out h0
  have he : tmC hdC x now = if inB now 0 9999 then 0 else 3 := by rw [HE.out, if_pos h0]
  have KN := isNowS_c now w1
  rw [h0]
  clear HE HS h0
  go_wp2_with fail
  refine KN.mono ?_
  rintro e w2 ⟨rfl, hw⟩
  rw [hw]
  clear hw w2 KN
  cases hh : inB now 0 9999
  · have he2 : tmC hdC x now = 3 := by rw [he, hh]; rfl
    have HC : Hid (tmD x now = (3, 0, zeroSes)) := by show _ = _; rw [HD1.out (by rw [he2]; decide), he2]
    clear he he2 hh HD0 HD1 A
    go_wp2_with (refine wpList_store_row rfl 31 _ _ rfl (w.heap.size + 1) #[.int .i64 3, .int .i64 0, .slice none 0 0, .int .i64 0, .slice none 0 0, .slice none 0 0, .slice none 0 0] rfl rfl 31 #[.int .i64 0, .int .i64 0, .slice none 0 0, .int .i64 0, .slice none 0 0, .slice none 0 0, .slice none 0 0] R hres.out rfl (by simp [Value.oneCell']) ?_)
    exact bodyPost_ret (v := .agg #[.int .i64 3, .int .i64 0, .slice none 0 0, .int .i64 0, .slice none 0 0, .slice none 0 0, .slice none 0 0]) (results_cell_row Try.results7 _ _ (w.heap.size + 1) 31 _ (0, 0) _ rfl (R.row [.int .i64 3, .int .i64 0, .slice none 0 0, .int .i64 0, .slice none 0 0, .slice none 0 0, .slice none 0 0]) Try.underlying31 rfl hres.out) rfl ⟨_, _, rfl, by rw [HC.out]; exact sesR_own zeroSes_own, Below.row BW (Nat.le_succ _) _⟩
  have HC : Hid (tmD x now = (0, 0, timN x now)) := HD0.out (by rw [he, hh]; rfl)
  have K2 := untilsOf_c x.2.2.2.2 p5 q5 w1 (R5.out _ BW) hS.out.rs hS.out.ok (by have := hS.out.ln.2.2; omega)
  have c4 := (A.cell 4).trans (show _ = some _ from rfl)
  clear he hh HD0 HD1
  go_wp2_with fail
  refine K2.mono ?_
  rintro e w2 ⟨D, rfl, ho, hm, hb⟩
  replace R := R.stay hb
  replace A := A.stay hb
  have BW2 := Below.step BW hb
  have hz2 : Hid (w.heap.size + 2 ≤ w2.heap.size) := Nat.le_trans hz1.out hb.size
  have HW1 : Hid (w.heap.size ≤ w1.heap.size) := BW.size
  clear K2 hb c4 BW
  have c4 := (A.cell 4).trans (show _ = some _ from rfl)
  go_wp2_with fail
  go_loopw [25] (fun i wr => ∃ (k : Nat) (D : DataW Unit), k ≤ x.2.2.2.2.length ∧ i = .int .i64 k ∧ MapH wr w1.heap.size x.2.2.2.2.length D ∧ MapIs D (lkH (nowK x.2.2.2.2 now k)) ∧ Arr wr (w.heap.size + 1) 31 [.int .i64 0, .int .i64 0, .slice none 0 0, .int .i64 0, .slice none 0 0, .slice none 0 0, .slice none 0 0] ∧ Arr wr w.heap.size 27 [.slice p1 x.1.length q1, .int .i64 x.2.1, .slice p3 x.2.2.1.length q3, .slice p4 x.2.2.2.1.length q4, .slice p5 x.2.2.2.2.length q5] ∧ w.heap.size + 2 ≤ wr.heap.size ∧ Below w.heap.size w wr)
    (fun i _ => x.2.2.2.2.length - (intOf i).toNat)
  case atStart => exact ⟨0, D, Nat.zero_le _, rfl, ho, by rw [nowK_zero]; exact hm, R, A, hz2.out, BW2⟩
  case round =>
    clear ho hm R A BW2 c4 D
    obtain ⟨k, D, hk, rfl, ho, hm, R, A, hz3, BW⟩ := hrel
    by_cases hlt : k < x.2.2.2.2.length
    · have hI : (k : Int) < (x.2.2.2.2.length : Int) := by omega
      obtain ⟨b, o, e1, hcc⟩ := (R5.out _ BW).2.2.2 (by omega)
      subst e1
      obtain ⟨a, ha⟩ : ∃ a, x.2.2.2.2[k]? = some a := ⟨x.2.2.2.2[k], by simp [hlt]⟩
      obtain ⟨us, hrep, hcell⟩ := hcc k a ha
      obtain rfl := hold_rep hrep
      have m0 := hcell 0 _ rfl
      have m1 := hcell 1 _ rfl
      rw [show holdC.n = 2 from rfl] at m0 m1
      rw [Nat.add_zero] at m0
      have hpa := okH_parts (hS.out.ok a (List.mem_of_getElem? ha))
      have HKA : Hid ((Lit.int .i64 a.1).wf = true) := wf64 (by omega) (by omega)
      have hal := alloc_below wr (.cells #[.int .i64 a.1, .int .i64 a.2] 40)
      have ho2 := ho.keep hal
      replace R := R.stay hal
      replace A := A.stay hal
      replace BW := Below.step BW hal
      have hz4 : Hid (w.heap.size + 2 ≤ (wr.alloc (.cells #[.int .i64 a.1, .int .i64 a.2] 40)).heap.size) := Nat.le_trans hz3 hal.size
      by_cases hu : a.2 < now
      · have HM : Hid (MapIs (D.del (.int .i64 a.1)) (lkH (nowK x.2.2.2.2 now (k + 1)))) := by show MapIs _ _; rw [← nowK_go hS.out.rs ha hu, lkH_go]; exact hm.del a.1
        clear hcc hcell hrep hpa ho hal hz3 hm
        go_wp2_with (at_delete; refine wpList_delete_own _ rfl _ _ 45 2 rfl 2 lawH Try.underlying45 _ w1.heap.size _ D rfl ho2 _ _ rfl (keyH _ HKA.out) ?_; intro w4 ho4 hturn4)
        have hg4 := hturn4.grown
        replace A := A.other hg4 (fun e => by have h9 := Option.some.inj e; have := hz1.out; omega)
        replace R := R.other hg4 (fun e => by have h9 := Option.some.inj e; have := hz1.out; omega)
        replace BW := BW.grown hg4 BW.size (fun k hk => by cases hk; exact HW1.out)
        have hz5 := Nat.le_trans hz4.out hg4.size
        clear hturn4 hg4 ho2 m0 m1
        go_roundw
        case rel => exact ⟨k + 1, _, by omega, by go_num, ho4, HM.out, R, A, hz5, BW⟩
        case measure => simp [intOf]; omega
      · have HM : Hid (MapIs D (lkH (nowK x.2.2.2.2 now (k + 1)))) := by show MapIs _ _; rw [nowK_keep ha (by omega)]; exact hm
        clear hcc hcell hrep hpa ho hal hz3 hm
        go_wp2_with fail
        go_roundw
        case rel => exact ⟨k + 1, _, by omega, by go_num, ho2, HM.out, R, A, hz4.out, BW⟩
        case measure => simp [intOf]; omega
    · have e : k = x.2.2.2.2.length := by omega
      subst e
      rw [nowK_end] at hm
      have HM : Hid (MapIs D (lkH (nowN x.2.2.2.2 now))) := hm
      have hzr : Hid (w.heap.size + 2 ≤ wr.heap.size) := hz3
      clear hm hz3
      have c0 := (A.cell 0).trans (show _ = some _ from rfl)
      have c1 := (A.cell 1).trans (show _ = some _ from rfl)
      have c2 := (A.cell 2).trans (show _ = some _ from rfl)
      have c3 := (A.cell 3).trans (show _ = some _ from rfl)
      have c4 := (A.cell 4).trans (show _ = some _ from rfl)
      go_wp2_with fail
      refine (ownSession_c x _ (nowN x.2.2.2.2 now) w1.heap.size x.2.2.2.2.length _ wr (HREP.out _ BW) hS.out ho HM.out (List.Pairwise.filter _ hS.out.rs) (fun a ha => hS.out.ok a (List.mem_filter.1 ha).1) (by have := List.length_filter_le (fun h : HeldD => decide (now ≤ h.2)) x.2.2.2.2; have := hS.out.ln.2.2; show (List.filter _ _).length ≤ _; omega) (by have := hS.out.ln.2.2; omega)).mono ?_
      rintro e w5 ⟨vs, fp, rfl, kS, hb⟩
      obtain ⟨s1, t1, s3, t3, s4, t4, s5, t5, rfl, -, -, -, -⟩ := session_rep (sessionC.toRep kS)
      replace R := R.stay hb
      replace BW := Below.step BW hb
      clear ho hb c0 c1 c2 c3 c4 A
      go_wp2_with (refine wpList_store_row rfl 31 _ _ rfl (w.heap.size + 1) #[.int .i64 0, .int .i64 0, .slice s1 x.1.length t1, .int .i64 x.2.1, .slice s3 x.2.2.1.length t3, .slice s4 x.2.2.2.1.length t4, .slice s5 (nowN x.2.2.2.2 now).length t5] rfl rfl 31 #[.int .i64 0, .int .i64 0, .slice none 0 0, .int .i64 0, .slice none 0 0, .slice none 0 0, .slice none 0 0] R hres.out rfl (by simp [Value.oneCell']) ?_)
      exact bodyPost_ret (v := .agg #[.int .i64 0, .int .i64 0, .slice s1 x.1.length t1, .int .i64 x.2.1, .slice s3 x.2.2.1.length t3, .slice s4 x.2.2.2.1.length t4, .slice s5 (nowN x.2.2.2.2 now).length t5]) (results_cell_row Try.results7 _ _ (w.heap.size + 1) 31 _ (0, 0) _ rfl (R.row [.int .i64 0, .int .i64 0, .slice s1 x.1.length t1, .int .i64 x.2.1, .slice s3 x.2.2.1.length t3, .slice s4 x.2.2.2.1.length t4, .slice s5 (nowN x.2.2.2.2 now).length t5]) Try.underlying31 rfl hres.out) rfl ⟨_, _, rfl, by rw [HC.out]; exact sesR_own (sessionC.low (sessionC.rowS kS (by have := hzr.out; omega) _) (by have := hzr.out; omega)), Below.row BW (Nat.le_succ _) _⟩
end Go.Proofs.Ytflhoefocjmihaa

