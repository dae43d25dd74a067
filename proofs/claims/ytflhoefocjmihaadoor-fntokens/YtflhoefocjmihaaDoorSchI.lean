/- The contracts of chapter 7's functions in the program, at every argument: code and bytes, where the two tables hold what the program's text lays (Tabs). A chain of secrets is a function value that tells bytes in new memory whenever it is asked (Tells). What was there stays. -/
import Derived.Test.YtflhoefocjmihaaDoorJoint13
import Derived.Test.YtflhoefocjmihaaDoorKeyI
import Derived.Test.YtflhoefocjmihaaDoorJoint12
import Derived.Lib.SliceRun
namespace Go.Proofs.YtflhoefocjmihaaDoor
open Go.ChangeShapes Go.WideShapes Go.ChangeAt Go.RowKit

theorem rd_none (w : World) : Rd w none 0 [] := ⟨Nat.le_refl _, by unfold maxLen; decide, fun _ => rfl, fun hp => by simp at hp⟩
/-- A function with a body: a call enters it. -/
def Ent (N : Nat) : Prop := ∀ (args : Array Value) (w : World), (callFunc N args).run Tryd.prog w = .ok (.enter N args) w
/-- A function value that tells these bytes, whenever it is asked. -/
def Tells (w : World) (f : Value) (bs : List UInt8) : Prop :=
  ∃ (N : Nat) (cs : Array Value), f = .func (.func N) #[] cs ∧ Ent N ∧ ∀ W, Below w.heap.size w W → Tabs W → Calls Tryd.prog N cs W fun e W' => ∃ u, e = .returned u ∧ Own W' W.heap.size u bs ∧ Below W.heap.size W W'
/-- A function value that turns these bytes into those. -/
def Steps (w : World) (f : Value) (bs out : List UInt8) : Prop :=
  ∃ (N : Nat) (cs : Array Value), f = .func (.func N) #[] cs ∧ Ent N ∧ ∀ W p q, Below w.heap.size w W → Tabs W → Rd W p q bs → Calls Tryd.prog N (#[.slice p bs.length q] ++ cs) W fun e W' => ∃ u, e = .returned (.agg #[.int .i64 0, u]) ∧ Own W' W.heap.size u out ∧ Below W.heap.size W W'
theorem Tells.keep {w w' : World} {f : Value} {bs : List UInt8} (h : Tells w f bs) (hb : Below w.heap.size w w') : Tells w' f bs := by
  obtain ⟨N, cs, rfl, he, h⟩ := h
  exact ⟨N, cs, rfl, he, fun W hW hT => h W (Below.step hb hW) hT⟩
theorem Steps.keep {w w' : World} {f : Value} {bs out : List UInt8} (h : Steps w f bs out) (hb : Below w.heap.size w w') : Steps w' f bs out := by
  obtain ⟨N, cs, rfl, he, h⟩ := h
  exact ⟨N, cs, rfl, he, fun W p q hW hT => h W p q (Below.step hb hW) hT⟩

theorem isKey_c (p : Option Addr) (q : Nat) (bs : List UInt8) (w : World) : Calls Tryd.prog 25 #[.slice p bs.length q] w fun e w' => e = .returned (.bool (is32 bs)) ∧ w' = w := by
  by_cases h : bs.length = 32
  · rw [show is32 bs = true by simp [is32, h]]
    have d1 : ((bs.length : Int) == 32) = true := by rw [beq_iff_eq]; omega
    clear h
    go_enter Tryd.func25, Tryd.ntmps25
    go_wp2
    go_ret
    exact ⟨rfl, rfl⟩
  · rw [show is32 bs = false by simp [is32, h]]
    have d1 : ((bs.length : Int) == 32) = false := by rw [beq_eq_false_iff_ne]; omega
    clear h
    go_enter Tryd.func25, Tryd.ntmps25
    go_wp2
    go_ret
    exact ⟨rfl, rfl⟩

set_option maxRecDepth 4000 in
set_option maxHeartbeats 1000000 in
theorem givenLit_c (g : Nat) (p : Option Addr) (q : Nat) (bs : List UInt8) (W : World) (hg : Arr W g 22 [.slice p bs.length q]) (hr : Rd W p q bs) (hl : bs.length ≤ 1000000) :
    Calls Tryd.prog 65 #[.pointer (some ⟨g, 0, none⟩)] W fun e W' => ∃ u, e = .returned u ∧ Own W' W.heap.size u bs ∧ Below W.heap.size W W' := by
  have c0 : W.cell? ⟨g, 0, none⟩ = some (.slice p bs.length q) := by rw [hg.cell 0]; rfl
  go_enter Tryd.func65, Tryd.ntmps65
  go_wp2_with fail
  refine (bytesClone_c p q bs W hr hl).mono ?_
  rintro e W1 ⟨u, rfl, ho, hb⟩
  go_wp2
  go_ret
  exact ⟨_, rfl, ho, hb⟩
set_option maxRecDepth 4000 in
set_option maxHeartbeats 1000000 in
theorem given_c (p : Option Addr) (q : Nat) (bs : List UInt8) (w : World) (hr : Rd w p q bs) (hl : bs.length ≤ 1000000) :
    Calls Tryd.prog 49 #[.slice p bs.length q] w fun e w' => ∃ f, e = .returned f ∧ Tells w' f bs ∧ Below w.heap.size w w' := by
  have hA := Arr.new w [.slice p bs.length q] 22
  have hmf : ∀ (fn : Fn) (first cap : Array Value) (w : World), (Instr.makeFunc fn first cap).run Tryd.prog w = .ok (.func fn first cap) w := fun _ _ _ _ => rfl
  go_enter Tryd.func49, Tryd.ntmps49
  go_wp2
  go_ret
  refine ⟨_, rfl, ⟨_, _, rfl, (fun _ _ => by kernel_rfl), fun W hW _ => ?_⟩, alloc_below _ _⟩
  exact givenLit_c w.heap.size p q bs W (hA.stay hW) ((hr.keep (alloc_below _ _)).keep hW) hl

theorem setCells_grown (b : Nat) : ∀ (vs : List Value) (o : Nat) (w : World), w.grownBy (w.setCells b o vs) (some b)
  | [], _, w => World.grownBy.refl _ _
  | v :: vs, o, w => by
    have h1 : w.grownBy (w.setCell ⟨b, o, none⟩ v) (some b) := ⟨rfl, rfl, rfl, by simp [World.setCell], fun k hk hne => Below.heap_setCell _ _ _ _ (fun e => hne (by rw [e]))⟩
    have h2 := setCells_grown b vs (o + 1) (w.setCell ⟨b, o, none⟩ v)
    exact ⟨h2.os.trans h1.os, h2.tape.trans h1.tape, h2.output.trans h1.output, Nat.le_trans h1.size h2.size, fun k hk hne => (h2.block k (Nat.lt_of_lt_of_le hk h1.size) hne).trans (h1.block k hk hne)⟩
/-- clear(s) on a row of one's own: what lies elsewhere stays. -/
theorem run_clear_own (w : World) (B : Nat) (p : Option Addr) (q : Nat) (bs : List UInt8) (ho : Own w B (.slice p bs.length q) bs) :
    ∃ w', (∀ ty, (Builtin.clear_ #[22] ty #[.slice p bs.length q]).run Tryd.prog w = .ok (.tuple #[]) w') ∧ w.grownBy w' (Value.slice p bs.length q).ownBlock := by
  by_cases h0 : bs.length = 0
  · refine ⟨w, fun ty => ?_, World.grownBy.refl _ _⟩
    rw [h0]
    cases p <;> simp [Builtin.clear_, run_underlying Tryd.underlying22]
  · have ho' := ho
    rcases ho.2 with ⟨e, hn⟩ | ⟨g, cap, cur, e, hb, hg, hle, hm, hs, ht⟩
    · exact absurd hn h0
    · cases e
      refine ⟨_, fun ty => Lib.run_clear_slice w 22 5 ty (.int .u8 0) Tryd.underlying22 (fun _ => by kernel_rfl) rfl rfl g 0 _ _ (by omega) (fun j hj => ?_) (fun j hj => ?_), ?_⟩
      · rw [Nat.zero_add, World.ownsRow.cellAt ho' j (by omega), u8v_at hj]; rfl
      · rw [Nat.zero_add]; exact World.ownsRow.frozenAt ho' j
      · exact setCells_grown _ _ _ _
set_option maxRecDepth 4000 in
set_option maxHeartbeats 1000000 in
theorem nextLit_c (g1 g2 t1 t2 : Nat) (f s : Value) (bs out : List UInt8) (W : World) (h1 : Arr W g1 t1 [f]) (h2 : Arr W g2 t2 [s]) (hf : Tells W f bs) (hs : Steps W s bs out) (hT : Tabs W) :
    Calls Tryd.prog 81 #[.pointer (some ⟨g1, 0, none⟩), .pointer (some ⟨g2, 0, none⟩)] W fun e W' => ∃ u, e = .returned u ∧ Own W' W.heap.size u out ∧ Below W.heap.size W W' := by
  obtain ⟨N, cs, rfl, e1, K1⟩ := hf
  obtain ⟨M, ds, rfl, e2, K2⟩ := hs
  have e1' : ∀ (args : Array Value) (w : World), (callFunc N args).run Tryd.prog w = .ok (.enter N args) w := e1
  have e2' : ∀ (args : Array Value) (w : World), (callFunc M args).run Tryd.prog w = .ok (.enter M args) w := e2
  have c1 : W.cell? ⟨g1, 0, none⟩ = some (.func (.func N) #[] cs) := by rw [h1.cell 0]; rfl
  have k1 := K1 W (Below.refl _ _) hT
  clear K1
  go_enter Tryd.func81, Tryd.ntmps81
  go_wp2_with fail
  refine k1.mono ?_
  rintro e W1 ⟨u, rfl, ho, hb⟩
  obtain ⟨p, q, rfl, rd⟩ := ho.rd
  have c2 : W1.cell? ⟨g2, 0, none⟩ = some (.func (.func M) #[] ds) := by rw [(h2.stay hb).cell 0]; rfl
  have k2 := K2 W1 p q hb (hT.keep hb) rd
  clear k1 K2 c1
  go_wp2_with fail
  refine k2.mono ?_
  rintro e W2 ⟨u2, rfl, ho2, hb2⟩
  obtain ⟨p2, q2, rfl, rd2⟩ := ho2.rd
  obtain ⟨W3, hcl, hg⟩ := run_clear_own W2 W.heap.size p q bs (ho.stay hb2)
  have hf1 := bytes_f1 0 p2 out.length q2 W2
  have HO : Hid (Own W3 W.heap.size (.slice p2 out.length q2) out) := (ho2.other hg (fun k hk e => by have h1 := ho2.ge k hk; have h2 := ho.lt k e; omega)).lower hb.size
  have HB : Hid (Below W.heap.size W W3) := (Below.step hb hb2).grown hg (Nat.le_trans hb.size hb2.size) (fun k hk => ho.ge k hk)
  clear k2 hg ho ho2 rd rd2 hb hb2
  go_wp2
  go_ret
  exact ⟨_, rfl, HO.out, HB.out⟩
set_option maxRecDepth 4000 in
set_option maxHeartbeats 1000000 in
theorem next_c (f s : Value) (bs out : List UInt8) (w : World) (hf : Tells w f bs) (hs : Steps w s bs out) :
    Calls Tryd.prog 66 #[f, s] w fun e w' => ∃ g, e = .returned g ∧ Tells w' g out ∧ Below w.heap.size w w' := by
  have hA := (Arr.new w [f] 69).old _ (.cells #[s] 34)
  have hB := Arr.new (w.alloc (.cells #[f] 69)) [s] 34
  rw [size_alloc] at hB
  have hb : Below w.heap.size w ((w.alloc (.cells #[f] 69)).alloc (.cells #[s] 34)) := Below.mk (alloc_below _ _) _
  have hmf : ∀ (fn : Fn) (first cap : Array Value) (w : World), (Instr.makeFunc fn first cap).run Tryd.prog w = .ok (.func fn first cap) w := fun _ _ _ _ => rfl
  have hf' := hf.keep hb
  have hs' := hs.keep hb
  have sf : ∃ N cs, f = .func (.func N) #[] cs := ⟨hf.choose, hf.choose_spec.choose, hf.choose_spec.choose_spec.1⟩
  have ss : ∃ N cs, s = .func (.func N) #[] cs := ⟨hs.choose, hs.choose_spec.choose, hs.choose_spec.choose_spec.1⟩
  obtain ⟨N, cs, rfl⟩ := sf
  obtain ⟨M, ds, rfl⟩ := ss
  go_enter Tryd.func66, Tryd.ntmps66
  go_wp2
  go_ret
  refine ⟨_, rfl, ⟨_, _, rfl, (fun _ _ => by kernel_rfl), fun W hW hT => ?_⟩, hb⟩
  exact nextLit_c _ _ _ _ _ _ bs out W (hA.stay hW) (hB.stay hW) (hf'.keep hW) (hs'.keep hW) hT
set_option maxRecDepth 4000 in
set_option maxHeartbeats 1000000 in
theorem derLit_c (g1 : Nat) (p : Option Addr) (q : Nat) (key l : List UInt8) (W : World) (hg1 : Arr W g1 9 [.string (strB l)]) (hr : Rd W p q key) (hT : Tabs W) (hk : key.length ≤ 64) (hl : labelOk l = true) :
    Calls Tryd.prog 67 #[.slice p key.length q, .pointer (some ⟨g1, 0, none⟩)] W fun e W' => ∃ u, e = .returned (.agg #[.int .i64 0, u]) ∧ Own W' W.heap.size u (deriveN key l []) ∧ Below W.heap.size W W' := by
  have c0 : (W.alloc (.cells #[.int .i64 0, .slice none 0 0] 33)).cell? ⟨g1, 0, none⟩ = some (.string (strB l)) := by rw [(hg1.old _ _).cell 0]; rfl
  have K : Hid (∀ w, Rd w p q key → Tabs w → Calls Tryd.prog 68 #[.slice p key.length q, .string (strB l), .slice none 0 0] w fun e w' => ∃ u, e = .returned (.agg #[.int .i64 0, u]) ∧ Own w' w.heap.size u (deriveN key l []) ∧ Below w.heap.size w w') := fun w h h' => by
    have g := implDer_c p none q 0 key l [] w h (rd_none w) (by have := labelOk_len hl; omega) h'
    have h1 : keyB key = true := by simp [keyB, hk]
    rw [show dkC key l [] = 0 by simp [dkC, h1, hl, dataB], show dkL key l [] = deriveN key l [] by simp [dkL, h1, hl, dataB]] at g
    exact g
  clear hk hl
  clear hg1
  go_enter Tryd.func67, Tryd.ntmps67
  go_wp2_with fail
  refine (K.out _ (hr.keep (alloc_below _ _)) (hT.keep (alloc_below _ _))).mono ?_
  rintro e w1 ⟨u, rfl, ho, hb⟩
  obtain ⟨hc, hf⟩ := bcell hb
  rw [size_alloc] at hc hf ho
  obtain ⟨a, cap, rfl, -⟩ := ho.rd
  have hres := Below.res hb
  clear K hb c0
  go_wp2
  refine bodyPost_ret (v := .agg #[.int .i64 0, .slice a (deriveN key l []).length cap]) (by simp [results, Tryd.results67, go_sem, hc]) rfl ⟨_, rfl, ?_, (hres.setCell (Nat.le_refl _) _).setCell (Nat.le_refl _) _⟩
  exact ((ho.set (Nat.lt_succ_self _) _).set (Nat.lt_succ_self _) _).lower (Nat.le_succ _)
set_option maxRecDepth 4000 in
set_option maxHeartbeats 1000000 in
theorem chainDer_c (f : Value) (bs l : List UInt8) (w : World) (hf : Tells w f bs) (hk : bs.length ≤ 64) (hl : labelOk l = true) :
    Calls Tryd.prog 50 #[f, .string (strB l)] w fun e w' => ∃ g, e = .returned g ∧ Tells w' g (deriveN bs l []) ∧ Below w.heap.size w w' := by
  have hA := Arr.new w [.string (strB l)] 9
  have hb := alloc_below w (.cells #[.string (strB l)] 9)
  have hs : Steps (w.alloc (.cells #[.string (strB l)] 9)) (.func (.func 67) #[] #[.pointer (some ⟨w.heap.size, 0, none⟩)]) bs (deriveN bs l []) :=
    ⟨_, _, rfl, (fun _ _ => by kernel_rfl), fun W p q hW hT rd => derLit_c w.heap.size p q bs l W (hA.stay hW) rd hT hk hl⟩
  have K := next_c f _ bs (deriveN bs l []) _ (hf.keep hb) hs
  have hmf : ∀ (fn : Fn) (first cap : Array Value) (w : World), (Instr.makeFunc fn first cap).run Tryd.prog w = .ok (.func fn first cap) w := fun _ _ _ _ => rfl
  obtain ⟨N, cs, rfl⟩ : ∃ N cs, f = .func (.func N) #[] cs := ⟨hf.choose, hf.choose_spec.choose, hf.choose_spec.choose_spec.1⟩
  clear hf hs hA
  go_enter Tryd.func50, Tryd.ntmps50
  go_wp2_with fail
  refine K.mono ?_
  rintro e w1 ⟨g, rfl, hg, hb1⟩
  go_wp2
  go_ret
  exact ⟨_, rfl, hg, Below.step hb hb1⟩
set_option maxRecDepth 4000 in
set_option maxHeartbeats 1000000 in
theorem expLit_c (g1 : Nat) (g2 : Nat) (g3 : Nat) (p p2 : Option Addr) (q q2 : Nat) (key l ctx : List UInt8) (n : Nat) (W : World) (hg1 : Arr W g1 9 [.string (strB l)]) (hg2 : Arr W g2 22 [.slice p2 ctx.length q2]) (hg3 : Arr W g3 2 [.int .i64 (n : Int)]) (hr : Rd W p q key) (hr2 : Rd W p2 q2 ctx) (hT : Tabs W) (hk : key.length ≤ 64) (hl : labelC l ctx (n : Int) = 0) :
    Calls Tryd.prog 69 #[.slice p key.length q, .pointer (some ⟨g1, 0, none⟩), .pointer (some ⟨g2, 0, none⟩), .pointer (some ⟨g3, 0, none⟩)] W fun e W' => ∃ u, e = .returned (.agg #[.int .i64 0, u]) ∧ Own W' W.heap.size u (expLabN key l ctx n) ∧ Below W.heap.size W W' := by
  have c0 : (W.alloc (.cells #[.int .i64 0, .slice none 0 0] 33)).cell? ⟨g1, 0, none⟩ = some (.string (strB l)) := by rw [(hg1.old _ _).cell 0]; rfl
  have c1 : (W.alloc (.cells #[.int .i64 0, .slice none 0 0] 33)).cell? ⟨g2, 0, none⟩ = some (.slice p2 ctx.length q2) := by rw [(hg2.old _ _).cell 0]; rfl
  have c2 : (W.alloc (.cells #[.int .i64 0, .slice none 0 0] 33)).cell? ⟨g3, 0, none⟩ = some (.int .i64 (n : Int)) := by rw [(hg3.old _ _).cell 0]; rfl
  have K : Hid (∀ w, Rd w p q key → Rd w p2 q2 ctx → Tabs w → Calls Tryd.prog 70 #[.slice p key.length q, .string (strB l), .slice p2 ctx.length q2, .int .i64 (n : Int)] w fun e w' => ∃ u, e = .returned (.agg #[.int .i64 0, u]) ∧ Own w' w.heap.size u (expLabN key l ctx n) ∧ Below w.heap.size w w') := fun w h h' h'' => by
    have g := implExpL_c p p2 q q2 key l ctx (n : Int) w h h' (by have := labelOk_len (labelC_zero hl).1; omega) h''
    have h1 : keyB key = true := by simp [keyB, hk]
    rw [show elC key l ctx (n : Int) = 0 by simp [elC, h1, hl], show elL key l ctx (n : Int) = expLabN key l ctx n by simp [elL, elC, h1, hl]] at g
    exact g
  clear hk hl
  clear hg1 hg2 hg3
  go_enter Tryd.func69, Tryd.ntmps69
  go_wp2_with fail
  refine (K.out _ (hr.keep (alloc_below _ _)) (hr2.keep (alloc_below _ _)) (hT.keep (alloc_below _ _))).mono ?_
  rintro e w1 ⟨u, rfl, ho, hb⟩
  obtain ⟨hc, hf⟩ := bcell hb
  rw [size_alloc] at hc hf ho
  obtain ⟨a, cap, rfl, -⟩ := ho.rd
  have hres := Below.res hb
  clear K hb c0 c1 c2
  go_wp2
  refine bodyPost_ret (v := .agg #[.int .i64 0, .slice a (expLabN key l ctx n).length cap]) (by simp [results, Tryd.results69, go_sem, hc]) rfl ⟨_, rfl, ?_, (hres.setCell (Nat.le_refl _) _).setCell (Nat.le_refl _) _⟩
  exact ((ho.set (Nat.lt_succ_self _) _).set (Nat.lt_succ_self _) _).lower (Nat.le_succ _)
set_option maxRecDepth 4000 in
set_option maxHeartbeats 1000000 in
theorem chainExp_c (f : Value) (bs l ctx : List UInt8) (n : Nat) (p2 : Option Addr) (q2 : Nat) (w : World) (hf : Tells w f bs) (hr2 : Rd w p2 q2 ctx) (hk : bs.length ≤ 64) (hl : labelC l ctx (n : Int) = 0) :
    Calls Tryd.prog 51 #[f, .string (strB l), .slice p2 ctx.length q2, .int .i64 (n : Int)] w fun e w' => ∃ g, e = .returned g ∧ Tells w' g (expLabN bs l ctx n) ∧ Below w.heap.size w w' := by
  have hA1 := ((Arr.new w [.string (strB l)] 9).old _ (.cells #[.slice p2 ctx.length q2] 22)).old _ (.cells #[.int .i64 (n : Int)] 2)
  have hA2 := (Arr.new (w.alloc (.cells #[.string (strB l)] 9)) [.slice p2 ctx.length q2] 22).old _ (.cells #[.int .i64 (n : Int)] 2)
  have hA3 := Arr.new ((w.alloc (.cells #[.string (strB l)] 9)).alloc (.cells #[.slice p2 ctx.length q2] 22)) [.int .i64 (n : Int)] 2
  rw [size_alloc] at hA2
  rw [size_alloc, size_alloc] at hA3
  have hb : Below w.heap.size w (((w.alloc (.cells #[.string (strB l)] 9)).alloc (.cells #[.slice p2 ctx.length q2] 22)).alloc (.cells #[.int .i64 (n : Int)] 2)) := Below.mk (Below.mk (alloc_below _ _) _) _
  have hs : Steps (((w.alloc (.cells #[.string (strB l)] 9)).alloc (.cells #[.slice p2 ctx.length q2] 22)).alloc (.cells #[.int .i64 (n : Int)] 2)) (.func (.func 69) #[] #[.pointer (some ⟨w.heap.size, 0, none⟩), .pointer (some ⟨w.heap.size + 1, 0, none⟩), .pointer (some ⟨w.heap.size + 1 + 1, 0, none⟩)]) bs (expLabN bs l ctx n) :=
    ⟨_, _, rfl, (fun _ _ => by kernel_rfl), fun W p q hW hT rd => expLit_c w.heap.size (w.heap.size + 1) (w.heap.size + 1 + 1) p p2 q q2 bs l ctx n W (hA1.stay hW) (hA2.stay hW) (hA3.stay hW) rd ((hr2.keep hb).keep hW) hT hk hl⟩
  have K := next_c f _ bs (expLabN bs l ctx n) _ (hf.keep hb) hs
  have hmf : ∀ (fn : Fn) (first cap : Array Value) (w : World), (Instr.makeFunc fn first cap).run Tryd.prog w = .ok (.func fn first cap) w := fun _ _ _ _ => rfl
  obtain ⟨N, cs, rfl⟩ : ∃ N cs, f = .func (.func N) #[] cs := ⟨hf.choose, hf.choose_spec.choose, hf.choose_spec.choose_spec.1⟩
  clear hf hs hA1 hA2 hA3 hr2 hl
  go_enter Tryd.func51, Tryd.ntmps51
  go_wp2_with fail
  refine K.mono ?_
  rintro e w1 ⟨g, rfl, hg, hb1⟩
  go_wp2
  go_ret
  exact ⟨_, rfl, hg, Below.step hb hb1⟩
set_option maxRecDepth 4000 in
set_option maxHeartbeats 1000000 in
theorem toldBy_c (f : Value) (bs : List UInt8) (w : World) (hf : Tells w f bs) (hT : Tabs w) :
    Calls Tryd.prog 48 #[f] w fun e w' => ∃ u, e = .returned (.agg #[.int .i64 0, u]) ∧ Own w' w.heap.size u bs ∧ Below w.heap.size w w' := by
  obtain ⟨N, cs, rfl, e1, K1⟩ := hf
  have e1' : ∀ (args : Array Value) (w : World), (callFunc N args).run Tryd.prog w = .ok (.enter N args) w := e1
  have k1 := K1 (w.alloc (.cells #[.int .i64 0, .slice none 0 0] 33)) (alloc_below _ _) (hT.keep (alloc_below _ _))
  clear K1 hT
  go_enter Tryd.func48, Tryd.ntmps48
  go_wp2_with fail
  refine k1.mono ?_
  rintro e w1 ⟨u, rfl, ho, hb⟩
  obtain ⟨hc, hf⟩ := bcell hb
  rw [size_alloc] at hc hf ho
  obtain ⟨a, cap, rfl, -⟩ := ho.rd
  have hres := Below.res hb
  clear k1 hb
  go_wp2
  refine bodyPost_ret (v := .agg #[.int .i64 0, .slice a bs.length cap]) (by simp [results, Tryd.results48, go_sem, hc]) rfl ⟨_, rfl, ?_, (hres.setCell (Nat.le_refl _) _).setCell (Nat.le_refl _) _⟩
  exact ((ho.set (Nat.lt_succ_self _) _).set (Nat.lt_succ_self _) _).lower (Nat.le_succ _)
end Go.Proofs.YtflhoefocjmihaaDoor

