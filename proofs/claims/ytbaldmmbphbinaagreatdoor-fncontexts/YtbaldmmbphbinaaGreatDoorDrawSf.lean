/- Sessions that are drawn, right or bent (written by tools/draw_sf.py). What comes out can be read; its bounds, no more. -/
import Derived.Test.YtbaldmmbphbinaaGreatDoorDrawSe
import Derived.Test.YtbaldmmbphbinaaGreatDoorJoint20
namespace Go.Proofs.YtbaldmmbphbinaaGreatDoor
open Go.ChangeShapes Go.WideShapes Go.ChangeAt Go.RowKit

/-- What can be read wherever all from B on is as it was. -/
def Clo (W : World) (B : Nat) (x : SesD) (vs : List Value) : Prop := ∀ V : World, (∀ k, B ≤ k → k < W.heap.size → V.heap[k]? = W.heap[k]?) → sessionC.rep V x vs
theorem Clo.low {W : World} {B g : Nat} {x : SesD} {vs : List Value} (h : Clo W B x vs) (hg : g < B) (us : Array Value) : Clo (W.setRow g us) B x vs := fun V hV => h V fun k h1 h2 => (hV k h1 (by rw [size_setRow]; exact h2)).trans (setRow_other W g k us (by omega))
theorem okB {h : HeldD} (k : okH h = true) : 0 ≤ h.1 ∧ h.1 ≤ 100 := by have := okH_parts k; omega
theorem kb_of {r : Int} (h : r ∈ [(0 : Int), 1, 99, 100]) : Hid (0 ≤ r ∧ r ≤ 100) := by simp at h; show _ ∧ _; omega
theorem Clo.down {W : World} {B B' : Nat} {x : SesD} {vs : List Value} (h : Clo W B x vs) (hb : B' ≤ B) : Clo W B' x vs := fun V hV => h V fun k h1 h2 => hV k (by omega) h2
theorem Clo.but {W : World} {B b : Nat} {x : SesD} {vs : List Value} (h : Clo W B x vs) (hb : b < B) : ∀ V, W.grownBy V (some b) → sessionC.rep V x vs := fun V hg => h V fun k h1 h2 => hg.block k h2 (fun e => by have := Option.some.inj e; omega)
theorem SesL.clo {W : World} {B g : Nat} {x : SesD} {a b c d : Value} {fb fc fd : List Nat} (h : SesL W B g x a b c d fb fc fd) : Clo W B x [a, .int .i64 x.2.1, b, c, d] := fun _ hV => sessionC.toRep (h.fr hV).own
theorem Clo.role {W : World} {B : Nat} {x : SesD} {a b c d : Value} (h : Clo W B x [a, .int .i64 x.2.1, b, c, d]) (r2 : Int) : Clo W B (x.1, r2, x.2.2.1, x.2.2.2.1, x.2.2.2.2) [a, .int .i64 r2, b, c, d] := fun V hV => by
  obtain ⟨p1, q1, p3, q3, p4, q4, p5, q5, e, r1, r3, r4, r5⟩ := session_rep (h V hV)
  simp only [List.cons.injEq, and_true] at e
  obtain ⟨rfl, -, rfl, rfl, rfl⟩ := e
  exact session_mk (a := (x.1, r2, x.2.2.1, x.2.2.2.1, x.2.2.2.2)) r1 r3 r4 r5
theorem sesL_inv {w : World} {B : Nat} {x : SesD} {vs : List Value} {fp : List Nat} (h : sessionC.own w B x vs fp) : ∃ u a b c fa fb fc, vs = [u, .int .i64 x.2.1, a, b, c] ∧ Own w B u x.1 ∧ blksC.own w B x.2.2.1 [a] fa ∧ blksC.own w B x.2.2.2.1 [b] fb ∧ holdsC.own w B x.2.2.2.2 [c] fc ∧ (u.ownBlock.toList ++ (fa ++ (fb ++ fc))).Nodup ∧ fp = u.ownBlock.toList ++ (fa ++ (fb ++ fc)) := by
  obtain ⟨us0, ts0, f0, g0, rfl, rfl, hn, ⟨u, rfl, hu, rfl⟩, us1, ts1, f1, g1, rfl, rfl, -, ⟨rfl, rfl⟩, us2, ts2, f2, g2, rfl, rfl, -, ha, us3, ts3, f3, g3, rfl, rfl, -, hb, hc⟩ := h
  obtain ⟨a, xa, ga, rfl, oa, rfl⟩ := ha
  obtain ⟨b, xb, gb, rfl, ob, rfl⟩ := hb
  obtain ⟨c, xc, gc, rfl, oc, rfl⟩ := hc
  exact ⟨u, a, b, c, _, _, _, rfl, hu, ⟨a, xa, ga, rfl, oa, rfl⟩, ⟨b, xb, gb, rfl, ob, rfl⟩, ⟨c, xc, gc, rfl, oc, rfl⟩, hn, rfl⟩
theorem SesL.of {w : World} {B : Nat} {x : SesD} {vs : List Value} {fp : List Nat} (h : sessionC.own w B x vs fp) (hB : B ≤ w.heap.size) :
    ∃ p1 q1 p3 q3 p4 q4 p5 q5 fa fb fc, vs = [.slice p1 x.1.length q1, .int .i64 x.2.1, .slice p3 x.2.2.1.length q3, .slice p4 x.2.2.2.1.length q4, .slice p5 x.2.2.2.2.length q5] ∧ SesL (w.alloc (.cells vs.toArray 27)) B w.heap.size x (.slice p1 x.1.length q1) (.slice p3 x.2.2.1.length q3) (.slice p4 x.2.2.2.1.length q4) (.slice p5 x.2.2.2.2.length q5) fa fb fc := by
  have hlt := fun k hk => sessionC.ins h k hk
  obtain ⟨u, a, b, c, fa, fb, fc, rfl, hu, ha, hb, hc, hn, rfl⟩ := sesL_inv h
  have hs := alloc_below w (.cells [u, .int .i64 x.2.1, a, b, c].toArray 27)
  have XS : SesL (w.alloc (.cells [u, .int .i64 x.2.1, a, b, c].toArray 27)) B w.heap.size x u a b c fa fb fc := ⟨Arr.new w _ _, hu.stay hs, blksC.stay ha hs, blksC.stay hb hs, holdsC.stay hc hs, List.nodup_cons.2 ⟨fun e => by have := (hlt _ e).2; omega, hn⟩, hB⟩
  obtain ⟨p5, q5, rfl⟩ := XS.helAt
  obtain ⟨x1, f1, o1, -⟩ := blks_inv XS.ask
  obtain ⟨p3, q3, rfl, -⟩ := o1.rd
  obtain ⟨x2, f2, o2, -⟩ := blks_inv XS.use
  obtain ⟨p4, q4, rfl, -⟩ := o2.rd
  obtain ⟨p1, q1, rfl, -⟩ := XS.ex.rd
  exact ⟨p1, q1, p3, q3, p4, q4, p5, q5, fa, fb, fc, rfl, XS⟩
theorem SesL.rds {W V : World} {B g : Nat} {x : SesD} {p1 p3 p4 p5 : Option Addr} {n1 q1 n3 q3 n4 q4 n5 q5 : Nat} {fb fc fd : List Nat} (h : SesL W B g x (.slice p1 n1 q1) (.slice p3 n3 q3) (.slice p4 n4 q4) (.slice p5 n5 q5) fb fc fd) (hV : ∀ k, B ≤ k → k < W.heap.size → k ≠ g → V.heap[k]? = W.heap[k]?) :
    Rd V p1 q1 x.1 ∧ RdL bytC V p3 q3 x.2.2.1 ∧ RdL bytC V p4 q4 x.2.2.2.1 ∧ RdL holdC V p5 q5 x.2.2.2.2 := by
  obtain ⟨m1, m2⟩ := List.nodup_cons.1 h.nd
  have hne : ∀ k, k ∈ (Value.slice p1 n1 q1).ownBlock.toList ++ (fb ++ (fc ++ fd)) → V.heap[k]? = W.heap[k]? := fun k hk => hV k (sessionC.ins h.own k hk).1 (sessionC.ins h.own k hk).2 (fun e => m1 (by rw [← e]; exact hk))
  have h1 : Own V B (.slice p1 n1 q1) x.1 := ownsRow_fr h.ex fun k hk => hne k (List.mem_append_left _ (mem_opt.2 hk))
  obtain ⟨x3, f3, o3, -⟩ := blks_inv (blksC.fr h.ask fun k hk => hne k (List.mem_append_right _ (List.mem_append_left _ hk)))
  obtain ⟨x4, f4, o4, -⟩ := blks_inv (blksC.fr h.use fun k hk => hne k (List.mem_append_right _ (List.mem_append_right _ (List.mem_append_left _ hk))))
  have h5 := holdsC.fr h.hel fun k hk => hne k (List.mem_append_right _ (List.mem_append_right _ (List.mem_append_right _ hk)))
  obtain ⟨v9, x5, f5, e5, o5, -⟩ := h5
  simp only [List.cons.injEq, and_true] at e5
  subst e5
  obtain ⟨a1, b1, c1, r1⟩ := h1.rd
  obtain ⟨a3, b3, c3, r3⟩ := o3.rd
  obtain ⟨a4, b4, c4, r4⟩ := o4.rd
  obtain ⟨a5, b5, c5, r5⟩ := o5.rd
  cases c1
  cases c3
  cases c4
  cases c5
  exact ⟨r1, r3, r4, r5⟩
theorem held_cells {w : World} {B : Nat} : ∀ {l : List HeldD} {xs : List Value} {f : List Nat}, OwnAll holdC w B l xs f → xs = cellsH l ∧ f = []
  | [], xs, f, h => ⟨h.1, h.2⟩
  | a :: l, xs, f, h => by
    obtain ⟨us, ys, f1, f2, rfl, rfl, ha, ht⟩ := h
    obtain ⟨rfl, rfl⟩ := held_cells ht
    obtain ⟨rfl, rfl⟩ := hold_own_inv ha
    exact ⟨by simp [cellsH], rfl⟩
theorem holds_row {w : World} {B : Nat} {l : List HeldD} {v : Value} {fp : List Nat} (h : holdsC.own w B l [v] fp) : w.ownsRow B 81 2 v l.length (cellsH l) ∧ fp = v.ownBlock.toList := by
  obtain ⟨v9, xs, f, e, o, rfl⟩ := h
  simp only [List.cons.injEq, and_true] at e
  subst e
  obtain ⟨rfl, rfl⟩ := held_cells o.all
  exact ⟨o.row, by rw [List.append_nil]⟩
theorem arr_ints {w : World} {g : Nat} {t : TypeId} {xs : List Int} (h : Arr w g t (xs.map (Value.int .i64))) : ∀ i, i < xs.length → w.cell? ⟨g, i, none⟩ = some (.int .i64 (xs.getD i 0)) := fun i hi => by
  rw [h.cell i]; simp [hi]
theorem wpList_append_heldD {ops : Array Oper} {rest : List Oper} {o : Oper} {a : Act} {Q : Exit → Act → World → Prop} {wn : World} {B g : Nat} {v : Value} {out : List HeldD} {h : HeldD} (hgd : o.guard = none) (s x : Operand)
    (ho : o.op = .call { callee := .builtin .append, args := #[s, x], argTypes := #[25, 25] })
    (hO : wn.ownsRow B 81 2 v out.length (cellsH out)) (hA : Arr wn g 81 [.int .i64 h.1, .int .i64 h.2]) (hs : a.eval s = v) (hx : a.eval x = .slice (some ⟨g, 0, none⟩) 1 1) (hB : B ≤ wn.heap.size) (hn : out.length ≤ 10000)
    (hk : ∀ p q w', w'.ownsRow B 81 2 (.slice p (out.length + 1) q) (out.length + 1) (cellsH (out ++ [h])) → wn.grownBy w' v.ownBlock → (∀ k, k ∈ (Value.slice p (out.length + 1) q).ownBlock.toList → k ∈ v.ownBlock.toList ∨ wn.heap.size ≤ k) → wpList Tryz.prog ops Q rest (a.put o.dst (.slice p (out.length + 1) q)) w') : wpList Tryz.prog ops Q (o :: rest) a wn := by
  obtain ⟨i0, hi, hz0, hz1, hz2⟩ := info_parts infoHeldP
  have hnew : ∀ j u, ([.int .i64 h.1, .int .i64 h.2] : List Value)[j]? = some u → wn.cell? ((⟨g, 0, none⟩ : Addr).add j) = some u := fun j u hj => hA.cells j u hj
  refine wpList_append_lies _ hgd s x 25 ho B 81 i0 (.agg #[.int .i64 0, .int .i64 0]) 2 16 Tryz.underlying25 hi hz0 hz1 hz2 rfl (by decide) _ out.length (cellsH out) hs hO ⟨g, 0, none⟩ 1 1 [.int .i64 h.1, .int .i64 h.2] hx rfl hnew (by intro u hu; simp at hu; rcases hu with rfl | rfl <;> rfl) (by decide) (by unfold maxLen; omega) (by omega) hB _ rfl ?_
  intro g6 c6 w6 hown6 hgrow6 hat6 hlt6
  rw [← cellsH_snoc] at hown6
  refine hk _ _ w6 hown6 hgrow6 (fun k hk => ?_)
  have hg : k = g6 := (Option.some.inj (mem_opt.1 hk)).symm
  subst hg
  rcases hat6 with h1 | h1
  · exact .inl (mem_opt.2 h1)
  · exact .inr (by rw [h1]; exact Nat.le_refl _)
/-- What it holds is other now: what was its own changed, no more. -/
theorem SesL.put4g {wn w6 : World} {B g N : Nat} {x : SesD} {a b c d d' : Value} {fb fc fd fd' F : List Nat} {l : List HeldD} (h : SesL wn B g x a b c d fb fc fd) (hN : ∀ k, k ∈ g :: (a.ownBlock.toList ++ (fb ++ (fc ++ fd))) → k < N) (hl : holdsC.own w6 B l [d'] fd') (ho : Only F wn w6) (hF : ∀ k, k ∈ F → k ∈ fd) (hin : ∀ k, k ∈ fd' → k ∈ fd ∨ N ≤ k) :
    SesL (w6.setCell ⟨g, 4, none⟩ d') B g (x.1, x.2.1, x.2.2.1, x.2.2.2.1, l) a b c d' fb fc fd' ∧ Arr w6 g 27 [a, .int .i64 x.2.1, b, c, d] := by
  have nd := h.nd
  have nd2 : (g :: (a.ownBlock.toList ++ (fb ++ (fc ++ fd')))).Nodup := by
    have h9 := nodup_part (P := g :: (a.ownBlock.toList ++ (fb ++ fc))) (f := fd) (Q := []) (by simpa using nd) (holds_nd hl) hin (fun k hk => hN k (by simp at hk ⊢; rcases hk with rfl | hk | hk | hk <;> simp [*])) (fun k hk => absurd hk (List.not_mem_nil))
    simpa using h9
  obtain ⟨n1, n2⟩ := List.nodup_cons.1 nd
  obtain ⟨m1, m2⟩ := List.nodup_cons.1 nd2
  obtain ⟨a1, a2, a3⟩ := List.nodup_append.1 n2
  obtain ⟨b1, b2, b3⟩ := List.nodup_append.1 a2
  obtain ⟨c1, c2, c3⟩ := List.nodup_append.1 b2
  have L6 : Arr w6 g 27 [a, .int .i64 x.2.1, b, c, d] := h.loc.only ho fun hk => n1 (List.mem_append_right _ (List.mem_append_right _ (List.mem_append_right _ (hF g hk))))
  exact ⟨⟨L6.set 4 d', cell_ownB (own_only h.ex ho fun k hk hf => a3 k hk k (List.mem_append_right _ (List.mem_append_right _ (hF k hf))) rfl) (fun e => m1 (List.mem_append_left _ e)), cell_own (blksC.other h.ask ho fun k hk hf => b3 k hk k (List.mem_append_right _ (hF k hf)) rfl) (fun e => m1 (List.mem_append_right _ (List.mem_append_left _ e))), cell_own (blksC.other h.use ho fun k hk hf => c3 k hk k (hF k hf) rfl) (fun e => m1 (List.mem_append_right _ (List.mem_append_right _ (List.mem_append_left _ e)))), cell_ownH hl (fun e => m1 (List.mem_append_right _ (List.mem_append_right _ (List.mem_append_right _ e)))), nd2, h.low⟩, L6⟩
theorem row_ne {w : World} {B g z n : Nat} {e t : TypeId} {v : Value} {xs vs : List Value} (h : w.ownsRow B e z v n xs) (hA : Arr w g t vs) (ht : t ≠ e) : v.ownBlock ≠ some g := by
  rcases h.2 with ⟨rfl, -⟩ | ⟨k, cap, cur, rfl, hb, hg, -⟩
  · intro h; cases h
  · intro h
    have e1 : k = g := Option.some.inj h
    subst e1
    have h2 := hg.symm.trans hA
    simp at h2
    exact ht h2.2.symm
theorem rdl_of {α : Type} {e : TypeId} {c : Cod α} {w : World} {B : Nat} {v : Value} {l : List α} {xs : List Value} {fp : List Nat} (h0 : w.ownsRow B e c.n v l.length xs) (ha : OwnAll c w B l xs fp) : ∃ p q, v = .slice p l.length q ∧ RdL c w p q l := by
  rcases h0.2 with ⟨rfl, hn⟩ | ⟨g, cap, cur, rfl, hb, hg, hle, hm, hs, ht⟩
  · exact ⟨none, 0, by rw [hn], by omega, by simp [maxLen], fun _ => rfl, fun hp => by omega⟩
  · refine ⟨_, cap, rfl, hle, hm, fun hh => by simp at hh, fun _ => ⟨g, 0, rfl, fun i a hi => ?_⟩⟩
    obtain ⟨us, hr, hu⟩ := ha.repAt i a hi
    refine ⟨us, hr, fun j u hj => ?_⟩
    have hx := hu j u hj
    have hlt : i * c.n + j < l.length * c.n := by rw [← ha.len]; exact (List.getElem?_eq_some_iff.1 hx).1
    rw [Nat.zero_add, World.ownsRow.cellAt h0 _ hlt]; exact hx
/-- A session that was drawn, right or bent; its bounds, no more. -/
def BentS (w : World) (b : Nat) (p : Option Addr) (q : Nat) (cs : List UInt8) (t : Int) (e : Ending) (w' : World) : Prop := ∃ (x : SesD) (vs : List Value) (t' : Int), e = .returned (.agg vs.toArray) ∧ Clo w' w.heap.size x vs ∧ hdC x.2.2.2.2 = hdS x.2.2.2.2 ∧ x.2.2.2.2.length ≤ 101 ∧ (∀ h ∈ x.2.2.2.2, 0 ≤ h.1 ∧ h.1 ≤ 100) ∧ (∀ c ∈ x.2.2.2.1, c.length ≤ 4) ∧ t ≤ t' ∧ t' ≤ t + 200 ∧ Src w' b p q cs t' ∧ w.grownBy w' (some b)
set_option maxRecDepth 4000 in
set_option maxHeartbeats 4000000 in
theorem l14Bent_c (b : Nat) (p : Option Addr) (q : Nat) (cs : List UInt8) (t : Int) (w : World) (hs : Src w b p q cs t) (ht : 0 ≤ t) (ht2 : t ≤ 500000000) :
    Calls Tryz.prog 14 #[.pointer (some ⟨b, 0, none⟩)] w fun e w' => BentS w b p q cs t e w' := by
  have hbw : Hid (b < w.heap.size) := hs.lt
  have R := Arr.new w [.slice none 0 0, .int .i64 0, .slice none 0 0, .slice none 0 0, .slice none 0 0] 27
  have GW := World.grownBy_alloc w (.cells #[.slice none 0 0, .int .i64 0, .slice none 0 0, .slice none 0 0, .slice none 0 0] 27) (some b)
  have HS := hs.keep (alloc_below w (.cells #[.slice none 0 0, .int .i64 0, .slice none 0 0, .slice none 0 0, .slice none 0 0] 27))
  have hz : Hid ((w.alloc (.cells #[.slice none 0 0, .int .i64 0, .slice none 0 0, .slice none 0 0, .slice none 0 0] 27)).heap.size = w.heap.size + 1) := size_alloc _ _
  have hres : Hid ((Tryz.prog.info? 27).map (·.size) = some 5) := by show _ = _; kernel_rfl
  clear hs
  go_enter Tryz.func14, Tryz.ntmps14
  go_wp2_with fail
  generalize hV : w.alloc (.cells #[.slice none 0 0, .int .i64 0, .slice none 0 0, .slice none 0 0, .slice none 0 0] 27) = V at *
  have hzV : Hid (V.heap.size = w.heap.size + 1) := hz.out
  clear hV hz
  refine (l14Right_c b p q cs t V HS ht (by omega)).mono ?_
  rintro e w1 ⟨x, vs, fp, t1, rfl, hown, hx1, hx2, hxa, hx3, hxu, hx4, hri, hok, ht3, ht4, HS1, hg⟩
  have hVs : Hid (V.heap.size ≤ w1.heap.size) := hg.size
  obtain ⟨p1, q1, p3, q3, p4, q4, p5, q5, fa, fb, fc, rfl, XS⟩ := SesL.of hown hg.size
  have GB := grownBy_trans hg (World.grownBy_alloc w1 (.cells [.slice p1 x.1.length q1, .int .i64 x.2.1, .slice p3 x.2.2.1.length q3, .slice p4 x.2.2.2.1.length q4, .slice p5 x.2.2.2.2.length q5].toArray 27) (some b))
  replace HS := HS1.keep (alloc_below w1 (.cells [.slice p1 x.1.length q1, .int .i64 x.2.1, .slice p3 x.2.2.1.length q3, .slice p4 x.2.2.2.1.length q4, .slice p5 x.2.2.2.2.length q5].toArray 27))
  have HX1 : Hid (x.1.length = 32) := hx1
  have HX2 : Hid (x.2.2.1.length ≤ 3) := hx2
  have HX3 : Hid (x.2.2.2.1.length ≤ 2) := hx3
  have HXA : Hid (∀ c ∈ x.2.2.1, c.length ≤ 3) := hxa
  have HXU : Hid (∀ c ∈ x.2.2.2.1, c.length ≤ 4) := hxu
  have HX4 : Hid (x.2.2.2.2.length ≤ 100) := hx4
  clear hown HS1 hg hx1 hx2 hxa hxu hx3 hx4
  have XG : Hid (V.heap.size ≤ w1.heap.size) := hVs
  clear hVs
  go_wp2_with fail
  generalize hW : w1.alloc (.cells #[.slice p1 x.1.length q1, .int .i64 x.2.1, .slice p3 x.2.2.1.length q3, .slice p4 x.2.2.2.1.length q4, .slice p5 x.2.2.2.2.length q5] 27) = W2 at *
  clear hW
  generalize hgz : w1.heap.size = gz at *
  clear hgz w1
  refine (l1Next_c b p q cs t1 16 W2 HS (by omega) (by omega) (by omega) (by omega)).mono ?_
  rintro e W3 ⟨r, rfl, hr1, hr2, HS2, hg⟩
  replace XS := XS.but hg (by have h1 := hbw.out; have h2 := hzV.out; omega)
  replace GB := grownBy_trans GB hg
  replace HS := HS2
  clear HS2 hg
  have hrc : r = 0 ∨ r = 1 ∨ r = 2 ∨ r = 3 ∨ r = 4 ∨ 5 ≤ r := by omega
  rcases hrc with rfl | rfl | rfl | rfl | rfl | h5
  · obtain ⟨g1, rfl⟩ : ∃ g1, p1 = some ⟨g1, 0, none⟩ := by
      rcases XS.ex.2 with ⟨-, h0⟩ | ⟨g1, cap, cur, e, -⟩
      · have := HX1.out; omega
      · cases e; exact ⟨g1, rfl⟩
    have hq := XS.ex.rd
    obtain ⟨pz, qz, ez, rz⟩ := hq
    cases ez
    have hq1 : 32 ≤ q1 := by have := rz.1; have := HX1.out; omega
    have hq2 : q1 ≤ 2 ^ 63 - 1 := rz.2.1
    clear rz
    have c0 := (XS.loc.cell 0).trans (show _ = some _ from rfl)
    have hl := HX1.out
    rw [hl] at c0
    have CL : Clo (W3.setCell ⟨gz, 0, none⟩ (.slice (some ⟨g1, 1, none⟩) 31 (q1 - 1))) V.heap.size (x.1.drop 1, x.2.1, x.2.2.1, x.2.2.2.1, x.2.2.2.2) [.slice (some ⟨g1, 1, none⟩) 31 (q1 - 1), .int .i64 x.2.1, .slice p3 x.2.2.1.length q3, .slice p4 x.2.2.2.1.length q4, .slice p5 x.2.2.2.2.length q5] := fun V9 hV => by
      obtain ⟨r1, r3, r4, r5⟩ := XS.rds (V := V9) (fun k h1 h2 h3 => (hV k h1 (by rw [World.size_setCell]; exact h2)).trans (heap_setCell_other W3 ⟨gz, 0, none⟩ k _ h3))
      have h9 := r1.cut 1 31 (q1 - 1) (by omega) (by omega) (by unfold maxLen; omega)
      have hl9 : (x.1.drop 1).length = 31 := by rw [List.length_drop, hl]
      rw [List.take_of_length_le (by omega)] at h9
      have h8 := session_mk (a := (x.1.drop 1, x.2.1, x.2.2.1, x.2.2.2.1, x.2.2.2.2)) h9 r3 r4 r5
      dsimp only at h8
      rw [hl9] at h8
      exact h8
    have fz := XS.loc.frozen 0
    have AR := XS.loc.set 0 (.slice (some ⟨g1, 1, none⟩) 31 (q1 - 1))
    replace GB := grown_cellN (g := gz) (i := 0) GB XS.low (.slice (some ⟨g1, 1, none⟩) 31 (q1 - 1))
    replace HS := src_cell (g := gz) (i := 0) HS (by have h1 := XS.low; have h2 := hbw.out; have h3 := hzV.out; omega) (.slice (some ⟨g1, 1, none⟩) 31 (q1 - 1))
    have R9 := R.other GB (fun e => by have h1 := Option.some.inj e; have h2 := hbw.out; omega)
    have d0 := (AR.cell 0).trans (show _ = some _ from rfl)
    have d1 := (AR.cell 1).trans (show _ = some _ from rfl)
    have d2 := (AR.cell 2).trans (show _ = some _ from rfl)
    have d3 := (AR.cell 3).trans (show _ = some _ from rfl)
    have d4 := (AR.cell 4).trans (show _ = some _ from rfl)
    go_wp2_with (refine wpList_store_row rfl 27 _ _ rfl w.heap.size #[.slice (some ⟨g1, 1, none⟩) 31 (q1 - 1), .int .i64 x.2.1, .slice p3 x.2.2.1.length q3, .slice p4 x.2.2.2.1.length q4, .slice p5 x.2.2.2.2.length q5] rfl rfl 27 #[.slice none 0 0, .int .i64 0, .slice none 0 0, .slice none 0 0, .slice none 0 0] R9 hres.out rfl (by simp [Value.oneCell']) ?_)
    exact bodyPost_ret (v := .agg #[.slice (some ⟨g1, 1, none⟩) 31 (q1 - 1), .int .i64 x.2.1, .slice p3 x.2.2.1.length q3, .slice p4 x.2.2.2.1.length q4, .slice p5 x.2.2.2.2.length q5]) (results_cell_row Tryz.results14 _ _ w.heap.size 27 _ (0, 0) _ rfl (R9.row [.slice (some ⟨g1, 1, none⟩) 31 (q1 - 1), .int .i64 x.2.1, .slice p3 x.2.2.1.length q3, .slice p4 x.2.2.2.1.length q4, .slice p5 x.2.2.2.2.length q5]) Tryz.underlying27 rfl hres.out) rfl ⟨_, [.slice (some ⟨g1, 1, none⟩) 31 (q1 - 1), .int .i64 x.2.1, .slice p3 x.2.2.1.length q3, .slice p4 x.2.2.2.1.length q4, .slice p5 x.2.2.2.2.length q5], t1 + 1, rfl, ((CL).low (show w.heap.size < V.heap.size by have h1 := hzV.out; omega) _).down (by have h2 := hzV.out; omega), hd_agree0 hri hok, by have := HX4.out; show x.2.2.2.2.length ≤ 101; omega, fun h hh => okB (hok h hh), HXU.out, by omega, by omega, HS.other (grown_rowS _ _ _) (fun k hk => by have h1 := Option.some.inj hk; have h2 := hbw.out; omega), grown_rowN (grownBy_trans GW GB) (Nat.le_refl _) _⟩
  · go_wp2_with fail
    refine (l1Pick_c b p q cs (t1 + 1) W3.heap.size [0, 3] 2 _ (HS.keep (alloc_below _ _)) (by omega) (by omega) rfl (by decide) (by decide) (by have := HS.lt; omega) (new_ints _ _ _ [0, 3] rfl)).mono ?_
    rintro e W4 ⟨r2, -, rfl, HS2, hg⟩
    replace XS := (XS.stay (alloc_below _ _)).but hg (by have h1 := hbw.out; have h2 := hzV.out; omega)
    replace GB := grownBy_trans (grownBy_trans GB (World.grownBy_alloc _ _ _)) hg
    replace HS := HS2
    clear HS2 hg
    have c1 := (XS.loc.cell 1).trans (show _ = some _ from rfl)
    have CL : Clo (W4.setCell ⟨gz, 1, none⟩ (.int .i64 r2)) V.heap.size (x.1, r2, x.2.2.1, x.2.2.2.1, x.2.2.2.2) [.slice p1 x.1.length q1, .int .i64 r2, .slice p3 x.2.2.1.length q3, .slice p4 x.2.2.2.1.length q4, .slice p5 x.2.2.2.2.length q5] := fun V9 hV => by
      obtain ⟨r1, r3, r4, r5⟩ := XS.rds (V := V9) (fun k h1 h2 h3 => (hV k h1 (by rw [World.size_setCell]; exact h2)).trans (heap_setCell_other W4 ⟨gz, 1, none⟩ k _ h3))
      exact session_mk (a := (x.1, r2, x.2.2.1, x.2.2.2.1, x.2.2.2.2)) r1 r3 r4 r5
    have fz := XS.loc.frozen 1
    have AR := XS.loc.set 1 (.int .i64 r2)
    replace GB := grown_cellN (g := gz) (i := 1) GB XS.low (.int .i64 r2)
    replace HS := src_cell (g := gz) (i := 1) HS (by have h1 := XS.low; have h2 := hbw.out; have h3 := hzV.out; omega) (.int .i64 r2)
    have R9 := R.other GB (fun e => by have h1 := Option.some.inj e; have h2 := hbw.out; omega)
    have d0 := (AR.cell 0).trans (show _ = some _ from rfl)
    have d1 := (AR.cell 1).trans (show _ = some _ from rfl)
    have d2 := (AR.cell 2).trans (show _ = some _ from rfl)
    have d3 := (AR.cell 3).trans (show _ = some _ from rfl)
    have d4 := (AR.cell 4).trans (show _ = some _ from rfl)
    go_wp2_with (refine wpList_store_row rfl 27 _ _ rfl w.heap.size #[.slice p1 x.1.length q1, .int .i64 r2, .slice p3 x.2.2.1.length q3, .slice p4 x.2.2.2.1.length q4, .slice p5 x.2.2.2.2.length q5] rfl rfl 27 #[.slice none 0 0, .int .i64 0, .slice none 0 0, .slice none 0 0, .slice none 0 0] R9 hres.out rfl (by simp [Value.oneCell']) ?_)
    exact bodyPost_ret (v := .agg #[.slice p1 x.1.length q1, .int .i64 r2, .slice p3 x.2.2.1.length q3, .slice p4 x.2.2.2.1.length q4, .slice p5 x.2.2.2.2.length q5]) (results_cell_row Tryz.results14 _ _ w.heap.size 27 _ (0, 0) _ rfl (R9.row [.slice p1 x.1.length q1, .int .i64 r2, .slice p3 x.2.2.1.length q3, .slice p4 x.2.2.2.1.length q4, .slice p5 x.2.2.2.2.length q5]) Tryz.underlying27 rfl hres.out) rfl ⟨_, [.slice p1 x.1.length q1, .int .i64 r2, .slice p3 x.2.2.1.length q3, .slice p4 x.2.2.2.1.length q4, .slice p5 x.2.2.2.2.length q5], t1 + 1 + 1, rfl, ((CL).low (show w.heap.size < V.heap.size by have h1 := hzV.out; omega) _).down (by have h2 := hzV.out; omega), hd_agree0 hri hok, by have := HX4.out; show x.2.2.2.2.length ≤ 101; omega, fun h hh => okB (hok h hh), HXU.out, by omega, by omega, HS.other (grown_rowS _ _ _) (fun k hk => by have h1 := Option.some.inj hk; have h2 := hbw.out; omega), grown_rowN (grownBy_trans GW GB) (Nat.le_refl _) _⟩
  · have HN : Hid (∀ k, k ∈ gz :: ((Value.slice p1 x.1.length q1).ownBlock.toList ++ (fa ++ (fb ++ fc))) → k < W3.heap.size) := XS.lt
    have hVW : Hid (V.heap.size ≤ W3.heap.size) := GB.size
    have GB0 := GB
    clear GB
    go_wp2_with fail
    apply share
    case h =>
      intro JN
      have GB := World.grownBy.refl W3 (some b)
      have hne := Gen.But.some b W3
      have g2 := Gen.But.cell (b := b) ((XS.loc.cell 2).trans (show _ = some _ from rfl)) (by have h1 := XS.low; have h2 := hbw.out; have h3 := hzV.out; show gz ≠ b; omega)
      refine Gen.wp_region_pick (Gen.But.pre b) [0, 1, 2] 5 2 3 rfl rfl rfl (by kernel_rfl) (by kernel_rfl) (by kernel_rfl) (by kernel_rfl) ?_
      simp only [opsAt, List.getElem?_toArray, List.getElem?_cons_zero, List.getElem?_cons_succ]
      repeat (go_big_quiet_step (fail))
      refine wpQuiet_nil ?_
      clear g2
      refine Gen.wpM_only (i := 3) (by kernel_rfl) ?_
      refine Gen.mOp_call rfl (by go_simp) 17 _ #[.pointer (some ⟨b, 0, none⟩)] (fun w => by go_simp) rfl ?_
      rintro _ ⟨n9, rfl⟩
      have D9 : Below W3.heap.size W3 (W3.drewN n9) := ⟨rfl, rfl, rfl, Nat.le_refl _, fun _ _ => rfl⟩
      have G9 := grownBy_drewN W3 n9 (some b)
      generalize W3.drewN n9 = sv1 at *
      replace HS := HS.keep D9
      replace XS := XS.stay D9
      replace GB := grownBy_trans GB G9
      clear D9 G9
      refine (l13DrawContext_c b p q cs (t1 + 1) _ HS (by omega) (by omega)).mono ?_
      rintro e wg1 ⟨vv, bs, t2, rfl, ko, hbl, htt, htu, hs2, hg⟩
      obtain ⟨pu, qu, rfl, -⟩ := ko.rd
      refine ⟨_, rfl, ⟨⟨wg1, hg⟩, rfl⟩, ?_⟩
      have KO := (ko.lower GB.size : Own _ W3.heap.size (.slice pu bs.length qu) bs)
      have HT := (show Hid (t1 + 1 ≤ t2 ∧ t2 ≤ t1 + 1 + 30) from ⟨htt, htu⟩)
      replace HS := hs2
      replace XS := XS.but hg (by have h1 := hbw.out; have h2 := hzV.out; omega)
      replace GB := grownBy_trans GB hg
      clear hg ko hbl htt htu hs2
      replace hne := Gen.But.some b wg1
      refine Gen.wpM_only (i := 4) (by kernel_rfl) ?_
      refine Gen.mOp_make rfl (by go_simp) ?_
      rintro _ ⟨n9, rfl⟩
      have D9 : Below wg1.heap.size wg1 (wg1.drewN n9) := ⟨rfl, rfl, rfl, Nat.le_refl _, fun _ _ => rfl⟩
      have G9 := grownBy_drewN wg1 n9 (some b)
      generalize wg1.drewN n9 = sv2 at *
      replace HS := HS.keep D9
      replace XS := XS.stay D9
      replace KO := KO.stay D9
      replace GB := grownBy_trans GB G9
      clear D9 G9
      refine ⟨.slice (some ⟨sv2.heap.size, 0, none⟩) 1 1, sv2.alloc (.cells #[.slice pu bs.length qu] 22), by go_simp, ⟨⟨_, World.grownBy_alloc _ _ _⟩, rfl⟩, ?_⟩
      have hD := alloc_below sv2 (.cells #[.slice pu bs.length qu] 22)
      have AA := Arr.new sv2 [.slice pu bs.length qu] 22
      replace HS := HS.keep hD
      replace XS := XS.stay hD
      replace KO := KO.stay hD
      replace GB := grownBy_trans GB (World.grownBy_alloc sv2 (.cells #[.slice pu bs.length qu] 22) (some b))
      clear hD
      replace hne := Gen.But.some b (sv2.alloc (.cells #[.slice pu bs.length qu] 22))
      generalize hW : (sv2.alloc (.cells #[.slice pu bs.length qu] 22)) = wg2 at *
      clear hW
      generalize sv2.heap.size = ga at *
      refine Gen.wpM_end (by kernel_rfl) rfl (by kernel_rfl) (by decide) ?_
      rintro _ ⟨n9, rfl⟩
      have D9 : Below wg2.heap.size wg2 (wg2.drewN n9) := ⟨rfl, rfl, rfl, Nat.le_refl _, fun _ _ => rfl⟩
      have G9 := grownBy_drewN wg2 n9 (some b)
      generalize wg2.drewN n9 = W5 at *
      simp only [List.drop_succ_cons, List.drop_zero]
      go_simp
      replace HS := HS.keep D9
      replace XS := XS.stay D9
      replace KO := KO.stay D9
      replace AA := AA.stay D9
      replace GB := grownBy_trans GB G9
      clear hne D9 G9
      revert AA
      revert HT
      revert KO
      revert XS
      revert HS
      revert GB
      revert ga
      revert qu
      revert pu
      revert t2
      revert bs
      revert W5
      exact JN.out
    clear HS XS
    intro W5 bs t2 pu qu ga GB HS XS KO HT AA
    obtain ⟨xs, f, ol, rfl⟩ := blks_inv XS.ask
    have hl2 : Hid (x.2.2.1.length ≤ 1000) := by have := HX2.out; show _ ≤ _; omega
    refine wpList_append_blkD (N := W3.heap.size) rfl (.tmp 23) (.tmp 26) rfl ol (fun k hk => HN.out k (List.mem_cons_of_mem _ (List.mem_append_right _ (List.mem_append_left _ hk)))) KO GB.size AA rfl rfl hVW.out hl2.out ?_
    intro p8 q8 w8 xs8 f8 o8 hg8 hin8 hb8
    have L8 := XS.at2 (Only.grown hg8) (fun k hk => List.mem_append_left _ hk)
    have e2 := (L8.cell 2).trans (show _ = some _ from rfl)
    have fz := L8.frozen 2
    have X8 := XS.put2 (N := W3.heap.size) HN.out (blks_of o8) (Only.grown hg8) (fun k hk => List.mem_append_left _ hk) hin8
    have HS8 := src_cell (g := gz) (i := 2) (HS.other hg8 (fun k hk => by have h1 := (World.ownsRow.lt ol.row k hk).1; have h2 := hbw.out; have h3 := hzV.out; omega)) (by have h1 := XS.low; have h2 := hbw.out; have h3 := hzV.out; omega) (.slice p8 (x.2.2.1.length + 1) q8)
    have GB8 := grown_cellN (g := gz) (i := 2) (grownBy_step (grownBy_trans GB0 GB) hg8 (fun k hk => .inl (World.ownsRow.lt ol.row k hk).1)) XS.low (.slice p8 (x.2.2.1.length + 1) q8)
    have AR := X8.loc
    clear L8 HS GB GB0
    have HS := HS8
    have GB := GB8
    clear HS8 GB8
    clear XS ol o8 hg8 hin8 hb8 KO AA
    have R9 := R.other GB (fun e => by have h1 := Option.some.inj e; have h2 := hbw.out; omega)
    have d0 := (AR.cell 0).trans (show _ = some _ from rfl)
    have d1 := (AR.cell 1).trans (show _ = some _ from rfl)
    have d2 := (AR.cell 2).trans (show _ = some _ from rfl)
    have d3 := (AR.cell 3).trans (show _ = some _ from rfl)
    have d4 := (AR.cell 4).trans (show _ = some _ from rfl)
    go_wp2_with (refine wpList_store_row rfl 27 _ _ rfl w.heap.size #[.slice p1 x.1.length q1, .int .i64 x.2.1, .slice p8 (x.2.2.1.length + 1) q8, .slice p4 x.2.2.2.1.length q4, .slice p5 x.2.2.2.2.length q5] rfl rfl 27 #[.slice none 0 0, .int .i64 0, .slice none 0 0, .slice none 0 0, .slice none 0 0] R9 hres.out rfl (by simp [Value.oneCell']) ?_)
    exact bodyPost_ret (v := .agg #[.slice p1 x.1.length q1, .int .i64 x.2.1, .slice p8 (x.2.2.1.length + 1) q8, .slice p4 x.2.2.2.1.length q4, .slice p5 x.2.2.2.2.length q5]) (results_cell_row Tryz.results14 _ _ w.heap.size 27 _ (0, 0) _ rfl (R9.row [.slice p1 x.1.length q1, .int .i64 x.2.1, .slice p8 (x.2.2.1.length + 1) q8, .slice p4 x.2.2.2.1.length q4, .slice p5 x.2.2.2.2.length q5]) Tryz.underlying27 rfl hres.out) rfl ⟨_, [.slice p1 x.1.length q1, .int .i64 x.2.1, .slice p8 (x.2.2.1.length + 1) q8, .slice p4 x.2.2.2.1.length q4, .slice p5 x.2.2.2.2.length q5], t2, rfl, ((X8.clo).low (show w.heap.size < V.heap.size by have h1 := hzV.out; omega) _).down (by have h2 := hzV.out; omega), hd_agree0 hri hok, by have := HX4.out; show x.2.2.2.2.length ≤ 101; omega, fun h hh => okB (hok h hh), HXU.out, by have := HT.out; omega, by have := HT.out; omega, HS.other (grown_rowS _ _ _) (fun k hk => by have h1 := Option.some.inj hk; have h2 := hbw.out; omega), grown_rowN (grownBy_trans GW GB) (Nat.le_refl _) _⟩
  · have HN : Hid (∀ k, k ∈ gz :: ((Value.slice p1 x.1.length q1).ownBlock.toList ++ (fa ++ (fb ++ fc))) → k < W3.heap.size) := XS.lt
    have hVW : Hid (V.heap.size ≤ W3.heap.size) := GB.size
    have GB0 := GB
    clear GB
    go_wp2_with fail
    apply share
    case h =>
      intro JN
      have GB := World.grownBy.refl W3 (some b)
      have hne := Gen.But.some b W3
      have g3 := Gen.But.cell (b := b) ((XS.loc.cell 3).trans (show _ = some _ from rfl)) (by have h1 := XS.low; have h2 := hbw.out; have h3 := hzV.out; show gz ≠ b; omega)
      have g2 := Gen.But.cell (b := b) ((XS.loc.cell 2).trans (show _ = some _ from rfl)) (by have h1 := XS.low; have h2 := hbw.out; have h3 := hzV.out; show gz ≠ b; omega)
      refine Gen.wp_region_pick (Gen.But.pre b) [0, 1, 2, 3] 5 1 3 rfl rfl rfl (by kernel_rfl) (by kernel_rfl) (by kernel_rfl) (by kernel_rfl) ?_
      simp only [opsAt, List.getElem?_toArray, List.getElem?_cons_zero, List.getElem?_cons_succ]
      repeat (go_big_quiet_step (fail))
      refine wpQuiet_nil ?_
      clear g3 g2
      refine Gen.wpM_only (i := 4) (by kernel_rfl) ?_
      refine Gen.mOp_call rfl (by go_simp) 48 _ #[.slice p3 x.2.2.1.length q3] (fun w => by go_simp) rfl ?_
      rintro _ ⟨n9, rfl⟩
      have D9 : Below W3.heap.size W3 (W3.drewN n9) := ⟨rfl, rfl, rfl, Nat.le_refl _, fun _ _ => rfl⟩
      have G9 := grownBy_drewN W3 n9 (some b)
      generalize W3.drewN n9 = sv1 at *
      replace HS := HS.keep D9
      replace XS := XS.stay D9
      replace GB := grownBy_trans GB G9
      clear D9 G9
      refine (l14Lists_c x.2.2.1 p3 q3 _ (XS.rds (fun _ _ _ _ => rfl)).2.1 (fun c hc => by have := HXA.out c hc; omega) (by have := HX2.out; omega)).mono ?_
      rintro e wg1 ⟨vl, ys, fl, rfl, ol, hb⟩
      have hg := grown_belowS hb (some b)
      obtain ⟨pl, ql, rfl, -⟩ := ol.rd
      refine ⟨_, rfl, ⟨⟨wg1, hg⟩, rfl⟩, ?_⟩
      have OL := (OwnL.low ol GB.size : OwnL 22 bytC _ W3.heap.size (.slice pl x.2.2.1.length ql) x.2.2.1 ys fl)
      replace HS := HS.keep hb
      replace XS := XS.but hg (by have h1 := hbw.out; have h2 := hzV.out; omega)
      replace GB := grownBy_trans GB hg
      clear hg ol hb
      replace hne := Gen.But.some b wg1
      refine Gen.wpM_end (by kernel_rfl) rfl (by kernel_rfl) (by decide) ?_
      rintro _ ⟨n9, rfl⟩
      have D9 : Below wg1.heap.size wg1 (wg1.drewN n9) := ⟨rfl, rfl, rfl, Nat.le_refl _, fun _ _ => rfl⟩
      have G9 := grownBy_drewN wg1 n9 (some b)
      generalize wg1.drewN n9 = W5 at *
      simp only [List.drop_succ_cons, List.drop_zero]
      go_simp
      replace HS := HS.keep D9
      replace XS := XS.stay D9
      replace OL := OwnL.stay OL D9
      replace GB := grownBy_trans GB G9
      clear hne D9 G9
      revert OL
      revert XS
      revert HS
      revert GB
      revert ql
      revert pl
      revert fl
      revert ys
      revert W5
      exact JN.out
    clear HS XS
    intro W5 ys fl pl ql GB HS XS OL
    obtain ⟨xs, f, ou, rfl⟩ := blks_inv XS.use
    obtain ⟨pz, qz, ez, rawl⟩ := ownsRow_raw OL.row
    cases ez
    have hl3 : Hid (x.2.2.2.1.length + x.2.2.1.length ≤ 1000000) := by have := HX2.out; have := HX3.out; show _ ≤ _; omega
    refine wpList_append_rawB rfl (.tmp 32) (.tmp 35) rfl V.heap.size _ x.2.2.2.1.length xs rfl ou.row pl ql x.2.2.1.length ys rfl rawl OL.all.one hl3.out (Nat.le_trans hVW.out GB.size) ?_
    intro v8 w8 o8 hg8
    obtain ⟨p8, q8, rfl, -⟩ := ownsRow_raw o8
    have X8 := XS.put3 (N := W3.heap.size) (l := []) (c' := .slice none 0 0) (fc' := []) HN.out nilB_own (Only.grown hg8) (fun k hk => List.mem_append_left _ hk) (fun k hk => absurd hk List.not_mem_nil)
    have L8 := XS.at3 (Only.grown hg8) (fun k hk => List.mem_append_left _ hk)
    have e3 := (L8.cell 3).trans (show _ = some _ from rfl)
    have fz := L8.frozen 3
    have AR := L8.set 3 (.slice p8 (x.2.2.2.1.length + x.2.2.1.length) q8)
    have ha8 := ou.all.fr (fun k hk => (Only.grown hg8).block k (ou.ins k (List.mem_append_right _ hk)).2 (fun hm => (List.nodup_append.1 ou.nd).2.2 k hm k hk rfl))
    have hb8 := (OL.low hVW.out).all.fr (fun k hk => (Only.grown hg8).block k (OL.ins k (List.mem_append_right _ hk)).2 (fun hm => by
      have h1 := (OL.ins k (List.mem_append_right _ hk)).1
      have h2 := HN.out k (List.mem_cons_of_mem _ (List.mem_append_right _ (List.mem_append_right _ (List.mem_append_left _ (List.mem_append_left _ hm)))))
      omega))
    have hall := OwnAll.append ha8 hb8
    have hng : ∀ k, k ∈ f ++ fl → k ≠ gz := fun k hk e => by
      rcases List.mem_append.1 hk with h | h
      · exact (List.nodup_cons.1 XS.nd).1 (by rw [← e]; exact List.mem_append_right _ (List.mem_append_right _ (List.mem_append_left _ (List.mem_append_right _ h))))
      · have h1 := (OL.ins k (List.mem_append_right _ h)).1
        have h2 := HN.out gz (List.mem_cons_self ..)
        omega
    have hne8 := row_ne o8 L8 (by decide)
    have CL : Clo (w8.setCell ⟨gz, 3, none⟩ (.slice p8 (x.2.2.2.1.length + x.2.2.1.length) q8)) V.heap.size (x.1, x.2.1, x.2.2.1, x.2.2.2.1 ++ x.2.2.1, x.2.2.2.2) [.slice p1 x.1.length q1, .int .i64 x.2.1, .slice p3 x.2.2.1.length q3, .slice p8 (x.2.2.2.1.length + x.2.2.1.length) q8, .slice p5 x.2.2.2.2.length q5] := fun V9 hV => by
      have hV2 : ∀ k, V.heap.size ≤ k → k < w8.heap.size → k ≠ gz → V9.heap[k]? = w8.heap[k]? := fun k h1 h2 h3 => (hV k h1 (by rw [World.size_setCell]; exact h2)).trans (heap_setCell_other w8 ⟨gz, 3, none⟩ k _ h3)
      obtain ⟨r1, r3, -, r5⟩ := X8.rds (V := V9) (fun k h1 h2 h3 => (hV2 k h1 (by rw [World.size_setCell] at h2; exact h2) h3).trans (heap_setCell_other w8 ⟨gz, 3, none⟩ k _ h3).symm)
      have o9 := ownsRow_fr o8 (fun k hk => hV2 k (World.ownsRow.lt o8 k hk).1 (World.ownsRow.lt o8 k hk).2 (fun e => hne8 (by rw [← e]; exact hk)))
      have a9 := hall.fr (fun k hk => hV2 k (hall.ins k hk).1 (hall.ins k hk).2 (hng k hk))
      obtain ⟨p9, q9, e9, r4⟩ := rdl_of (e := 22) (c := bytC) (l := x.2.2.2.1 ++ x.2.2.1) (by rw [List.length_append]; exact o9) a9
      simp only [Value.slice.injEq] at e9
      obtain ⟨rfl, -, rfl⟩ := e9
      have h8 := session_mk (a := (x.1, x.2.1, x.2.2.1, x.2.2.2.1 ++ x.2.2.1, x.2.2.2.2)) r1 r3 r4 r5
      dsimp only at h8
      rw [List.length_append] at h8
      exact h8
    have HS8 := src_cell (g := gz) (i := 3) (HS.other hg8 (fun k hk => by have h1 := (World.ownsRow.lt ou.row k hk).1; have h2 := hbw.out; have h3 := hzV.out; omega)) (by have h1 := XS.low; have h2 := hbw.out; have h3 := hzV.out; omega) (.slice p8 (x.2.2.2.1.length + x.2.2.1.length) q8)
    have GB8 := grown_cellN (g := gz) (i := 3) (grownBy_step (grownBy_trans GB0 GB) hg8 (fun k hk => .inl (World.ownsRow.lt ou.row k hk).1)) XS.low (.slice p8 (x.2.2.2.1.length + x.2.2.1.length) q8)
    clear X8 L8 HS GB GB0 ha8 hb8 hall hng hne8 o8 hg8 rawl ou XS
    have HS := HS8
    have GB := GB8
    clear HS8 GB8 OL
    have R9 := R.other GB (fun e => by have h1 := Option.some.inj e; have h2 := hbw.out; omega)
    have d0 := (AR.cell 0).trans (show _ = some _ from rfl)
    have d1 := (AR.cell 1).trans (show _ = some _ from rfl)
    have d2 := (AR.cell 2).trans (show _ = some _ from rfl)
    have d3 := (AR.cell 3).trans (show _ = some _ from rfl)
    have d4 := (AR.cell 4).trans (show _ = some _ from rfl)
    go_wp2_with (refine wpList_store_row rfl 27 _ _ rfl w.heap.size #[.slice p1 x.1.length q1, .int .i64 x.2.1, .slice p3 x.2.2.1.length q3, .slice p8 (x.2.2.2.1.length + x.2.2.1.length) q8, .slice p5 x.2.2.2.2.length q5] rfl rfl 27 #[.slice none 0 0, .int .i64 0, .slice none 0 0, .slice none 0 0, .slice none 0 0] R9 hres.out rfl (by simp [Value.oneCell']) ?_)
    exact bodyPost_ret (v := .agg #[.slice p1 x.1.length q1, .int .i64 x.2.1, .slice p3 x.2.2.1.length q3, .slice p8 (x.2.2.2.1.length + x.2.2.1.length) q8, .slice p5 x.2.2.2.2.length q5]) (results_cell_row Tryz.results14 _ _ w.heap.size 27 _ (0, 0) _ rfl (R9.row [.slice p1 x.1.length q1, .int .i64 x.2.1, .slice p3 x.2.2.1.length q3, .slice p8 (x.2.2.2.1.length + x.2.2.1.length) q8, .slice p5 x.2.2.2.2.length q5]) Tryz.underlying27 rfl hres.out) rfl ⟨_, [.slice p1 x.1.length q1, .int .i64 x.2.1, .slice p3 x.2.2.1.length q3, .slice p8 (x.2.2.2.1.length + x.2.2.1.length) q8, .slice p5 x.2.2.2.2.length q5], t1 + 1, rfl, ((CL).low (show w.heap.size < V.heap.size by have h1 := hzV.out; omega) _).down (by have h2 := hzV.out; omega), hd_agree0 hri hok, by have := HX4.out; show x.2.2.2.2.length ≤ 101; omega, fun h hh => okB (hok h hh), fun c hc => (List.mem_append.1 hc).elim (HXU.out c) (fun h => Nat.le_trans (HXA.out c h) (by decide)), by omega, by omega, HS.other (grown_rowS _ _ _) (fun k hk => by have h1 := Option.some.inj hk; have h2 := hbw.out; omega), grown_rowN (grownBy_trans GW GB) (Nat.le_refl _) _⟩
  · have HN : Hid (∀ k, k ∈ gz :: ((Value.slice p1 x.1.length q1).ownBlock.toList ++ (fa ++ (fb ++ fc))) → k < W3.heap.size) := XS.lt
    have hVW : Hid (V.heap.size ≤ W3.heap.size) := GB.size
    have GB0 := GB
    clear GB
    go_wp2_with fail
    apply share
    case h =>
      intro JN
      have GB := World.grownBy.refl W3 (some b)
      have hne := Gen.But.some b W3
      have g4 := Gen.But.cell (b := b) ((XS.loc.cell 4).trans (show _ = some _ from rfl)) (by have h1 := XS.low; have h2 := hbw.out; have h3 := hzV.out; show gz ≠ b; omega)
      refine Gen.wp_region_pick (Gen.But.pre b) [0, 1, 2, 5] 10 6 3 rfl rfl rfl (by kernel_rfl) (by kernel_rfl) (by kernel_rfl) (by kernel_rfl) ?_
      simp only [opsAt, List.getElem?_toArray, List.getElem?_cons_zero, List.getElem?_cons_succ]
      repeat (go_big_quiet_step (fail))
      refine wpQuiet_nil ?_
      clear g4
      refine Gen.wpM_two (i := 3) (j := 6) (by kernel_rfl) ?_ ?_
      · skip
        refine Gen.mOp_make rfl (by go_simp) ?_
        rintro _ ⟨n9, rfl⟩
        have D9 : Below W3.heap.size W3 (W3.drewN n9) := ⟨rfl, rfl, rfl, Nat.le_refl _, fun _ _ => rfl⟩
        have G9 := grownBy_drewN W3 n9 (some b)
        generalize W3.drewN n9 = sv1 at *
        replace HS := HS.keep D9
        replace XS := XS.stay D9
        replace GB := grownBy_trans GB G9
        clear D9 G9
        refine ⟨.slice (some ⟨sv1.heap.size, 0, none⟩) 4 4, sv1.alloc (.cells #[.int .i64 0, .int .i64 1, .int .i64 99, .int .i64 100] 2), by go_simp, ⟨⟨_, World.grownBy_alloc _ _ _⟩, rfl⟩, ?_⟩
        have hD := alloc_below sv1 (.cells #[.int .i64 0, .int .i64 1, .int .i64 99, .int .i64 100] 2)
        have AI := (Arr.new sv1 [.int .i64 0, .int .i64 1, .int .i64 99, .int .i64 100] 2 : Arr (sv1.alloc (.cells #[.int .i64 0, .int .i64 1, .int .i64 99, .int .i64 100] 2)) sv1.heap.size 2 (([0, 1, 99, 100] : List Int).map (Value.int .i64)))
        have GI := (show Hid (W3.heap.size ≤ sv1.heap.size) from GB.size)
        replace HS := HS.keep hD
        replace XS := XS.stay hD
        replace GB := grownBy_trans GB (World.grownBy_alloc sv1 (.cells #[.int .i64 0, .int .i64 1, .int .i64 99, .int .i64 100] 2) (some b))
        clear hD
        replace hne := Gen.But.some b (sv1.alloc (.cells #[.int .i64 0, .int .i64 1, .int .i64 99, .int .i64 100] 2))
        generalize hW : (sv1.alloc (.cells #[.int .i64 0, .int .i64 1, .int .i64 99, .int .i64 100] 2)) = wg1 at *
        clear hW
        generalize sv1.heap.size = gi at *
        refine Gen.wpM_two (i := 4) (j := 6) (by kernel_rfl) ?_ ?_
        · skip
          refine Gen.mOp_call rfl (by go_simp) 28 _ #[.pointer (some ⟨b, 0, none⟩), .slice (some ⟨gi, 0, none⟩) 4 4] (fun w => by go_simp) rfl ?_
          rintro _ ⟨n9, rfl⟩
          have D9 : Below wg1.heap.size wg1 (wg1.drewN n9) := ⟨rfl, rfl, rfl, Nat.le_refl _, fun _ _ => rfl⟩
          have G9 := grownBy_drewN wg1 n9 (some b)
          generalize wg1.drewN n9 = sv2 at *
          replace HS := HS.keep D9
          replace XS := XS.stay D9
          replace AI := AI.stay D9
          replace GB := grownBy_trans GB G9
          clear D9 G9
          refine (l1Pick_c b p q cs (t1 + 1) gi ([0, 1, 99, 100] : List Int) 4 _ HS (by omega) (by omega) rfl (by decide) (by decide) (by have h1 := GI.out; have h2 := hbw.out; have h3 := hzV.out; have h4 := hVW.out; omega) (arr_ints (xs := ([0, 1, 99, 100] : List Int)) AI)).mono ?_
          rintro e wg2 ⟨k1, hr9, rfl, hs2, hg⟩
          refine ⟨_, rfl, ⟨⟨wg2, hg⟩, rfl⟩, ?_⟩
          have BK := kb_of hr9
          replace HS := hs2
          replace XS := XS.but hg (by have h1 := hbw.out; have h2 := hzV.out; omega)
          replace AI := AI.other hg (fun e => by have h0 := Option.some.inj e; have h1 := GI.out; have h2 := hbw.out; have h3 := hzV.out; have h4 := hVW.out; omega)
          replace GB := grownBy_trans GB hg
          clear hg hr9 hs2
          replace hne := Gen.But.some b wg2
          refine Gen.wpM_only (i := 6) (by kernel_rfl) ?_
          refine Gen.mOp_make rfl (by go_simp) ?_
          rintro _ ⟨n9, rfl⟩
          have D9 : Below wg2.heap.size wg2 (wg2.drewN n9) := ⟨rfl, rfl, rfl, Nat.le_refl _, fun _ _ => rfl⟩
          have G9 := grownBy_drewN wg2 n9 (some b)
          generalize wg2.drewN n9 = sv3 at *
          replace HS := HS.keep D9
          replace XS := XS.stay D9
          replace AI := AI.stay D9
          replace GB := grownBy_trans GB G9
          clear D9 G9
          refine ⟨.slice (some ⟨sv3.heap.size, 0, none⟩) 2 2, sv3.alloc (.cells #[.int .i64 5, .int .i64 (-1)] 2), by go_simp, ⟨⟨_, World.grownBy_alloc _ _ _⟩, rfl⟩, ?_⟩
          have hD := alloc_below sv3 (.cells #[.int .i64 5, .int .i64 (-1)] 2)
          have AJ := (Arr.new sv3 [.int .i64 5, .int .i64 (-1)] 2 : Arr (sv3.alloc (.cells #[.int .i64 5, .int .i64 (-1)] 2)) sv3.heap.size 2 (([5, -1] : List Int).map (Value.int .i64)))
          have GJ := (show Hid (W3.heap.size ≤ sv3.heap.size) from GB.size)
          replace HS := HS.keep hD
          replace XS := XS.stay hD
          replace AI := AI.stay hD
          replace GB := grownBy_trans GB (World.grownBy_alloc sv3 (.cells #[.int .i64 5, .int .i64 (-1)] 2) (some b))
          clear hD
          replace hne := Gen.But.some b (sv3.alloc (.cells #[.int .i64 5, .int .i64 (-1)] 2))
          generalize hW : (sv3.alloc (.cells #[.int .i64 5, .int .i64 (-1)] 2)) = wg3 at *
          clear hW
          generalize sv3.heap.size = gj at *
          refine Gen.wpM_only (i := 7) (by kernel_rfl) ?_
          refine Gen.mOp_call rfl (by go_simp) 28 _ #[.pointer (some ⟨b, 0, none⟩), .slice (some ⟨gj, 0, none⟩) 2 2] (fun w => by go_simp) rfl ?_
          rintro _ ⟨n9, rfl⟩
          have D9 : Below wg3.heap.size wg3 (wg3.drewN n9) := ⟨rfl, rfl, rfl, Nat.le_refl _, fun _ _ => rfl⟩
          have G9 := grownBy_drewN wg3 n9 (some b)
          generalize wg3.drewN n9 = sv4 at *
          replace HS := HS.keep D9
          replace XS := XS.stay D9
          replace AI := AI.stay D9
          replace AJ := AJ.stay D9
          replace GB := grownBy_trans GB G9
          clear D9 G9
          refine (l1Pick_c b p q cs (t1 + 1 + 1) gj ([5, -1] : List Int) 2 _ HS (by omega) (by omega) rfl (by decide) (by decide) (by have h1 := GJ.out; have h2 := hbw.out; have h3 := hzV.out; have h4 := hVW.out; omega) (arr_ints (xs := ([5, -1] : List Int)) AJ)).mono ?_
          rintro e wg4 ⟨k2, hr9, rfl, hs2, hg⟩
          refine ⟨_, rfl, ⟨⟨wg4, hg⟩, rfl⟩, ?_⟩
          replace HS := hs2
          replace XS := XS.but hg (by have h1 := hbw.out; have h2 := hzV.out; omega)
          replace AI := AI.other hg (fun e => by have h0 := Option.some.inj e; have h1 := GI.out; have h2 := hbw.out; have h3 := hzV.out; have h4 := hVW.out; omega)
          replace AJ := AJ.other hg (fun e => by have h0 := Option.some.inj e; have h1 := GJ.out; have h2 := hbw.out; have h3 := hzV.out; have h4 := hVW.out; omega)
          replace GB := grownBy_trans GB hg
          clear hg hr9 hs2
          replace hne := Gen.But.some b wg4
          refine Gen.wpM_more (Gen.But.pre b) [8] 2 1 rfl (by kernel_rfl) (by kernel_rfl) (by kernel_rfl) (by kernel_rfl) ?_
          simp only [opsAt, List.getElem?_toArray, List.getElem?_cons_zero, List.getElem?_cons_succ]
          go_simp
          repeat (go_big_quiet_step (fail))
          refine wpQuiet_nil ?_
          refine Gen.wpM_only (i := 9) (by kernel_rfl) ?_
          refine Gen.mOp_make rfl (by go_simp) ?_
          rintro _ ⟨n9, rfl⟩
          have D9 : Below wg4.heap.size wg4 (wg4.drewN n9) := ⟨rfl, rfl, rfl, Nat.le_refl _, fun _ _ => rfl⟩
          have G9 := grownBy_drewN wg4 n9 (some b)
          generalize wg4.drewN n9 = sv5 at *
          replace HS := HS.keep D9
          replace XS := XS.stay D9
          replace AI := AI.stay D9
          replace AJ := AJ.stay D9
          replace GB := grownBy_trans GB G9
          clear D9 G9
          refine ⟨.slice (some ⟨sv5.heap.size, 0, none⟩) 1 1, sv5.alloc (.cells #[.int .i64 k1, .int .i64 k2] 81), by go_simp, ⟨⟨_, World.grownBy_alloc _ _ _⟩, rfl⟩, ?_⟩
          have hD := alloc_below sv5 (.cells #[.int .i64 k1, .int .i64 k2] 81)
          have AA := Arr.new sv5 [.int .i64 k1, .int .i64 k2] 81
          replace HS := HS.keep hD
          replace XS := XS.stay hD
          replace AI := AI.stay hD
          replace AJ := AJ.stay hD
          replace GB := grownBy_trans GB (World.grownBy_alloc sv5 (.cells #[.int .i64 k1, .int .i64 k2] 81) (some b))
          clear hD
          replace hne := Gen.But.some b (sv5.alloc (.cells #[.int .i64 k1, .int .i64 k2] 81))
          generalize hW : (sv5.alloc (.cells #[.int .i64 k1, .int .i64 k2] 81)) = wg5 at *
          clear hW
          generalize sv5.heap.size = ga at *
          refine Gen.wpM_end (by kernel_rfl) rfl (by kernel_rfl) (by decide) ?_
          rintro _ ⟨n9, rfl⟩
          have D9 : Below wg5.heap.size wg5 (wg5.drewN n9) := ⟨rfl, rfl, rfl, Nat.le_refl _, fun _ _ => rfl⟩
          have G9 := grownBy_drewN wg5 n9 (some b)
          generalize wg5.drewN n9 = W5 at *
          simp only [List.drop_succ_cons, List.drop_zero]
          go_simp
          replace HS := HS.keep D9
          replace XS := XS.stay D9
          replace AI := AI.stay D9
          replace AJ := AJ.stay D9
          replace AA := AA.stay D9
          replace GB := grownBy_trans GB G9
          clear hne D9 G9
          revert AA
          revert GJ
          revert AJ
          revert BK
          revert GI
          revert AI
          revert XS
          revert HS
          revert GB
          revert ga
          revert k2
          revert gj
          revert k1
          revert gi
          revert W5
          exact JN.out
        · skip
          refine Gen.mOp_make rfl (by go_simp) ?_
          rintro _ ⟨n9, rfl⟩
          have D9 : Below wg1.heap.size wg1 (wg1.drewN n9) := ⟨rfl, rfl, rfl, Nat.le_refl _, fun _ _ => rfl⟩
          have G9 := grownBy_drewN wg1 n9 (some b)
          generalize wg1.drewN n9 = sv6 at *
          replace HS := HS.keep D9
          replace XS := XS.stay D9
          replace AI := AI.stay D9
          replace GB := grownBy_trans GB G9
          clear D9 G9
          refine ⟨.slice (some ⟨sv6.heap.size, 0, none⟩) 2 2, sv6.alloc (.cells #[.int .i64 5, .int .i64 (-1)] 2), by go_simp, ⟨⟨_, World.grownBy_alloc _ _ _⟩, rfl⟩, ?_⟩
          have hD := alloc_below sv6 (.cells #[.int .i64 5, .int .i64 (-1)] 2)
          have AJ := (Arr.new sv6 [.int .i64 5, .int .i64 (-1)] 2 : Arr (sv6.alloc (.cells #[.int .i64 5, .int .i64 (-1)] 2)) sv6.heap.size 2 (([5, -1] : List Int).map (Value.int .i64)))
          have GJ := (show Hid (W3.heap.size ≤ sv6.heap.size) from GB.size)
          replace HS := HS.keep hD
          replace XS := XS.stay hD
          replace AI := AI.stay hD
          replace GB := grownBy_trans GB (World.grownBy_alloc sv6 (.cells #[.int .i64 5, .int .i64 (-1)] 2) (some b))
          clear hD
          replace hne := Gen.But.some b (sv6.alloc (.cells #[.int .i64 5, .int .i64 (-1)] 2))
          generalize hW : (sv6.alloc (.cells #[.int .i64 5, .int .i64 (-1)] 2)) = wg6 at *
          clear hW
          generalize sv6.heap.size = gj at *
          refine Gen.wpM_only (i := 4) (by kernel_rfl) ?_
          refine Gen.mOp_call rfl (by go_simp) 28 _ #[.pointer (some ⟨b, 0, none⟩), .slice (some ⟨gi, 0, none⟩) 4 4] (fun w => by go_simp) rfl ?_
          rintro _ ⟨n9, rfl⟩
          have D9 : Below wg6.heap.size wg6 (wg6.drewN n9) := ⟨rfl, rfl, rfl, Nat.le_refl _, fun _ _ => rfl⟩
          have G9 := grownBy_drewN wg6 n9 (some b)
          generalize wg6.drewN n9 = sv7 at *
          replace HS := HS.keep D9
          replace XS := XS.stay D9
          replace AI := AI.stay D9
          replace AJ := AJ.stay D9
          replace GB := grownBy_trans GB G9
          clear D9 G9
          refine (l1Pick_c b p q cs (t1 + 1) gi ([0, 1, 99, 100] : List Int) 4 _ HS (by omega) (by omega) rfl (by decide) (by decide) (by have h1 := GI.out; have h2 := hbw.out; have h3 := hzV.out; have h4 := hVW.out; omega) (arr_ints (xs := ([0, 1, 99, 100] : List Int)) AI)).mono ?_
          rintro e wg7 ⟨k1, hr9, rfl, hs2, hg⟩
          refine ⟨_, rfl, ⟨⟨wg7, hg⟩, rfl⟩, ?_⟩
          have BK := kb_of hr9
          replace HS := hs2
          replace XS := XS.but hg (by have h1 := hbw.out; have h2 := hzV.out; omega)
          replace AI := AI.other hg (fun e => by have h0 := Option.some.inj e; have h1 := GI.out; have h2 := hbw.out; have h3 := hzV.out; have h4 := hVW.out; omega)
          replace AJ := AJ.other hg (fun e => by have h0 := Option.some.inj e; have h1 := GJ.out; have h2 := hbw.out; have h3 := hzV.out; have h4 := hVW.out; omega)
          replace GB := grownBy_trans GB hg
          clear hg hr9 hs2
          replace hne := Gen.But.some b wg7
          refine Gen.wpM_only (i := 7) (by kernel_rfl) ?_
          refine Gen.mOp_call rfl (by go_simp) 28 _ #[.pointer (some ⟨b, 0, none⟩), .slice (some ⟨gj, 0, none⟩) 2 2] (fun w => by go_simp) rfl ?_
          rintro _ ⟨n9, rfl⟩
          have D9 : Below wg7.heap.size wg7 (wg7.drewN n9) := ⟨rfl, rfl, rfl, Nat.le_refl _, fun _ _ => rfl⟩
          have G9 := grownBy_drewN wg7 n9 (some b)
          generalize wg7.drewN n9 = sv8 at *
          replace HS := HS.keep D9
          replace XS := XS.stay D9
          replace AI := AI.stay D9
          replace AJ := AJ.stay D9
          replace GB := grownBy_trans GB G9
          clear D9 G9
          refine (l1Pick_c b p q cs (t1 + 1 + 1) gj ([5, -1] : List Int) 2 _ HS (by omega) (by omega) rfl (by decide) (by decide) (by have h1 := GJ.out; have h2 := hbw.out; have h3 := hzV.out; have h4 := hVW.out; omega) (arr_ints (xs := ([5, -1] : List Int)) AJ)).mono ?_
          rintro e wg8 ⟨k2, hr9, rfl, hs2, hg⟩
          refine ⟨_, rfl, ⟨⟨wg8, hg⟩, rfl⟩, ?_⟩
          replace HS := hs2
          replace XS := XS.but hg (by have h1 := hbw.out; have h2 := hzV.out; omega)
          replace AI := AI.other hg (fun e => by have h0 := Option.some.inj e; have h1 := GI.out; have h2 := hbw.out; have h3 := hzV.out; have h4 := hVW.out; omega)
          replace AJ := AJ.other hg (fun e => by have h0 := Option.some.inj e; have h1 := GJ.out; have h2 := hbw.out; have h3 := hzV.out; have h4 := hVW.out; omega)
          replace GB := grownBy_trans GB hg
          clear hg hr9 hs2
          replace hne := Gen.But.some b wg8
          refine Gen.wpM_more (Gen.But.pre b) [8] 2 1 rfl (by kernel_rfl) (by kernel_rfl) (by kernel_rfl) (by kernel_rfl) ?_
          simp only [opsAt, List.getElem?_toArray, List.getElem?_cons_zero, List.getElem?_cons_succ]
          go_simp
          repeat (go_big_quiet_step (fail))
          refine wpQuiet_nil ?_
          refine Gen.wpM_only (i := 9) (by kernel_rfl) ?_
          refine Gen.mOp_make rfl (by go_simp) ?_
          rintro _ ⟨n9, rfl⟩
          have D9 : Below wg8.heap.size wg8 (wg8.drewN n9) := ⟨rfl, rfl, rfl, Nat.le_refl _, fun _ _ => rfl⟩
          have G9 := grownBy_drewN wg8 n9 (some b)
          generalize wg8.drewN n9 = sv9 at *
          replace HS := HS.keep D9
          replace XS := XS.stay D9
          replace AI := AI.stay D9
          replace AJ := AJ.stay D9
          replace GB := grownBy_trans GB G9
          clear D9 G9
          refine ⟨.slice (some ⟨sv9.heap.size, 0, none⟩) 1 1, sv9.alloc (.cells #[.int .i64 k1, .int .i64 k2] 81), by go_simp, ⟨⟨_, World.grownBy_alloc _ _ _⟩, rfl⟩, ?_⟩
          have hD := alloc_below sv9 (.cells #[.int .i64 k1, .int .i64 k2] 81)
          have AA := Arr.new sv9 [.int .i64 k1, .int .i64 k2] 81
          replace HS := HS.keep hD
          replace XS := XS.stay hD
          replace AI := AI.stay hD
          replace AJ := AJ.stay hD
          replace GB := grownBy_trans GB (World.grownBy_alloc sv9 (.cells #[.int .i64 k1, .int .i64 k2] 81) (some b))
          clear hD
          replace hne := Gen.But.some b (sv9.alloc (.cells #[.int .i64 k1, .int .i64 k2] 81))
          generalize hW : (sv9.alloc (.cells #[.int .i64 k1, .int .i64 k2] 81)) = wg9 at *
          clear hW
          generalize sv9.heap.size = ga at *
          refine Gen.wpM_end (by kernel_rfl) rfl (by kernel_rfl) (by decide) ?_
          rintro _ ⟨n9, rfl⟩
          have D9 : Below wg9.heap.size wg9 (wg9.drewN n9) := ⟨rfl, rfl, rfl, Nat.le_refl _, fun _ _ => rfl⟩
          have G9 := grownBy_drewN wg9 n9 (some b)
          generalize wg9.drewN n9 = W5 at *
          simp only [List.drop_succ_cons, List.drop_zero]
          go_simp
          replace HS := HS.keep D9
          replace XS := XS.stay D9
          replace AI := AI.stay D9
          replace AJ := AJ.stay D9
          replace AA := AA.stay D9
          replace GB := grownBy_trans GB G9
          clear hne D9 G9
          revert AA
          revert GJ
          revert AJ
          revert BK
          revert GI
          revert AI
          revert XS
          revert HS
          revert GB
          revert ga
          revert k2
          revert gj
          revert k1
          revert gi
          revert W5
          exact JN.out
      · skip
        refine Gen.mOp_make rfl (by go_simp) ?_
        rintro _ ⟨n9, rfl⟩
        have D9 : Below W3.heap.size W3 (W3.drewN n9) := ⟨rfl, rfl, rfl, Nat.le_refl _, fun _ _ => rfl⟩
        have G9 := grownBy_drewN W3 n9 (some b)
        generalize W3.drewN n9 = sv10 at *
        replace HS := HS.keep D9
        replace XS := XS.stay D9
        replace GB := grownBy_trans GB G9
        clear D9 G9
        refine ⟨.slice (some ⟨sv10.heap.size, 0, none⟩) 2 2, sv10.alloc (.cells #[.int .i64 5, .int .i64 (-1)] 2), by go_simp, ⟨⟨_, World.grownBy_alloc _ _ _⟩, rfl⟩, ?_⟩
        have hD := alloc_below sv10 (.cells #[.int .i64 5, .int .i64 (-1)] 2)
        have AJ := (Arr.new sv10 [.int .i64 5, .int .i64 (-1)] 2 : Arr (sv10.alloc (.cells #[.int .i64 5, .int .i64 (-1)] 2)) sv10.heap.size 2 (([5, -1] : List Int).map (Value.int .i64)))
        have GJ := (show Hid (W3.heap.size ≤ sv10.heap.size) from GB.size)
        replace HS := HS.keep hD
        replace XS := XS.stay hD
        replace GB := grownBy_trans GB (World.grownBy_alloc sv10 (.cells #[.int .i64 5, .int .i64 (-1)] 2) (some b))
        clear hD
        replace hne := Gen.But.some b (sv10.alloc (.cells #[.int .i64 5, .int .i64 (-1)] 2))
        generalize hW : (sv10.alloc (.cells #[.int .i64 5, .int .i64 (-1)] 2)) = wg10 at *
        clear hW
        generalize sv10.heap.size = gj at *
        refine Gen.wpM_only (i := 3) (by kernel_rfl) ?_
        refine Gen.mOp_make rfl (by go_simp) ?_
        rintro _ ⟨n9, rfl⟩
        have D9 : Below wg10.heap.size wg10 (wg10.drewN n9) := ⟨rfl, rfl, rfl, Nat.le_refl _, fun _ _ => rfl⟩
        have G9 := grownBy_drewN wg10 n9 (some b)
        generalize wg10.drewN n9 = sv11 at *
        replace HS := HS.keep D9
        replace XS := XS.stay D9
        replace AJ := AJ.stay D9
        replace GB := grownBy_trans GB G9
        clear D9 G9
        refine ⟨.slice (some ⟨sv11.heap.size, 0, none⟩) 4 4, sv11.alloc (.cells #[.int .i64 0, .int .i64 1, .int .i64 99, .int .i64 100] 2), by go_simp, ⟨⟨_, World.grownBy_alloc _ _ _⟩, rfl⟩, ?_⟩
        have hD := alloc_below sv11 (.cells #[.int .i64 0, .int .i64 1, .int .i64 99, .int .i64 100] 2)
        have AI := (Arr.new sv11 [.int .i64 0, .int .i64 1, .int .i64 99, .int .i64 100] 2 : Arr (sv11.alloc (.cells #[.int .i64 0, .int .i64 1, .int .i64 99, .int .i64 100] 2)) sv11.heap.size 2 (([0, 1, 99, 100] : List Int).map (Value.int .i64)))
        have GI := (show Hid (W3.heap.size ≤ sv11.heap.size) from GB.size)
        replace HS := HS.keep hD
        replace XS := XS.stay hD
        replace AJ := AJ.stay hD
        replace GB := grownBy_trans GB (World.grownBy_alloc sv11 (.cells #[.int .i64 0, .int .i64 1, .int .i64 99, .int .i64 100] 2) (some b))
        clear hD
        replace hne := Gen.But.some b (sv11.alloc (.cells #[.int .i64 0, .int .i64 1, .int .i64 99, .int .i64 100] 2))
        generalize hW : (sv11.alloc (.cells #[.int .i64 0, .int .i64 1, .int .i64 99, .int .i64 100] 2)) = wg11 at *
        clear hW
        generalize sv11.heap.size = gi at *
        refine Gen.wpM_only (i := 4) (by kernel_rfl) ?_
        refine Gen.mOp_call rfl (by go_simp) 28 _ #[.pointer (some ⟨b, 0, none⟩), .slice (some ⟨gi, 0, none⟩) 4 4] (fun w => by go_simp) rfl ?_
        rintro _ ⟨n9, rfl⟩
        have D9 : Below wg11.heap.size wg11 (wg11.drewN n9) := ⟨rfl, rfl, rfl, Nat.le_refl _, fun _ _ => rfl⟩
        have G9 := grownBy_drewN wg11 n9 (some b)
        generalize wg11.drewN n9 = sv12 at *
        replace HS := HS.keep D9
        replace XS := XS.stay D9
        replace AJ := AJ.stay D9
        replace AI := AI.stay D9
        replace GB := grownBy_trans GB G9
        clear D9 G9
        refine (l1Pick_c b p q cs (t1 + 1) gi ([0, 1, 99, 100] : List Int) 4 _ HS (by omega) (by omega) rfl (by decide) (by decide) (by have h1 := GI.out; have h2 := hbw.out; have h3 := hzV.out; have h4 := hVW.out; omega) (arr_ints (xs := ([0, 1, 99, 100] : List Int)) AI)).mono ?_
        rintro e wg12 ⟨k1, hr9, rfl, hs2, hg⟩
        refine ⟨_, rfl, ⟨⟨wg12, hg⟩, rfl⟩, ?_⟩
        have BK := kb_of hr9
        replace HS := hs2
        replace XS := XS.but hg (by have h1 := hbw.out; have h2 := hzV.out; omega)
        replace AJ := AJ.other hg (fun e => by have h0 := Option.some.inj e; have h1 := GJ.out; have h2 := hbw.out; have h3 := hzV.out; have h4 := hVW.out; omega)
        replace AI := AI.other hg (fun e => by have h0 := Option.some.inj e; have h1 := GI.out; have h2 := hbw.out; have h3 := hzV.out; have h4 := hVW.out; omega)
        replace GB := grownBy_trans GB hg
        clear hg hr9 hs2
        replace hne := Gen.But.some b wg12
        refine Gen.wpM_only (i := 7) (by kernel_rfl) ?_
        refine Gen.mOp_call rfl (by go_simp) 28 _ #[.pointer (some ⟨b, 0, none⟩), .slice (some ⟨gj, 0, none⟩) 2 2] (fun w => by go_simp) rfl ?_
        rintro _ ⟨n9, rfl⟩
        have D9 : Below wg12.heap.size wg12 (wg12.drewN n9) := ⟨rfl, rfl, rfl, Nat.le_refl _, fun _ _ => rfl⟩
        have G9 := grownBy_drewN wg12 n9 (some b)
        generalize wg12.drewN n9 = sv13 at *
        replace HS := HS.keep D9
        replace XS := XS.stay D9
        replace AJ := AJ.stay D9
        replace AI := AI.stay D9
        replace GB := grownBy_trans GB G9
        clear D9 G9
        refine (l1Pick_c b p q cs (t1 + 1 + 1) gj ([5, -1] : List Int) 2 _ HS (by omega) (by omega) rfl (by decide) (by decide) (by have h1 := GJ.out; have h2 := hbw.out; have h3 := hzV.out; have h4 := hVW.out; omega) (arr_ints (xs := ([5, -1] : List Int)) AJ)).mono ?_
        rintro e wg13 ⟨k2, hr9, rfl, hs2, hg⟩
        refine ⟨_, rfl, ⟨⟨wg13, hg⟩, rfl⟩, ?_⟩
        replace HS := hs2
        replace XS := XS.but hg (by have h1 := hbw.out; have h2 := hzV.out; omega)
        replace AJ := AJ.other hg (fun e => by have h0 := Option.some.inj e; have h1 := GJ.out; have h2 := hbw.out; have h3 := hzV.out; have h4 := hVW.out; omega)
        replace AI := AI.other hg (fun e => by have h0 := Option.some.inj e; have h1 := GI.out; have h2 := hbw.out; have h3 := hzV.out; have h4 := hVW.out; omega)
        replace GB := grownBy_trans GB hg
        clear hg hr9 hs2
        replace hne := Gen.But.some b wg13
        refine Gen.wpM_more (Gen.But.pre b) [8] 2 1 rfl (by kernel_rfl) (by kernel_rfl) (by kernel_rfl) (by kernel_rfl) ?_
        simp only [opsAt, List.getElem?_toArray, List.getElem?_cons_zero, List.getElem?_cons_succ]
        go_simp
        repeat (go_big_quiet_step (fail))
        refine wpQuiet_nil ?_
        refine Gen.wpM_only (i := 9) (by kernel_rfl) ?_
        refine Gen.mOp_make rfl (by go_simp) ?_
        rintro _ ⟨n9, rfl⟩
        have D9 : Below wg13.heap.size wg13 (wg13.drewN n9) := ⟨rfl, rfl, rfl, Nat.le_refl _, fun _ _ => rfl⟩
        have G9 := grownBy_drewN wg13 n9 (some b)
        generalize wg13.drewN n9 = sv14 at *
        replace HS := HS.keep D9
        replace XS := XS.stay D9
        replace AJ := AJ.stay D9
        replace AI := AI.stay D9
        replace GB := grownBy_trans GB G9
        clear D9 G9
        refine ⟨.slice (some ⟨sv14.heap.size, 0, none⟩) 1 1, sv14.alloc (.cells #[.int .i64 k1, .int .i64 k2] 81), by go_simp, ⟨⟨_, World.grownBy_alloc _ _ _⟩, rfl⟩, ?_⟩
        have hD := alloc_below sv14 (.cells #[.int .i64 k1, .int .i64 k2] 81)
        have AA := Arr.new sv14 [.int .i64 k1, .int .i64 k2] 81
        replace HS := HS.keep hD
        replace XS := XS.stay hD
        replace AJ := AJ.stay hD
        replace AI := AI.stay hD
        replace GB := grownBy_trans GB (World.grownBy_alloc sv14 (.cells #[.int .i64 k1, .int .i64 k2] 81) (some b))
        clear hD
        replace hne := Gen.But.some b (sv14.alloc (.cells #[.int .i64 k1, .int .i64 k2] 81))
        generalize hW : (sv14.alloc (.cells #[.int .i64 k1, .int .i64 k2] 81)) = wg14 at *
        clear hW
        generalize sv14.heap.size = ga at *
        refine Gen.wpM_end (by kernel_rfl) rfl (by kernel_rfl) (by decide) ?_
        rintro _ ⟨n9, rfl⟩
        have D9 : Below wg14.heap.size wg14 (wg14.drewN n9) := ⟨rfl, rfl, rfl, Nat.le_refl _, fun _ _ => rfl⟩
        have G9 := grownBy_drewN wg14 n9 (some b)
        generalize wg14.drewN n9 = W5 at *
        simp only [List.drop_succ_cons, List.drop_zero]
        go_simp
        replace HS := HS.keep D9
        replace XS := XS.stay D9
        replace AJ := AJ.stay D9
        replace AI := AI.stay D9
        replace AA := AA.stay D9
        replace GB := grownBy_trans GB G9
        clear hne D9 G9
        revert AA
        revert GJ
        revert AJ
        revert BK
        revert GI
        revert AI
        revert XS
        revert HS
        revert GB
        revert ga
        revert k2
        revert gj
        revert k1
        revert gi
        revert W5
        exact JN.out
    clear HS XS
    intro W5 gi k1 gj k2 ga GB HS XS AI GI BK AJ GJ AA
    obtain ⟨rH, rfl⟩ := holds_row XS.hel
    have hl4 : Hid (x.2.2.2.2.length ≤ 10000) := by have := HX4.out; show _ ≤ _; omega
    have hVW5 : Hid (V.heap.size ≤ W5.heap.size) := Nat.le_trans hVW.out GB.size
    refine wpList_append_heldD (out := x.2.2.2.2) (h := (k1, k2)) rfl (.tmp 41) (.tmp 49) rfl rH AA rfl rfl hVW5.out hl4.out ?_
    intro p8 q8 w8 o8 hg8 hin8
    obtain ⟨X8, L8⟩ := XS.put4g (N := W3.heap.size) (l := x.2.2.2.2 ++ [(k1, k2)]) HN.out (holds_of (by rw [List.length_append]; exact o8)) (Only.grown hg8) (fun k hk => hk) (fun k hk => by
      rw [List.append_nil] at hk
      rcases hin8 k hk with h | h
      · exact .inl h
      · exact .inr (Nat.le_trans GB.size h))
    have e4 := (L8.cell 4).trans (show _ = some _ from rfl)
    have fz := L8.frozen 4
    have hrH := fun k hk => World.ownsRow.lt rH k hk
    have HS8 := src_cell (g := gz) (i := 4) (HS.other hg8 (fun k hk => by have h1 := (hrH k hk).1; have h2 := hbw.out; have h3 := hzV.out; omega)) (by have h1 := XS.low; have h2 := hbw.out; have h3 := hzV.out; omega) (.slice p8 (x.2.2.2.2.length + 1) q8)
    have GB8 := grown_cellN (g := gz) (i := 4) (grownBy_step (grownBy_trans GB0 GB) hg8 (fun k hk => .inl (hrH k hk).1)) XS.low (.slice p8 (x.2.2.2.2.length + 1) q8)
    have AR := X8.loc
    clear L8 HS GB GB0
    have HS := HS8
    have GB := GB8
    clear HS8 GB8 XS rH o8 hg8 hin8 AA AI AJ hrH
    have R9 := R.other GB (fun e => by have h1 := Option.some.inj e; have h2 := hbw.out; omega)
    have d0 := (AR.cell 0).trans (show _ = some _ from rfl)
    have d1 := (AR.cell 1).trans (show _ = some _ from rfl)
    have d2 := (AR.cell 2).trans (show _ = some _ from rfl)
    have d3 := (AR.cell 3).trans (show _ = some _ from rfl)
    have d4 := (AR.cell 4).trans (show _ = some _ from rfl)
    go_wp2_with (refine wpList_store_row rfl 27 _ _ rfl w.heap.size #[.slice p1 x.1.length q1, .int .i64 x.2.1, .slice p3 x.2.2.1.length q3, .slice p4 x.2.2.2.1.length q4, .slice p8 (x.2.2.2.2.length + 1) q8] rfl rfl 27 #[.slice none 0 0, .int .i64 0, .slice none 0 0, .slice none 0 0, .slice none 0 0] R9 hres.out rfl (by simp [Value.oneCell']) ?_)
    exact bodyPost_ret (v := .agg #[.slice p1 x.1.length q1, .int .i64 x.2.1, .slice p3 x.2.2.1.length q3, .slice p4 x.2.2.2.1.length q4, .slice p8 (x.2.2.2.2.length + 1) q8]) (results_cell_row Tryz.results14 _ _ w.heap.size 27 _ (0, 0) _ rfl (R9.row [.slice p1 x.1.length q1, .int .i64 x.2.1, .slice p3 x.2.2.1.length q3, .slice p4 x.2.2.2.1.length q4, .slice p8 (x.2.2.2.2.length + 1) q8]) Tryz.underlying27 rfl hres.out) rfl ⟨_, [.slice p1 x.1.length q1, .int .i64 x.2.1, .slice p3 x.2.2.1.length q3, .slice p4 x.2.2.2.1.length q4, .slice p8 (x.2.2.2.2.length + 1) q8], t1 + 1 + 1 + 1, rfl, ((X8.clo).low (show w.heap.size < V.heap.size by have h1 := hzV.out; omega) _).down (by have h2 := hzV.out; omega), hd_agree hri hok, by have := HX4.out; show (x.2.2.2.2 ++ [(k1, k2)]).length ≤ 101; simp; omega, fun h hh => (List.mem_append.1 hh).elim (fun k => okB (hok h k)) (fun k => by rw [List.mem_singleton] at k; subst k; exact BK.out), HXU.out, by omega, by omega, HS.other (grown_rowS _ _ _) (fun k hk => by have h1 := Option.some.inj hk; have h2 := hbw.out; omega), grown_rowN (grownBy_trans GW GB) (Nat.le_refl _) _⟩
  · have e0 : (r == 0) = false := by rw [beq_eq_false_iff_ne]; omega
    have e1 : (r == 1) = false := by rw [beq_eq_false_iff_ne]; omega
    have e2 : (r == 2) = false := by rw [beq_eq_false_iff_ne]; omega
    have e3 : (r == 3) = false := by rw [beq_eq_false_iff_ne]; omega
    have e4 : (r == 4) = false := by rw [beq_eq_false_iff_ne]; omega
    have AR := XS.loc
    have R9 := R.other GB (fun e => by have h1 := Option.some.inj e; have h2 := hbw.out; omega)
    have d0 := (AR.cell 0).trans (show _ = some _ from rfl)
    have d1 := (AR.cell 1).trans (show _ = some _ from rfl)
    have d2 := (AR.cell 2).trans (show _ = some _ from rfl)
    have d3 := (AR.cell 3).trans (show _ = some _ from rfl)
    have d4 := (AR.cell 4).trans (show _ = some _ from rfl)
    go_wp2_with (refine wpList_store_row rfl 27 _ _ rfl w.heap.size #[.slice p1 x.1.length q1, .int .i64 x.2.1, .slice p3 x.2.2.1.length q3, .slice p4 x.2.2.2.1.length q4, .slice p5 x.2.2.2.2.length q5] rfl rfl 27 #[.slice none 0 0, .int .i64 0, .slice none 0 0, .slice none 0 0, .slice none 0 0] R9 hres.out rfl (by simp [Value.oneCell']) ?_)
    exact bodyPost_ret (v := .agg #[.slice p1 x.1.length q1, .int .i64 x.2.1, .slice p3 x.2.2.1.length q3, .slice p4 x.2.2.2.1.length q4, .slice p5 x.2.2.2.2.length q5]) (results_cell_row Tryz.results14 _ _ w.heap.size 27 _ (0, 0) _ rfl (R9.row [.slice p1 x.1.length q1, .int .i64 x.2.1, .slice p3 x.2.2.1.length q3, .slice p4 x.2.2.2.1.length q4, .slice p5 x.2.2.2.2.length q5]) Tryz.underlying27 rfl hres.out) rfl ⟨_, [.slice p1 x.1.length q1, .int .i64 x.2.1, .slice p3 x.2.2.1.length q3, .slice p4 x.2.2.2.1.length q4, .slice p5 x.2.2.2.2.length q5], t1 + 1, rfl, ((XS.clo).low (show w.heap.size < V.heap.size by have h1 := hzV.out; omega) _).down (by have h2 := hzV.out; omega), hd_agree0 hri hok, by have := HX4.out; omega, fun h hh => okB (hok h hh), HXU.out, by omega, by omega, HS.other (grown_rowS _ _ _) (fun k hk => by have h1 := Option.some.inj hk; have h2 := hbw.out; omega), grown_rowN (grownBy_trans GW GB) (Nat.le_refl _) _⟩
end Go.Proofs.YtbaldmmbphbinaaGreatDoor

