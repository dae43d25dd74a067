/- What the walk of FnAuths wants: a datum of a list that owns its memory is set anew; the list of signatures that it makes; what CheckAuth answers there. No program in it but by its types. -/
import Derived.Test.YtbaldmmbphbinaaGreatDoorAuthY
import Derived.Test.YtbaldmmbphbinaaGreatDoorJoint20
import Derived.Laws.MakeOwn
import Derived.Test.YtbaldmmbphbinaaGreatDoorJoint7
namespace Go.Proofs.YtbaldmmbphbinaaGreatDoor
open Go.ChangeShapes Go.WideShapes Go.ChangeAt Go.RowKit

/-- One datum of a list is set anew, with memory of its own. -/
theorem OwnL.refill {α : Type} {e : TypeId} {c : Cod α} {w : World} {B : Nat} {v : Value} {P D : List α} {a : α} {xs : List Value} {fp : List Nat} (h : OwnL e c w B v (P ++ a :: D) xs fp) :
    ∃ x1 us x2 f1 f f2, xs = x1 ++ us ++ x2 ∧ fp = f1 ++ f ++ f2 ∧ x1.length = P.length * c.n ∧ c.own w B a us f ∧
      ∀ (w' : World) (a' : α) (us' : List Value) (f' : List Nat), c.own w' B a' us' f' → w'.ownsRow B e c.n v (P ++ a' :: D).length (x1 ++ us' ++ x2) → (∀ k, k ∈ f1 ++ f2 → w'.heap[k]? = w.heap[k]?) → (∀ k, k ∈ f' → v.ownBlock ≠ some k ∧ k ∉ f1 ∧ k ∉ f2) → OwnL e c w' B v (P ++ a' :: D) (x1 ++ us' ++ x2) (f1 ++ f' ++ f2) := by
  obtain ⟨x1, x2', f1, f2', rfl, rfl, h1, us, x2, f, f2, rfl, rfl, ho, h2⟩ := h.all.split
  have hnd := h.nd
  have hv := (List.nodup_append.1 hnd).2.2
  have hf := List.nodup_append.1 (List.nodup_append.1 hnd).2.1
  have hf3 := List.nodup_append.1 hf.2.1
  refine ⟨x1, us, x2, f1, f, f2, by rw [List.append_assoc], by rw [List.append_assoc], h1.len, ho, fun w' a' us' f' ho' hrow hk hd => ⟨hrow, ?_, ?_⟩⟩
  · rw [List.append_assoc, List.append_assoc]
    exact (h1.fr fun k h3 => hk k (List.mem_append_left _ h3)).append ⟨us', x2, f', f2, rfl, rfl, ho', h2.fr fun k h3 => hk k (List.mem_append_right _ h3)⟩
  · have hmid : (f1 ++ f' ++ f2).Nodup := by
      rw [List.append_assoc]
      refine List.nodup_append.2 ⟨hf.1, List.nodup_append.2 ⟨c.nd ho', hf3.2.1, fun x hx y hy e => by subst e; exact (hd x hx).2.2 hy⟩, fun x hx y hy e => ?_⟩
      subst e
      rcases List.mem_append.1 hy with h3 | h3
      · exact (hd x h3).2.1 hx
      · exact hf.2.2 x hx x (List.mem_append_right _ h3) rfl
    refine List.nodup_append.2 ⟨nodup_opt _, hmid, fun x hx y hy e => ?_⟩
    subst e
    rcases List.mem_append.1 hy with h3 | h3
    · rcases List.mem_append.1 h3 with h4 | h4
      · exact hv x hx x (List.mem_append_left _ h4) rfl
      · exact (hd x h4).1 (mem_opt.1 hx)
    · exact hv x hx x (List.mem_append_right _ (List.mem_append_right _ h3)) rfl
theorem set_three {x1 x2 : List Value} (u0 u1 u2 a b c : Value) {n : Nat} (hn : x1.length = n) : (((x1 ++ [u0, u1, u2] ++ x2).set n a).set (n + 1) b).set (n + 2) c = x1 ++ [a, b, c] ++ x2 := by
  subst hn
  rw [List.append_assoc, List.append_assoc, List.set_append_right _ _ (Nat.le_refl _), List.set_append_right _ _ (by omega), List.set_append_right _ _ (by omega), Nat.sub_self, show x1.length + 1 - x1.length = 1 by omega, show x1.length + 2 - x1.length = 2 by omega]
  rfl
def s1 : SignD := (1, 1, zs 32)
def s0 : SignD := (0, 0, [])
/-- The list as the loop has it at k. -/
def sgK (n k : Nat) : List SignD := List.replicate k s1 ++ List.replicate (n - k) s0
theorem sgK_len (n k : Nat) (h : k ≤ n) : (sgK n k).length = n := by simp [sgK]; omega
theorem sgK_at {n k : Nat} (h : k < n) : sgK n k = List.replicate k s1 ++ s0 :: List.replicate (n - k - 1) s0 := by
  unfold sgK
  rw [show n - k = (n - k - 1) + 1 by omega, List.replicate_succ]
  rfl
theorem sgK_next {n k : Nat} : List.replicate k s1 ++ s1 :: List.replicate (n - k - 1) s0 = sgK n (k + 1) := by
  unfold sgK
  rw [List.replicate_succ', List.append_assoc, show n - (k + 1) = n - k - 1 by omega]
  rfl
theorem sgK_end (n : Nat) : sgK n n = List.replicate n s1 := by unfold sgK; rw [Nat.sub_self]; simp
theorem sg_right {n : Nat} {x : SignD} (hn : n ≤ 39) (hx : sgO x = 0) : sgC (List.replicate n s1 ++ [x]) = 0 := by
  refine sgC_all.2 ⟨by simp; omega, fun s hs => ?_⟩
  rcases List.mem_append.1 hs with h | h
  · rw [List.eq_of_mem_replicate h]; decide
  · rw [List.mem_singleton.1 h]; exact hx
theorem sg_found {n : Nat} {x : SignD} : ckA (List.replicate n s1 ++ [x]) (n : Int) x.1 x.2.2 = true := by
  rw [ckA_at (k := n) (s := x) (by rw [List.getElem?_append_right (by simp)]; simp)]
  simp
theorem ct_one {c : CertD} (h : okC c = true) : ctC [c] = 0 := by
  show (if ([c] : List CertD).length ≤ 8 then cgC [] [c] else 2) = 0
  rw [if_pos (by simp)]
  show (if okC c then (if hasC [] c.1 then 6 else cgC ([] ++ [c]) []) else 3) = 0
  rw [h]; rfl
/-- What is made of a signature that is there is believed. -/
theorem auths_check {x ctx : List UInt8} {r now : Int} {c : CertD} {n : Nat} {b : Int} (had : adC x r ctx c = 0) (hn : n ≤ 39) (hb : 0 ≤ b ∧ b ≤ 9) (h0 : 0 ≤ now) (h1 : now ≤ 9999) :
    caD x r [c] (List.replicate n s1 ++ [(c.1, b, dgN x r ctx c)]) now (mkN x r ctx c n) = if c.2.2 < now then (9, zeroA) else (0, (ctx, c, (n : Int), mcN x r ctx c n)) := by
  obtain ⟨hk, hct, hoc⟩ := adC_ok had
  have hp := okC_parts hoc
  have hr : raR (mkN x r ctx c n) = some (ctx, c, (n : Int), mcN x r ctx c n) := raR_make hct hoc (by omega) (by omega)
  have hsg : sgC (List.replicate n s1 ++ [((c.1, b, dgN x r ctx c) : SignD)]) = 0 := sg_right hn (sgO_mk hp.1 hp.2.1 (inB_true hb.1 hb.2) (by simp [is32, dgN_len]))
  have hca : caC x r [c] (List.replicate n s1 ++ [(c.1, b, dgN x r ctx c)]) now (mkN x r ctx c n) = hkC x r [c] (List.replicate n s1 ++ [(c.1, b, dgN x r ctx c)]) now (ctx, c, (n : Int), mcN x r ctx c n) :=
    (caC_ck hk (ct_one hoc) hsg (inB_true h0 h1)).trans (ckN_some hr)
  have hb : hkC x r [c] (List.replicate n s1 ++ [(c.1, b, dgN x r ctx c)]) now (ctx, c, (n : Int), mcN x r ctx c n) = if c.2.2 < now then 9 else 0 := by
    rw [hk_bn (ct_one hoc), show memC [c] c = true by simp [memC], if_pos rfl]
    rw [show bnB x r (List.replicate n s1 ++ [(c.1, b, dgN x r ctx c)]) (ctx, c, (n : Int), mcN x r ctx c n) = true by
      unfold bnB
      have h := sg_found (n := n) (x := ((c.1, b, dgN x r ctx c) : SignD))
      simp only [decide_eq_true_eq, and_true]
      exact h]
    rfl
  by_cases ho : c.2.2 < now
  · rw [if_pos ho] at hb ⊢
    exact caD_bad (hca.trans hb) (by decide)
  · rw [if_neg ho] at hb ⊢
    exact caD_good (hca.trans hb) hr
theorem auths_none {x ctx : List UInt8} {r : Int} {c : CertD} {n : Nat} {b : Int} (had : adC x r ctx c = 0) (hn : n ≤ 39) (hb : 0 ≤ b ∧ b ≤ 9) : caD x r [] (List.replicate n s1 ++ [(c.1, b, dgN x r ctx c)]) 0 (mkN x r ctx c n) = (4, zeroA) := by
  obtain ⟨hk, hct, hoc⟩ := adC_ok had
  have hp := okC_parts hoc
  have hr : raR (mkN x r ctx c n) = some (ctx, c, (n : Int), mcN x r ctx c n) := raR_make hct hoc (by omega) (by omega)
  have hsg : sgC (List.replicate n s1 ++ [((c.1, b, dgN x r ctx c) : SignD)]) = 0 := sg_right hn (sgO_mk hp.1 hp.2.1 (inB_true hb.1 hb.2) (by simp [is32, dgN_len]))
  refine caD_bad ((caC_ck hk (by decide) hsg (by decide)).trans ((ckN_some hr).trans ?_)) (by decide)
  exact hkC_no (fun h => by cases h.1)
theorem made_three (a b c : Value) (n : Nat) : (madeCells #[a, b, c] (n * 3)).toList = (List.replicate n [a, b, c]).flatten := by
  induction n with
  | zero => simp [madeCells]
  | succ n ih =>
    have e : (madeCells #[a, b, c] ((n + 1) * 3)).toList = (madeCells #[a, b, c] (n * 3)).toList ++ [a, b, c] := by
      unfold madeCells
      rw [show (n + 1) * 3 = n * 3 + 1 + 1 + 1 by omega]
      simp only [Array.toList_map, Array.toList_range, List.range_succ, List.map_append, List.map_cons, List.map_nil, List.append_assoc]
      congr 1
      have h0 : n * 3 % 3 = 0 := by omega
      have h1 : (n * 3 + 1) % 3 = 1 := by omega
      have h2 : (n * 3 + 1 + 1) % 3 = 2 := by omega
      simp [h0, h1, h2]
    rw [e, ih, List.replicate_succ', List.flatten_append]
    simp
theorem rdl_nilA {α : Type} {c : Cod α} (w : World) : RdL c w none 0 [] := ⟨Nat.le_refl _, by unfold maxLen; omega, fun _ => rfl, fun hp => absurd hp (by simp)⟩
theorem rdl_oneC (w : World) (c : CertD) : RdL certC (w.alloc (.cells #[.int .i64 c.1, .int .i64 c.2.1, .int .i64 c.2.2] 62)) (some ⟨w.heap.size, 0, none⟩) 1 [c] := by
  have A := Arr.new w [.int .i64 c.1, .int .i64 c.2.1, .int .i64 c.2.2] 62
  refine ⟨by simp, by unfold maxLen; decide, (fun e => by cases e), fun _ => ⟨w.heap.size, 0, rfl, fun i a hi => ?_⟩⟩
  match i, hi with
  | 0, hi => cases hi; exact ⟨_, certC.toRep (cert_own (w := w.alloc (.cells #[.int .i64 c.1, .int .i64 c.2.1, .int .i64 c.2.2] 62)) (B := 0)), fun j u hj => by rw [Nat.zero_mul, Nat.zero_add, A.cell]; exact hj⟩
theorem authR_f0 (k x y z t : Int) (p p2 : Option Addr) (n n2 q q2 : Nat) (w : World) : (Instr.field 72 (.agg #[.int .i64 k, .slice p n q, .int .i64 x, .int .i64 y, .int .i64 z, .int .i64 t, .slice p2 n2 q2]) 0).run Tryz.prog w = .ok (.int .i64 k) w := by kernel_rfl
end Go.Proofs.YtbaldmmbphbinaaGreatDoor

/- The draw DrawCheckAuth: what comes out can be read (written by tools/draw_ck.py). -/
namespace Go.Proofs.YtbaldmmbphbinaaGreatDoor
open Go.ChangeShapes Go.WideShapes Go.ChangeAt Go.RowKit

end Go.Proofs.YtbaldmmbphbinaaGreatDoor

