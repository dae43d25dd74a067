/- The contract of the laws' count of bytes: szByteS. -/
import Derived.Test.YthiabbgkfmopiaaGreatJoint7
import Derived.Test.YthiabbgkfmopiaaGreatCod
import Derived.Test.YthiabbgkfmopiaaGreatJoint6
namespace Go.Proofs.YthiabbgkfmopiaaGreat
open Go.ChangeShapes Go.WideShapes Go.ChangeAt Go.RowKit

set_option maxRecDepth 4000 in
set_option maxHeartbeats 400000 in
theorem szByteS_c (p : Option Addr) (q n : Nat) (left : Int) (w : World) (hn : n ≤ q) (hq : q ≤ 2 ^ 63 - 1) (h0 : 0 ≤ left) (h1 : left ≤ 1048576) :
    Calls Tryz.prog 37 #[.slice p n q, .int .i64 left] w fun e w' => e = .returned (.int .i64 (szR n left)) ∧ w' = w := by
  have hw : wrap64 (left - (n : Int)) = left - n := by unfold wrap64; omega
  by_cases h : (n : Int) ≤ left
  · rw [show szR n left = left - n by rw [szR, if_pos h]]
    have h2 : ¬ (left - (n : Int) < 0) := by omega
    go_enter Tryz.func37, Tryz.ntmps37
    go_wp2
    go_ret
    exact ⟨rfl, rfl⟩
  · rw [show szR n left = -1 by rw [szR, if_neg h]]
    have h2 : left - (n : Int) < 0 := by omega
    go_enter Tryz.func37, Tryz.ntmps37
    go_wp2
    go_ret
    exact ⟨rfl, rfl⟩
end Go.Proofs.YthiabbgkfmopiaaGreat

/- The laws' helpers on bytes, said of data that lies in memory ('Cod'): toByteS, szByteS, markByteS, heldByteS; what a call that writes in just these blocks leaves of an array. -/
namespace Go.Proofs.YthiabbgkfmopiaaGreat
open Go.ChangeShapes Go.WideShapes Go.ChangeAt Go.RowKit

theorem Arr.only {w w' : World} {g : Nat} {t : TypeId} {vs : List Value} {fp : List Nat} (h : Arr w g t vs) (ho : Only fp w w') (hn : g ∉ fp) : Arr w' g t vs := (ho.block g h.lt hn).trans h
theorem Only.trans_sub {fp f : List Nat} {a b c : World} (h : Only fp a b) (k : Only f b c) (hs : ∀ x, x ∈ f → x ∈ fp) : Only fp a c := h.trans (k.more hs)
theorem nodup_apart {f g : List Nat} (h : (f ++ g).Nodup) : ∀ k, k ∈ f → k ∉ g := fun k h1 h2 => (List.nodup_append.1 h).2.2 k h1 k h2 rfl
theorem nodup_apart' {f g : List Nat} (h : (f ++ g).Nodup) : ∀ k, k ∈ g → k ∉ f := fun k h1 h2 => (List.nodup_append.1 h).2.2 k h2 k h1 rfl
theorem Cod.set {α : Type} (c : Cod α) {w : World} {B : Nat} {a : α} {us : List Value} {fp : List Nat} (h : c.own w B a us fp) {p : Addr} (hp : p.block < B) (u : Value) : c.own (w.setCell p u) B a us fp :=
  c.fr h fun k hk => heap_setCell_other _ _ k _ (by have := (c.ins h k hk).1; omega)
theorem own_int {w : World} {B : Nat} {z : Int} {k : IntKind} : (intC k).own w B z [.int k z] [] := ⟨rfl, rfl⟩
theorem lt_nil {m : Nat} : ∀ k, k ∈ ([] : List Nat) → k < m := fun _ h => by cases h
theorem ge_nil {m : Nat} : ∀ k, k ∈ ([] : List Nat) → m ≤ k := fun _ h => by cases h
theorem ge_app {f g : List Nat} {m : Nat} (h1 : ∀ k, k ∈ f → m ≤ k) (h2 : ∀ k, k ∈ g → m ≤ k) : ∀ k, k ∈ f ++ g → m ≤ k := fun k hk => (List.mem_append.1 hk).elim (h1 k) (h2 k)
theorem byt_own {w : World} {B : Nat} {u : Value} {bs : List UInt8} (h : Own w B u bs) : bytC.own w B bs [u] u.ownBlock.toList := ⟨u, rfl, h, rfl⟩
theorem own_pair {α β : Type} {c : Cod α} {d : Cod β} {w : World} {B : Nat} {a : α × β} {us ts : List Value} {f g : List Nat} (m : Nat) (h1 : c.own w B a.1 us f) (h2 : d.own w B a.2 ts g) (hf : ∀ k, k ∈ f → k < m) (hg : ∀ k, k ∈ g → m ≤ k) : (prodC c d).own w B a (us ++ ts) (f ++ g) :=
  ⟨us, ts, f, g, rfl, rfl, List.nodup_append.2 ⟨c.nd h1, d.nd h2, fun x hx y hy e => by subst e; have := hf x hx; have := hg x hy; omega⟩, h1, h2⟩
theorem toByteS_k (a : List UInt8) (u : Value) (w : World) (h : bytC.rep w a [u]) (hl : a.length ≤ 1048576) :
    Calls Tryz.prog 49 #[u] w fun e w' => ∃ v fp, e = .returned v ∧ bytC.own w' w.heap.size a [v] fp ∧ Below w.heap.size w w' := by
  obtain ⟨p, q, e1, r⟩ := h
  simp only [List.cons.injEq, and_true] at e1
  subst e1
  refine (toByteS_c p q a w r hl).mono ?_
  rintro e w' ⟨v, rfl, o, hb⟩
  exact ⟨v, _, rfl, ⟨v, rfl, o, rfl⟩, hb⟩
theorem eqByteS_k (a : List UInt8) (u v : Value) (w : World) (h1 : bytC.rep w a [u]) (h2 : bytC.rep w a [v]) :
    Calls Tryz.prog 62 #[u, v] w fun e w' => e = .returned (.bool true) ∧ Below w.heap.size w w' := by
  obtain ⟨p, q, e1, r⟩ := h1
  obtain ⟨p2, q2, e2, r2⟩ := h2
  simp only [List.cons.injEq, and_true] at e1 e2
  subst e1 e2
  exact eqByteS_c p p2 q q2 a w r r2
theorem szByteS_k (a : List UInt8) (u : Value) (left : Int) (w : World) (h : bytC.rep w a [u]) (h0 : 0 ≤ left) (h1 : left ≤ 1048576) :
    Calls Tryz.prog 37 #[u, .int .i64 left] w fun e w' => e = .returned (.int .i64 (szR a.length left)) ∧ Below w.heap.size w w' := by
  obtain ⟨p, q, e1, r⟩ := h
  simp only [List.cons.injEq, and_true] at e1
  subst e1
  refine (szByteS_c p q a.length left w r.1 r.2.1 h0 h1).mono ?_
  rintro e w' ⟨rfl, rfl⟩
  exact ⟨rfl, Below.refl _ _⟩
end Go.Proofs.YthiabbgkfmopiaaGreat

/- How Cert lies in memory, alone and in lists, and the contracts of the laws' helpers on it (written by tools/certgen.py). -/
namespace Go.Proofs.YthiabbgkfmopiaaGreat
open Go.ChangeShapes Go.WideShapes Go.ChangeAt Go.RowKit

abbrev CertD := Int × Int × Int
def certC : Cod CertD := prodC (intC .i64) (prodC (intC .i64) (intC .i64))
theorem cert_rep {w : World} {a : CertD} {vs : List Value} (h : certC.rep w a vs) : vs = [.int .i64 a.1, .int .i64 a.2.1, .int .i64 a.2.2] := by
  obtain ⟨us0, ts0, rfl, h0, us1, ts1, rfl, h1, h2⟩ := h
  have e0 : us0 = [Value.int .i64 _] := h0
  have e1 : us1 = [Value.int .i64 _] := h1
  have e2 : ts1 = [Value.int .i64 _] := h2
  rw [e0, e1, e2]
  rfl
theorem cert_mk {w : World} {a : CertD} : certC.rep w a [.int .i64 a.1, .int .i64 a.2.1, .int .i64 a.2.2] := ⟨[_], _, rfl, rfl, [_], _, rfl, rfl, rfl⟩
theorem cert_own {w : World} {B : Nat} {a : CertD} : certC.own w B a [.int .i64 a.1, .int .i64 a.2.1, .int .i64 a.2.2] [] := ⟨[_], _, [], [], rfl, rfl, List.nodup_nil, ⟨rfl, rfl⟩, [_], _, [], [], rfl, rfl, List.nodup_nil, ⟨rfl, rfl⟩, rfl, rfl⟩
theorem cert_own_inv {w : World} {B : Nat} {a : CertD} {vs : List Value} {fp : List Nat} (h : certC.own w B a vs fp) : vs = [.int .i64 a.1, .int .i64 a.2.1, .int .i64 a.2.2] ∧ fp = [] := by
  obtain ⟨us0, ts0, f0, g0, rfl, rfl, -, ⟨rfl, rfl⟩, us1, ts1, f1, g1, rfl, rfl, -, ⟨rfl, rfl⟩, ⟨rfl, rfl⟩⟩ := h
  exact ⟨rfl, rfl⟩
abbrev certsC : Cod (List CertD) := listC 103 certC
theorem infoCert : (Tryz.prog.info? 103).map (fun i => (i.zero, i.size, i.bytes)) = some (some (.agg #[.int .i64 0, .int .i64 0, .int .i64 0]), 3, 24) := by kernel_rfl
set_option maxRecDepth 4000 in
set_option maxHeartbeats 1000000 in
theorem toCert_c (a : CertD) (w : World) :
    Calls Tryz.prog 46 #[.agg #[.int .i64 a.1, .int .i64 a.2.1, .int .i64 a.2.2]] w fun e w' => e = .returned (.agg #[.int .i64 a.1, .int .i64 a.2.1, .int .i64 a.2.2]) ∧ Below w.heap.size w w' := by
  have R : Arr (((w.alloc (.cells #[.int .i64 a.1, .int .i64 a.2.1, .int .i64 a.2.2] 105)).alloc (.cells #[.int .i64 a.1, .int .i64 a.2.1, .int .i64 a.2.2] 103)).alloc (.cells #[.int .i64 a.1, .int .i64 a.2.1, .int .i64 a.2.2] 103)) (w.heap.size + 1) 103 [.int .i64 a.1, .int .i64 a.2.1, .int .i64 a.2.2] := by
    have h := Arr.new (w.alloc (.cells #[.int .i64 a.1, .int .i64 a.2.1, .int .i64 a.2.2] 105)) [.int .i64 a.1, .int .i64 a.2.1, .int .i64 a.2.2] 103
    rw [size_alloc] at h
    exact h.old _ _
  have BW : Below w.heap.size w (((w.alloc (.cells #[.int .i64 a.1, .int .i64 a.2.1, .int .i64 a.2.2] 105)).alloc (.cells #[.int .i64 a.1, .int .i64 a.2.1, .int .i64 a.2.2] 103)).alloc (.cells #[.int .i64 a.1, .int .i64 a.2.1, .int .i64 a.2.2] 103)) := Below.mk (Below.mk (alloc_below _ _) _) _
  have c0 := (R.cell 0).trans (show _ = some _ from rfl)
  have c1 := (R.cell 1).trans (show _ = some _ from rfl)
  have c2 := (R.cell 2).trans (show _ = some _ from rfl)
  clear R
  go_enter Tryz.func46, Tryz.ntmps46
  go_wp2_with fail
  exact bodyPost_ret (v := .agg #[.int .i64 a.1, .int .i64 a.2.1, .int .i64 a.2.2]) (by simp [results, Tryz.results46, go_sem, c0, c1, c2]) rfl ⟨rfl, BW⟩
set_option maxRecDepth 4000 in
set_option maxHeartbeats 1000000 in
theorem toCertS_c (l : List CertD) (p : Option Addr) (q : Nat) (w : World) (hr : RdL certC w p q l) (hll : l.length ≤ 1048576) :
    Calls Tryz.prog 18 #[.slice p l.length q] w fun e w' => ∃ v xs fp, e = .returned v ∧ OwnL 103 certC w' w.heap.size v l xs fp ∧ Below w.heap.size w w' := by
  obtain ⟨i0, hi, hz0, hz1, hz2⟩ := info_parts infoCert
  have HR : Hid (RdL certC w p q l) := hr
  clear hr
  go_enter Tryz.func18, Tryz.ntmps18
  go_wp2_with (at_make; refine wpList_make_full _ rfl (.tmp 6) (.tmp 6) 32 rfl w.heap.size 103 i0 (.agg #[.int .i64 0, .int .i64 0, .int .i64 0]) 3 Tryz.underlying32 hi hz0 hz1 .i64 .i64 _ _ l.length rfl rfl rfl rfl (by rw [hz2]; omega) (by unfold maxLen; omega) (Nat.le_refl _) ?_; intro w1 hown hgrow)
  have hb1 : Below w.heap.size w w1 := (Below.refl _ _).grown hgrow (Nat.le_refl _) (fun k hk => by simp at hk)
  obtain ⟨M, HM⟩ : ∃ M, Hid (M = (madeCells (Value.agg #[.int .i64 0, .int .i64 0, .int .i64 0]).cells (l.length * 3)).toList) := ⟨_, rfl⟩
  rw [← HM.out] at hown
  have hML : Hid (M.length = l.length * 3) := hown.1
  clear hgrow hi hz0 hz1 hz2 HM
  go_loopw [4] (fun i wr => ∃ (k : Nat) (xs : List Value) (fp : List Nat), k ≤ l.length ∧ i = .int .i64 k ∧ wr.ownsRow w.heap.size 103 3 (.slice (some ⟨w.heap.size, 0, none⟩) l.length l.length) l.length (xs ++ M.drop (k * 3)) ∧ OwnAll certC wr (w.heap.size + 1) (l.take k) xs fp ∧ fp.Nodup ∧ Below w.heap.size w wr)
    (fun i _ => l.length - (intOf i).toNat)
  case atStart => exact ⟨0, [], [], Nat.zero_le _, rfl, by simpa using hown, by rw [List.take_zero]; exact ⟨rfl, rfl⟩, List.nodup_nil, hb1⟩
  case round =>
    clear hown hb1
    obtain ⟨k, xs, fp, hk, rfl, hown, hall, hnd, BW⟩ := hrel
    have HX : Hid (xs.length = k * 3) := by show _ = _; have h := hall.len; rw [List.length_take, Nat.min_eq_left hk] at h; exact h
    by_cases hlt : k < l.length
    · have hkI : (k : Int) < (l.length : Int) := by omega
      obtain ⟨b, o, e1, hc⟩ := (HR.out.keep BW).2.2.2 (by omega)
      subst e1
      obtain ⟨a, ha⟩ : ∃ a, l[k]? = some a := ⟨l[k], by simp [hlt]⟩
      obtain ⟨us, hrep, hcell⟩ := hc k a ha
      obtain rfl := cert_rep hrep
      have c0 := hcell 0 _ rfl
      have c1 := hcell 1 _ rfl
      have c2 := hcell 2 _ rfl
      rw [show certC.n = 3 from rfl] at c0 c1 c2
      rw [Nat.add_zero] at c0
      obtain ⟨y0, hy0⟩ := row_at HX.out hML.out hlt (show 0 < 3 by decide)
      obtain ⟨y1, hy1⟩ := row_at HX.out hML.out hlt (show 1 < 3 by decide)
      obtain ⟨y2, hy2⟩ := row_at HX.out hML.out hlt (show 2 < 3 by decide)
      have d0 := (World.ownsRow.cellAt hown (k * 3 + 0) (by omega)).trans hy0
      have d1 := (World.ownsRow.cellAt hown (k * 3 + 1) (by omega)).trans hy1
      have d2 := (World.ownsRow.cellAt hown (k * 3 + 2) (by omega)).trans hy2
      rw [Nat.add_zero] at d0
      have fz := World.ownsRow.frozenAt hown
      have hsz : Hid (w.heap.size < wr.heap.size) := (World.ownsRow.lt hown w.heap.size rfl).2
      go_wp2_with fail
      refine (toCert_c a wr).mono ?_
      rintro e w2 ⟨rfl, hb2⟩
      have hown2 := ownsRow_fr (w' := w2) hown (fun j hj => by simp [Value.ownBlock] at hj; subst hj; exact hb2.block _ hsz.out)
      have hall2 := hall.fr (w' := w2) (fun j hj => hb2.block j (hall.ins j hj).2)
      have hins : Hid (∀ j, j ∈ fp → w.heap.size + 1 ≤ j ∧ j < wr.heap.size) := fun j hj => hall.ins j hj
      have BW2 := Below.step BW hb2
      have d0' := (World.ownsRow.cellAt hown2 (k * 3 + 0) (by omega)).trans hy0
      have d1' := (World.ownsRow.cellAt hown2 (k * 3 + 1) (by omega)).trans hy1
      have d2' := (World.ownsRow.cellAt hown2 (k * 3 + 2) (by omega)).trans hy2
      rw [Nat.add_zero] at d0'
      have fz' := World.ownsRow.frozenAt hown2
      have R1 := World.ownsRow.stored hown2 (k * 3) (.int .i64 a.1)
      have R2 := World.ownsRow.stored R1.1 (k * 3 + 1) (.int .i64 a.2.1)
      have R3 := World.ownsRow.stored R2.1 (k * 3 + 2) (.int .i64 a.2.2)
      have HPut := row_put (us := [.int .i64 a.1, .int .i64 a.2.1, .int .i64 a.2.2]) HX.out hML.out hlt rfl
      rw [show ((((xs ++ M.drop (k * 3)).set (k * 3) (.int .i64 a.1)).set (k * 3 + 1) (.int .i64 a.2.1)).set (k * 3 + 2) (.int .i64 a.2.2)) = setList (xs ++ M.drop (k * 3)) (k * 3) [.int .i64 a.1, .int .i64 a.2.1, .int .i64 a.2.2] from rfl, HPut] at R3
      have RB := (((BW2.setCell (p := ⟨w.heap.size, k * 3, none⟩) (Nat.le_refl _) (.int .i64 a.1)).setCell (p := ⟨w.heap.size, k * 3 + 1, none⟩) (Nat.le_refl _) (.int .i64 a.2.1)).setCell (p := ⟨w.heap.size, k * 3 + 2, none⟩) (Nat.le_refl _) (.int .i64 a.2.2))
      have RA := hall2.fr (w' := (((w2.setCell ⟨w.heap.size, k * 3, none⟩ (.int .i64 a.1)).setCell ⟨w.heap.size, k * 3 + 1, none⟩ (.int .i64 a.2.1)).setCell ⟨w.heap.size, k * 3 + 2, none⟩ (.int .i64 a.2.2))) (fun j hj => by
        have h1 := (hins.out j hj).1
        rw [heap_setCell_other _ _ j _ (by show j ≠ w.heap.size; omega), heap_setCell_other _ _ j _ (by show j ≠ w.heap.size; omega), heap_setCell_other _ _ j _ (by show j ≠ w.heap.size; omega)])
      have RS := RA.snoc (cert_own (a := a))
      have hnd2 : Hid ((fp ++ []).Nodup) := by show _; rw [List.append_nil]; exact hnd
      have hT : Hid (l.take k ++ [a] = l.take (k + 1)) := by show _ = _; rw [List.take_add_one, ha]; rfl
      rw [hT.out] at RS
      clear hown hown2 hall hall2 RA R1 R2 d0 d1 d2 fz hb2 BW BW2 hc hcell hrep c0 c1 c2 HPut hy0 hy1 hy2
      go_wp2_with fail
      go_roundw
      case rel => exact ⟨k + 1, _, _, by omega, by go_num, R3.1, RS, hnd2.out, RB⟩
      case measure => simp [intOf]; omega
    · have e : k = l.length := by omega
      subst e
      rw [List.take_length] at hall
      rw [show M.drop (l.length * 3) = [] from List.drop_eq_nil_of_le (by rw [hML.out]; exact Nat.le_refl _), List.append_nil] at hown
      have hins := hall.ins
      have hO : OwnL 103 certC wr w.heap.size (.slice (some ⟨w.heap.size, 0, none⟩) l.length l.length) l xs fp := ⟨hown, hall.low (by omega), by
        refine List.nodup_append.2 ⟨nodup_opt _, hnd, fun x hx y hy e => ?_⟩
        subst e
        have h1 := mem_opt.1 hx
        simp [Value.ownBlock] at h1
        have h2 := (hins x hy).1
        omega⟩
      clear hown hall hins hnd
      go_wp2_with fail
      go_ret
      exact ⟨_, _, _, rfl, hO, BW⟩
set_option maxRecDepth 4000 in
theorem szCertS_c (p : Option Addr) (q n : Nat) (left : Int) (w : World) (hn : n ≤ q) (hq : q ≤ 2 ^ 63 - 1) (h0 : 0 ≤ left) (h1 : left ≤ 1048576) :
    Calls Tryz.prog 9 #[.slice p n q, .int .i64 left] w fun e w' => e = .returned (.int .i64 (szR n left)) ∧ w' = w := by
  have hw : wrap64 (left - (n : Int)) = left - n := by unfold wrap64; omega
  by_cases h : (n : Int) ≤ left
  · have h2 : ¬ (left - (n : Int) < 0) := by omega
    rw [szR, if_pos h]
    go_enter Tryz.func9, Tryz.ntmps9
    go_wp2
    go_ret
    exact ⟨rfl, rfl⟩
  · have h2 : left - (n : Int) < 0 := by omega
    rw [szR, if_neg h]
    go_enter Tryz.func9, Tryz.ntmps9
    go_wp2
    go_ret
    exact ⟨rfl, rfl⟩
set_option maxRecDepth 4000 in
theorem eqCert_c (a : CertD) (w : World) :
    Calls Tryz.prog 59 #[.agg #[.int .i64 a.1, .int .i64 a.2.1, .int .i64 a.2.2], .agg #[.int .i64 a.1, .int .i64 a.2.1, .int .i64 a.2.2]] w fun e w' => e = .returned (.bool true) ∧ Below w.heap.size w w' := by
  go_enter Tryz.func59, Tryz.ntmps59
  go_wp2
  go_ret
  exact ⟨rfl, Below.mk (alloc_below _ _) _⟩
set_option maxRecDepth 4000 in
set_option maxHeartbeats 1000000 in
theorem eqCertS_c (l : List CertD) (p p2 : Option Addr) (q q2 : Nat) (w : World) (h1 : RdL certC w p q l) (h2 : RdL certC w p2 q2 l) :
    Calls Tryz.prog 29 #[.slice p l.length q, .slice p2 l.length q2] w fun e w' => e = .returned (.bool true) ∧ Below w.heap.size w w' := by
  have HR : Hid (RdL certC w p q l) := h1
  have HR2 : Hid (RdL certC w p2 q2 l) := h2
  have hq1 : l.length ≤ q := h1.1
  have hq2 : q ≤ 2 ^ 63 - 1 := h1.2.1
  clear h1 h2
  go_enter Tryz.func29, Tryz.ntmps29
  go_wp2_with fail
  go_loopw [5] (fun i wr => ∃ k : Nat, k ≤ l.length ∧ i = .int .i64 k ∧ Below w.heap.size w wr)
    (fun i _ => l.length - (intOf i).toNat)
  case atStart => exact ⟨0, Nat.zero_le _, rfl, Below.refl _ _⟩
  case round =>
    obtain ⟨k, hk, rfl, BW⟩ := hrel
    by_cases hlt : k < l.length
    · have hkI : (k : Int) < (l.length : Int) := by omega
      obtain ⟨b, o, e1, hc⟩ := (HR.out.keep BW).2.2.2 (by omega)
      subst e1
      obtain ⟨b2, o2, e2, hc2⟩ := (HR2.out.keep BW).2.2.2 (by omega)
      subst e2
      obtain ⟨a, ha⟩ : ∃ a, l[k]? = some a := ⟨l[k], by simp [hlt]⟩
      obtain ⟨us, hrep, hcell⟩ := hc k a ha
      obtain rfl := cert_rep hrep
      obtain ⟨us2, hrep2, hcell2⟩ := hc2 k a ha
      obtain rfl := cert_rep hrep2
      have c0 := hcell 0 _ rfl
      have c1 := hcell 1 _ rfl
      have c2 := hcell 2 _ rfl
      have d0 := hcell2 0 _ rfl
      have d1 := hcell2 1 _ rfl
      have d2 := hcell2 2 _ rfl
      rw [show certC.n = 3 from rfl] at c0 c1 c2 d0 d1 d2
      rw [Nat.add_zero] at c0 d0
      clear hc hcell hrep hc2 hcell2 hrep2
      go_wp2_with fail
      replace c0 := HW.at c0
      replace c1 := HW.at c1
      replace c2 := HW.at c2
      replace d0 := HW.at d0
      replace d1 := HW.at d1
      replace d2 := HW.at d2
      have hne := HW.some wr
      refine wp_region_class rfl (by kernel_rfl) ?_
      repeat (go_big_quiet_step ((go_at_call 59; exact Calls.stay (eqCert_c a _))))
      refine wpQuiet_nil ?_
      intro w' hw'
      have BW2 := Below.step BW (HW.out hw')
      clear c0 c1 c2 d0 d1 d2 hne hw' BW
      go_wp2_with fail
      go_roundw
      case rel => exact ⟨k + 1, by omega, by go_num, BW2⟩
      case measure => simp [intOf]; omega
    · go_wp2_with fail
      go_ret
      exact ⟨rfl, BW⟩
end Go.Proofs.YthiabbgkfmopiaaGreat

