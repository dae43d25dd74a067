/- Bytes as a text, with no program in it: what string(b) gives of a slice of bytes that can be read. -/
import Derived.Laws.BytesArg
import Derived.Laws.IdiomStrings
import Derived.Test.YtpbkncliepkhaaaDoorBytes
import Derived.Test.YtpbkncliepkhaaaDoorMacS
import Derived.Test.YtpbkncliepkhaaaDoorJoint3
namespace Go.Proofs.YtpbkncliepkhaaaDoor
open Go.RowKit

def strB (bs : List UInt8) : ByteArray := ⟨bs.toArray⟩
theorem strB_size (bs : List UInt8) : (strB bs).size = bs.length := by simp [strB, ByteArray.size]
theorem strB_inj {a b : List UInt8} (h : strB a = strB b) : a = b := by
  have := congrArg (fun s : ByteArray => s.data.toList) h
  simpa [strB] using this
theorem strB_list (bs : List UInt8) : (strB bs).toList = bs := by rw [ByteArray.toList_eq]; rfl
theorem strB_toList (s : ByteArray) : strB s.data.toList = s := by simp [strB]

theorem strB_at (l : List UInt8) (i : Nat) (h : i < (strB l).size) : (((strB l)[i]'h).toNat : Int) = at8 l i := by
  have h' : i < l.length := by rw [strB_size] at h; exact h
  rw [at8_get h']
  rfl

theorem run_str {P : Program} {w : World} {a : Option Addr} {cap : Nat} {bs : List UInt8} (hr : Rd w a cap bs) {src dst e : TypeId}
    (hs : P.underlying src = some (.slice e)) (he : P.underlying e = some (.int .u8)) (hd : P.underlying dst = some .string) :
    (convert src dst (.slice a bs.length cap)).run P w = .ok (.string (strB bs)) w := by
  by_cases h0 : 0 < bs.length
  · obtain ⟨b, o, rfl, hc⟩ := hr.2.2.2 h0
    rw [run_convert_bytes_arg w src e hs he b o bs.length cap (bs.map fun x => (x.toNat : Int)) (by simp) (fun i hi => by rw [hc i hi, at8_get hi]; simp [hi]) dst hd]
    congr 2
    have hid : (fun n : Int => UInt8.ofNat n.toNat) ∘ (fun x : UInt8 => (x.toNat : Int)) = id := by funext x; simp
    simp [strOfNums, strB, hid]
  · have e0 : bs = [] := List.length_eq_zero_iff.1 (by omega)
    subst e0
    cases a with
    | none => exact run_convert_bytes_nil w src e hs he 0 cap dst hd
    | some x =>
      rw [show ([] : List UInt8).length = 0 from rfl, run_convert_bytes_string w src dst e _ 0 cap hs he hd, run_bytesToString w x 0 cap [] (by simpa using run_loadCells_list (P := P) w x [] (fun j v hj => by simp at hj))]
      rfl

/-- What '[]byte(s)' makes: its room and its world. -/
def bytesC (w : World) (l : List UInt8) : Nat := grownCap w (strB l).size 0 5
def bytesW (w : World) (l : List UInt8) : World := w.drew.alloc (.cells (bytesRow (strB l) (bytesC w l)) 5 ((bytesRow (strB l) (bytesC w l)).size, (bytesRow (strB l) (bytesC w l)).size + 1))
theorem run_bytes {P : Program} {src dst : TypeId} (hs : P.underlying src = some .string) (hd : P.underlying dst = some (.slice 5)) (he : P.underlying 5 = some (.int .u8)) (l : List UInt8) (w : World) :
    (convert src dst (.string (strB l))).run P w = .ok (.slice (some ⟨w.heap.size, 0, none⟩) l.length (bytesC w l)) (bytesW w l) := by
  rw [run_bytes_of_string w src dst 5 (strB l) hs hd he, strB_size]
  rfl
theorem bytesW_below (w : World) (l : List UInt8) : Below w.heap.size w (bytesW w l) := (Below.refl _ _).drew.alloc (Nat.le_refl _) _
theorem bytesW_rd (w : World) (l : List UInt8) (hm : l.length ≤ maxLen) : Rd (bytesW w l) (some ⟨w.heap.size, 0, none⟩) (bytesC w l) l := by
  refine ⟨?_, ?_, fun h => by simp at h, fun _ => ⟨w.heap.size, 0, rfl, fun i hi => ?_⟩⟩
  · have := grownCap_ge w (strB l).size 0 5
    rw [strB_size] at this
    unfold bytesC
    rw [strB_size]
    exact this
  · exact grownCap_le_maxLen _ _ _ _ (by rw [strB_size]; exact hm)
  · have h := World.cell?_alloc_mark w.drew (bytesRow (strB l) (bytesC w l)) 5 ((bytesRow (strB l) (bytesC w l)).size, (bytesRow (strB l) (bytesC w l)).size + 1) i
    rw [Nat.zero_add]
    refine h.trans ?_
    rw [bytesRow_at _ _ _ (by simpa [strB] using hi), at8_get hi]
    rfl

end Go.Proofs.YtpbkncliepkhaaaDoor

/- The digits of bytes, with no program in it. -/
namespace Go.Proofs.YtpbkncliepkhaaaDoor
open Go.RowKit

def hexAll : List UInt8 := [48, 49, 50, 51, 52, 53, 54, 55, 56, 57, 97, 98, 99, 100, 101, 102]
def hexD (v : Int) : UInt8 := hexAll.getD v.toNat 0
def hexL (bs : List UInt8) : List UInt8 := bs.flatMap fun b => [hexD (b.toNat / 16), hexD (b.toNat % 16)]
theorem hexL_len (bs : List UInt8) : (hexL bs).length = 2 * bs.length := by
  induction bs with
  | nil => rfl
  | cons b bs ih => simp only [hexL, List.flatMap_cons, List.length_append, List.length_cons, List.length_nil] at ih ⊢; omega
theorem hexL_take (bs : List UInt8) (k : Nat) (h : k < bs.length) : hexL (bs.take (k + 1)) = hexL (bs.take k) ++ [hexD (at8 bs k / 16)] ++ [hexD (at8 bs k % 16)] := by
  rw [List.take_succ_eq_append_getElem h, at8_get h]
  unfold hexL
  rw [List.flatMap_append, List.append_assoc]
  rfl

theorem run_add {P : Program} (x y : List UInt8) (h : x.length + y.length ≤ 9223372036854775807) (w : World) :
    (Op.stringOp .add (strB x) (strB y)).run P w = .ok (.string (strB (x ++ y))) w := by
  rw [run_string_add_sum w _ _ (by rw [strB_size, strB_size]; exact h)]
  unfold strB
  rw [ByteArray.mk_append_mk]

theorem cell_one_new (w : World) (a : Value) (t : TypeId) : ∀ j u, [a][j]? = some u → (w.alloc (.cells #[a] t)).cell? ((⟨w.heap.size, 0, none⟩ : Addr).add j) = some u := by
  intro j u hj
  match j, hj with
  | 0, hj => simp at hj; subst hj; simp [Addr.add]
  | j + 1, hj => simp at hj
theorem own_two {w : World} {B : Nat} {v : Value} {x : List UInt8} {a b : UInt8} (h : w.ownsRow B 5 1 v (x.length + 2) (x.map u8v ++ [.int .u8 a.toNat, .int .u8 b.toNat])) : Own w B v (x ++ [a] ++ [b]) := by
  unfold Own
  rw [show (x ++ [a] ++ [b]).length = x.length + 2 by simp, show (x ++ [a] ++ [b]).map u8v = x.map u8v ++ [.int .u8 a.toNat, .int .u8 b.toNat] by simp [u8v]]
  exact h
theorem own_one {w : World} {B : Nat} {v : Value} {x : List UInt8} {a : UInt8} (h : w.ownsRow B 5 1 v (x.length + 1) (x.map u8v ++ [.int .u8 a.toNat])) : Own w B v (x ++ [a]) := by
  unfold Own
  rw [show (x ++ [a]).length = x.length + 1 by simp, show (x ++ [a]).map u8v = x.map u8v ++ [.int .u8 a.toNat] by simp [u8v]]
  exact h

end Go.Proofs.YtpbkncliepkhaaaDoor

/- The contracts of labels in the specification: spec.l3Label, spec.l3LabelBytes, spec.l3LabelFault, spec.l3ExpandLabel, spec.l3Derive. What was there stays. -/
namespace Go.Proofs.YtpbkncliepkhaaaDoor
open Go.ChangeShapes Go.WideShapes Go.ChangeAt Go.RowKit

def charOk (b : UInt8) : Bool := decide (32 ≤ b.toNat) && decide (b.toNat ≤ 126)
theorem labelOk_eq (l : List UInt8) : labelOk l = (l.all charOk && inB (l.length : Int) 1 40) := by
  unfold labelOk charOk inB
  rw [Bool.and_assoc]
  congr 1
  simp only [decide_eq_decide.2 (show 1 ≤ l.length ↔ (1 : Int) ≤ (l.length : Int) by omega), decide_eq_decide.2 (show l.length ≤ 40 ↔ (l.length : Int) ≤ 40 by omega), Bool.decide_and]
theorem charOk_at {l : List UInt8} {j : Nat} (h : j < l.length) : charOk l[j] = (decide (32 ≤ at8 l j) && decide (at8 l j ≤ 126)) := by
  rw [at8_get h]
  unfold charOk
  simp only [decide_eq_decide.2 (show 32 ≤ l[j].toNat ↔ (32 : Int) ≤ (l[j].toNat : Int) by omega), decide_eq_decide.2 (show l[j].toNat ≤ 126 ↔ (l[j].toNat : Int) ≤ 126 by omega)]
theorem all_take_succ {l : List UInt8} {j : Nat} (h : j < l.length) : (l.take (j + 1)).all charOk = ((l.take j).all charOk && charOk l[j]) := by
  rw [List.take_succ_eq_append_getElem h, List.all_append]
  simp
theorem all_of_take {l : List UInt8} {j : Nat} (h : j < l.length) (hb : charOk l[j] = false) : l.all charOk = false := by
  rw [List.all_eq_false]
  exact ⟨l[j], List.getElem_mem h, by simp [hb]⟩


/-- The code of a label, a context and a number. -/
def labelC (l ctx : List UInt8) (n : Int) : Int := if labelOk l then (if ctx.length ≤ 100 then (if inB n 0 255 then 0 else 3) else 2) else 5


theorem tls13_str : (⟨#[116, 108, 115, 49, 51, 32]⟩ : ByteArray) = strB tls13 := rfl
theorem labelB_eq (l ctx : List UInt8) (n : Nat) : labelB l ctx n = putB n 2 ++ [UInt8.ofNat (6 + l.length)] ++ (tls13 ++ l) ++ [UInt8.ofNat ctx.length] ++ ctx := by simp [labelB]

set_option maxRecDepth 4000 in
set_option maxHeartbeats 1000000 in
theorem l3LabelBytes_c (l : List UInt8) (p : Option Addr) (q : Nat) (ctx : List UInt8) (n : Nat) (w : World) (hr : Rd w p q ctx) (hl : l.length ≤ 40) (hl2 : ctx.length ≤ 100) (hn : n ≤ 255) :
    Calls Tryd.prog 77 #[.string (strB l), .slice p ctx.length q, .int .i64 (n : Int)] w fun e w' => ∃ u, e = .returned u ∧ Own w' w.heap.size u (labelB l ctx n) ∧ Below w.heap.size w w' := by
  have HR : Hid (Rd w p q ctx) := hr
  clear hr
  have ha := run_add (P := Tryd.prog) tls13 l (by simp [tls13]; omega)
  rw [← tls13_str] at ha
  have hlf : Hid ((tls13 ++ l).length = 6 + l.length) := by show _ = _; simp [tls13]; omega
  have hfs : (strB (tls13 ++ l)).size = 6 + l.length := by rw [strB_size, hlf.out]
  have hb := run_bytes (P := Tryd.prog) (src := 9) (dst := 22) Tryd.underlying9 Tryd.underlying22 Tryd.underlying5 (tls13 ++ l)
  have HE : Hid (labelB l ctx n = putB n 2 ++ [UInt8.ofNat (6 + l.length)] ++ (tls13 ++ l) ++ [UInt8.ofNat ctx.length] ++ ctx) := labelB_eq l ctx n
  have hv1 : Hid ((6 : Int) + (l.length : Int) = ((UInt8.ofNat (6 + l.length)).toNat : Int)) := by show _ = _; rw [UInt8.toNat_ofNat', Nat.mod_eq_of_lt (by omega)]; omega
  have hv2 : Hid ((ctx.length : Int) = ((UInt8.ofNat ctx.length).toNat : Int)) := by show _ = _; rw [UInt8.toNat_ofNat', Nat.mod_eq_of_lt (by omega)]
  generalize tls13 ++ l = f at *
  go_enter Tryd.func77, Tryd.ntmps77
  go_wp2_with fail
  refine (l1Put_i _ 2 _ (by omega) (by omega) (by decide) (by decide)).mono ?_
  rintro e w1 ⟨u1, rfl, k1, hb1⟩
  rw [Int.toNat_natCast, show (2 : Int).toNat = 2 from rfl] at k1
  obtain ⟨p1, q1, rfl, -⟩ := k1.rd
  rw [putB_len] at k1 ⊢
  have BW := hb1
  have hfm : Hid (f.length ≤ 46) := by show _ ≤ _; rw [hlf.out]; omega
  have k1' := k1.stay (alloc_below w1 (.cells #[.int .u8 ((6 : Int) + (l.length : Int))] 5))
  clear hb1
  go_wp2_with (first
    | (at_builtin; refine wpList_append_rd rfl (.tmp 12) (.tmp 16) rfl w.heap.size _ (putB n 2) rfl k1' _ 1 [UInt8.ofNat (6 + l.length)] rfl (rd_one w1 _ _ _ hv1.out) (by simp [putB_len]) (by have := BW.size; simp; omega) ?_; intro v2 w2 k2 hg2; replace BW := (Below.mk BW (.cells #[.int .u8 ((6 : Int) + (l.length : Int))] 5)).grown hg2 (by have := BW.size; simp; omega) (fun k hk => k1.ge k hk); clear hg2 k1 k1')
    | (at_builtin; refine wpList_append_rd rfl (.tmp 18) (.tmp 20) rfl w.heap.size _ (putB n 2 ++ [UInt8.ofNat (6 + l.length)]) rfl (k2.stay (bytesW_below w2 f)) _ _ f rfl (bytesW_rd w2 f (by have := hfm.out; unfold maxLen; omega)) (by have := hfm.out; simp [putB_len]; omega) (Below.step BW (bytesW_below w2 f)).size ?_; intro v3 w3 k3 hg3; replace BW := (Below.step BW (bytesW_below w2 f)).grown hg3 (Below.step BW (bytesW_below w2 f)).size (fun k hk => k2.ge k hk); clear hg3 k2; have k3' := k3.stay (alloc_below w3 (.cells #[.int .u8 (ctx.length : Int)] 5)))
    | (at_builtin; refine wpList_append_rd rfl (.tmp 21) (.tmp 25) rfl w.heap.size _ (putB n 2 ++ [UInt8.ofNat (6 + l.length)] ++ f) rfl k3' _ 1 [UInt8.ofNat ctx.length] rfl (rd_one w3 _ _ _ hv2.out) (by have := hfm.out; simp [putB_len]; omega) (by have := BW.size; simp; omega) ?_; intro v4 w4 k4 hg4; replace BW := (Below.mk BW (.cells #[.int .u8 (ctx.length : Int)] 5)).grown hg4 (by have := BW.size; simp; omega) (fun k hk => k3.ge k hk); clear hg4 k3 k3')
    | (at_builtin; refine wpList_append_rd rfl (.tmp 27) (.tmp 28) rfl w.heap.size _ (putB n 2 ++ [UInt8.ofNat (6 + l.length)] ++ f ++ [UInt8.ofNat ctx.length]) rfl k4 p q ctx rfl (HR.out.keep BW) (by have := hfm.out; simp [putB_len]; omega) BW.size ?_; intro v5 w5 k5 hg5; replace BW := BW.grown hg5 BW.size (fun k hk => k4.ge k hk); clear hg5 k4))
  go_ret
  exact ⟨_, rfl, by rw [HE.out]; exact k5, BW⟩

def expLabN (key l ctx : List UInt8) (n : Nat) : List UInt8 := expandN key (labelB l ctx n) n
def deriveN (key l data : List UInt8) : List UInt8 := expLabN key l (digestN data) 32
theorem labelOk_len {l : List UInt8} (h : labelOk l = true) : l.length ≤ 40 := by
  unfold labelOk at h
  simp only [Bool.and_eq_true, decide_eq_true_eq] at h
  exact h.2

set_option maxRecDepth 4000 in
set_option maxHeartbeats 1000000 in
theorem l3ExpandLabel_c (p p2 : Option Addr) (q q2 : Nat) (key l ctx : List UInt8) (n : Nat) (w : World) (hr : Rd w p q key) (hr2 : Rd w p2 q2 ctx) (hk : key.length ≤ 64) (hl : l.length ≤ 40) (hl2 : ctx.length ≤ 100) (hn : n ≤ 255) :
    Calls Tryd.prog 56 #[.slice p key.length q, .string (strB l), .slice p2 ctx.length q2, .int .i64 (n : Int)] w fun e w' => ∃ u, e = .returned u ∧ Own w' w.heap.size u (expLabN key l ctx n) ∧ Below w.heap.size w w' := by
  have HE : Hid (expLabN key l ctx n = expandN key (labelB l ctx n) n) := rfl
  go_enter Tryd.func56, Tryd.ntmps56
  go_wp2_with fail
  refine (l3LabelBytes_c l p2 q2 ctx n _ hr2 hl hl2 hn).mono ?_
  rintro e w1 ⟨u1, rfl, k1, hb1⟩
  obtain ⟨p1, q1, rfl, rd1⟩ := k1.rd
  have HB : Hid ((labelB l ctx n).length ≤ 400) := by show _ ≤ _; rw [labelB_len]; omega
  generalize labelB l ctx n = lb at *
  have hz := hb1.size
  clear k1
  go_wp2_with fail
  refine (l3Expand_c p p1 q q1 key lb n _ (hr.keep hb1) rd1 hk HB.out hn).mono ?_
  rintro e w2 ⟨u2, rfl, k2, hb2⟩
  go_wp2
  go_ret
  exact ⟨_, rfl, by rw [HE.out]; exact k2.lower hz, Below.step hb1 hb2⟩

end Go.Proofs.YtpbkncliepkhaaaDoor

