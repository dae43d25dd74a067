/- Chapter 9 as plain functions, with no program in it: faults of streams, keys of a secret, records that are sent, heard, cut; that what is sent is heard. No conditions but those in each line. -/
import Derived.Test.YtdbpnibcblelbaaGreatDoorJoint15
import Derived.Test.YtdbpnibcblelbaaGreatDoorJoint3
import Derived.Test.YtdbpnibcblelbaaGreatDoorJoint11
import Derived.Test.YtdbpnibcblelbaaGreatDoorJoint20
import Derived.Test.YtdbpnibcblelbaaGreatDoorJoint6
import Derived.Test.YtdbpnibcblelbaaGreatDoorJoint8
import Derived.Test.YtdbpnibcblelbaaGreatDoorJoint12
import Derived.BigQuiet
namespace Go.Proofs.YtdbpnibcblelbaaGreatDoor
open Go.RowKit
def keyLab : List UInt8 := [107, 101, 121]
def ivLab : List UInt8 := [105, 118]
def stC (x : StreamD) : Int := if is32 x.1 then (if inB x.2.1 0 200 && inB x.2.2 0 99 then 0 else 3) else 1
def keyN (s : List UInt8) : List UInt8 := expLabN s keyLab [] 32
def baseN (s : List UInt8) : List UInt8 := expLabN s ivLab [] 12
def askC (x : StreamD) : Int := if stC x = 0 then (if 200 ≤ x.2.1 then 10 else 0) else stC x
def nextS (x : StreamD) : StreamD := (x.1, x.2.1 + 1, x.2.2)
def zeroSt : StreamD := ([], 0, 0)
def kindB (k : Int) : Bool := inB k 21 23
def badR (c : Int) : RecordResultD := (c, 0, [], zeroSt)
def innerN (kind : Int) (plain : List UInt8) (pad : Int) : List UInt8 := plain ++ [UInt8.ofNat kind.toNat] ++ zs pad.toNat
def headN (n : Nat) : List UInt8 := [23, 3, 3] ++ putB (n + 16) 2
def nonceS (x : StreamD) : List UInt8 := nonceN (baseN x.1) x.2.1.toNat
def srC (x : StreamD) (kind : Int) (plain : List UInt8) (pad : Int) : Int := if askC x = 0 then (if kindB kind && inB pad 0 16 then (if plain.length ≤ 200 then 0 else 2) else 3) else askC x
def recN (x : StreamD) (inner : List UInt8) : List UInt8 := headN inner.length ++ sealN (keyN x.1) (nonceS x) (headN inner.length) inner
def srD (x : StreamD) (kind : Int) (plain : List UInt8) (pad : Int) : RecordResultD :=
  if srC x kind plain pad = 0 then (0, kind, recN x (innerN kind plain pad), nextS x) else badR (srC x kind plain pad)
def nzN (l : List UInt8) : Nat := (l.reverse.dropWhile (· == 0)).length
def bodyOk (r : List UInt8) : Bool := decide (5 ≤ r.length) && (r.getD 0 0 == 23) && (r.getD 1 0 == 3) && (r.getD 2 0 == 3) && decide (r.length - 5 = getB ((r.drop 3).take 2))
def oC (x : StreamD) (r : List UInt8) : Int := openC (keyN x.1) (nonceS x) (r.take 5) (r.drop 5)
def oL (x : StreamD) (r : List UInt8) : List UInt8 := openL (keyN x.1) (nonceS x) (r.take 5) (r.drop 5)
def inC (l : List UInt8) : Int := if nzN l = 0 then 1 else (if kindB ((l.getD (nzN l - 1) 0).toNat : Int) then (if 200 < nzN l - 1 then 2 else 0) else 3)
def hrC (x : StreamD) (r : List UInt8) : Int := if askC x = 0 then (if bodyOk r then (if oC x r = 0 then inC (oL x r) else oC x r) else 5) else askC x
def hrD (x : StreamD) (r : List UInt8) : RecordResultD :=
  if hrC x r = 0 then (0, (((oL x r).getD (nzN (oL x r) - 1) 0).toNat : Int), (oL x r).take (nzN (oL x r) - 1), nextS x) else badR (hrC x r)
theorem putB2 (n : Nat) (h : n < 65536) : getB (putB n 2) = n := by
  rw [show putB n 2 = [UInt8.ofNat (n / 256 ^ 1 % 256), UInt8.ofNat (n / 256 ^ 0 % 256)] from rfl]
  simp only [getB, List.foldl_cons, List.foldl_nil, UInt8.toNat_ofNat', Nat.pow_one, Nat.pow_zero, Nat.div_one]
  omega
theorem headN_len (n : Nat) : (headN n).length = 5 := by simp [headN, putB_len]
theorem keyN_len (s : List UInt8) : (keyN s).length = 32 := expLabN_len _ _ _ _
theorem baseN_len (s : List UInt8) : (baseN s).length = 12 := expLabN_len _ _ _ _
theorem nonceS_len (x : StreamD) : (nonceS x).length = 12 := by simp [nonceS, nonceN]
theorem innerN_len (kind : Int) (plain : List UInt8) (pad : Int) : (innerN kind plain pad).length = plain.length + 1 + pad.toNat := by simp [innerN, zs]; omega
theorem recN_len (x : StreamD) (inner : List UInt8) : (recN x inner).length = inner.length + 21 := by
  rw [recN, List.length_append, headN_len, sealN_len]; omega
theorem nzN_snoc (l : List UInt8) (b : UInt8) (n : Nat) (hb : b ≠ 0) : nzN (l ++ [b] ++ zs n) = l.length + 1 := by
  unfold nzN zs
  rw [List.reverse_append, List.reverse_replicate, List.dropWhile_append_of_pos (by intro x hx; rw [List.mem_replicate] at hx; rw [hx.2]; rfl), List.reverse_append, List.reverse_singleton, List.singleton_append, List.dropWhile_cons_of_neg (by simpa using hb), List.length_cons, List.length_reverse]
theorem nzN_nil : nzN [] = 0 := rfl
theorem nzN_zero {l : List UInt8} {k : Nat} (h : k < l.length) (hz : l.getD k 0 = 0) : nzN (l.take (k + 1)) = nzN (l.take k) := by
  have e : l.take (k + 1) = l.take k ++ [0] := by rw [List.take_succ_eq_append_getElem h]; congr 2; simpa [h] using hz
  rw [e]
  unfold nzN
  rw [List.reverse_append, List.reverse_singleton, List.singleton_append, List.dropWhile_cons_of_pos (by rfl)]
theorem nzN_pos {l : List UInt8} {k : Nat} (h : k < l.length) (hz : l.getD k 0 ≠ 0) : nzN (l.take (k + 1)) = k + 1 := by
  have e : l.take (k + 1) = l.take k ++ [l.getD k 0] := by rw [List.take_succ_eq_append_getElem h]; congr 2; simp [h]
  rw [e]
  unfold nzN
  rw [List.reverse_append, List.reverse_singleton, List.singleton_append, List.dropWhile_cons_of_neg (by simpa using hz), List.length_cons, List.length_reverse, List.length_take]
  omega
theorem kind_byte {kind : Int} (h : kindB kind = true) : ((UInt8.ofNat kind.toNat).toNat : Int) = kind ∧ UInt8.ofNat kind.toNat ≠ 0 := by
  have h2 : 21 ≤ kind ∧ kind ≤ 23 := by simpa [kindB, inB] using h
  have h3 : ((UInt8.ofNat kind.toNat).toNat : Int) = kind := by rw [UInt8.toNat_ofNat']; omega
  refine ⟨h3, fun e => ?_⟩
  rw [e] at h3
  have h4 : ((0 : UInt8).toNat : Int) = 0 := rfl
  omega
theorem inner_heard {kind : Int} {plain : List UInt8} {pad : Int} (hk : kindB kind = true) (hp : plain.length ≤ 200) :
    inC (innerN kind plain pad) = 0 ∧ nzN (innerN kind plain pad) = plain.length + 1 ∧ (((innerN kind plain pad).getD (nzN (innerN kind plain pad) - 1) 0).toNat : Int) = kind ∧ (innerN kind plain pad).take (nzN (innerN kind plain pad) - 1) = plain := by
  obtain ⟨h1, h2⟩ := kind_byte hk
  have e : nzN (innerN kind plain pad) = plain.length + 1 := nzN_snoc _ _ _ h2
  have g : (innerN kind plain pad).getD plain.length 0 = UInt8.ofNat kind.toNat := by simp [innerN]
  refine ⟨?_, e, ?_, ?_⟩
  · unfold inC
    rw [e, Nat.add_sub_cancel, g, if_neg (by omega), h1, if_pos hk, if_neg (by omega)]
  · rw [e, Nat.add_sub_cancel, g, h1]
  · rw [e, Nat.add_sub_cancel, innerN, List.append_assoc]; simp
theorem recN_head (x : StreamD) (inner : List UInt8) : (recN x inner).take 5 = headN inner.length := by
  rw [recN]; exact List.take_left' (headN_len _)
theorem recN_body (x : StreamD) (inner : List UInt8) : (recN x inner).drop 5 = sealN (keyN x.1) (nonceS x) (headN inner.length) inner := by
  rw [recN]; exact List.drop_left' (headN_len _)
theorem getD_pre {a b : List UInt8} {i : Nat} (h : i < a.length) : (a ++ b).getD i 0 = a.getD i 0 := by
  rw [List.getD_eq_getElem?_getD, List.getElem?_append_left h, ← List.getD_eq_getElem?_getD]
theorem recN_num (x : StreamD) (inner : List UInt8) (hi : inner.length ≤ 220) : getB (((recN x inner).drop 3).take 2) = inner.length + 16 := by
  have e : recN x inner = [23, 3, 3] ++ (putB (inner.length + 16) 2 ++ sealN (keyN x.1) (nonceS x) (headN inner.length) inner) := by rw [recN, headN, List.append_assoc]
  rw [e, List.drop_left' (by rfl), List.take_left' (putB_len _ _), putB2 _ (by omega)]
theorem recN_body_ok (x : StreamD) (inner : List UInt8) (hi : inner.length ≤ 220) : bodyOk (recN x inner) = true := by
  have h := recN_num x inner hi
  have hl := recN_len x inner
  have g : ∀ i, i < 5 → (recN x inner).getD i 0 = (headN inner.length).getD i 0 := fun i hi => by rw [recN]; exact getD_pre (by rw [headN_len]; exact hi)
  unfold bodyOk
  rw [h, g 0 (by decide), g 1 (by decide), g 2 (by decide), hl]
  simp [headN]
theorem st_parts {x : StreamD} (h : stC x = 0) : x.1.length = 32 ∧ 0 ≤ x.2.1 ∧ x.2.1 ≤ 200 ∧ 0 ≤ x.2.2 ∧ x.2.2 ≤ 99 := by
  unfold stC at h
  by_cases h3 : is32 x.1 = true
  · rw [if_pos h3] at h
    by_cases h4 : (inB x.2.1 0 200 && inB x.2.2 0 99) = true
    · have h5 : (0 ≤ x.2.1 ∧ x.2.1 ≤ 200) ∧ 0 ≤ x.2.2 ∧ x.2.2 ≤ 99 := by simpa [inB] using h4
      have h6 : x.1.length = 32 := by simpa [is32] using h3
      omega
    · rw [if_neg h4] at h; exact absurd h (by decide)
  · rw [if_neg h3] at h; exact absurd h (by decide)
theorem ask_parts {x : StreamD} (h : askC x = 0) : stC x = 0 ∧ x.1.length = 32 ∧ 0 ≤ x.2.1 ∧ x.2.1 < 200 ∧ 0 ≤ x.2.2 ∧ x.2.2 ≤ 99 := by
  unfold askC at h
  by_cases h1 : stC x = 0
  · rw [if_pos h1] at h
    have := st_parts h1
    by_cases h2 : 200 ≤ x.2.1
    · rw [if_pos h2] at h; exact absurd h (by decide)
    · exact ⟨h1, by omega⟩
  · rw [if_neg h1] at h; exact absurd h h1
theorem sr_parts {x : StreamD} {kind : Int} {plain : List UInt8} {pad : Int} (h : srC x kind plain pad = 0) : askC x = 0 ∧ kindB kind = true ∧ (0 ≤ pad ∧ pad ≤ 16) ∧ plain.length ≤ 200 := by
  unfold srC at h
  by_cases ha : askC x = 0
  · rw [if_pos ha] at h
    by_cases h1 : (kindB kind && inB pad 0 16) = true
    · rw [if_pos h1] at h
      have hk2 : kindB kind = true ∧ 0 ≤ pad ∧ pad ≤ 16 := by simpa [inB] using h1
      by_cases h2 : plain.length ≤ 200
      · exact ⟨ha, hk2.1, hk2.2, h2⟩
      · rw [if_neg h2] at h; exact absurd h (by decide)
    · rw [if_neg h1] at h; exact absurd h (by decide)
  · rw [if_neg ha] at h; exact absurd h ha
theorem badR_T (c : Int) : recordResultT (badR c) = 0 := rfl
theorem srD_small (x : StreamD) (kind : Int) (plain : List UInt8) (pad : Int) : recordResultT (srD x kind plain pad) ≤ 1048576 := by
  unfold srD
  split
  · rename_i h
    obtain ⟨ha, -, hp, hl⟩ := sr_parts h
    have h2 := (ask_parts ha).2.1
    show (recN x (innerN kind plain pad)).length + x.1.length ≤ _
    rw [recN_len, innerN_len]; omega
  · rw [badR_T]; exact Nat.zero_le _
theorem sent_heard {x : StreamD} {kind : Int} {plain : List UInt8} {pad : Int} (h : srC x kind plain pad = 0) :
    hrD x (recN x (innerN kind plain pad)) = (0, kind, plain, nextS x) := by
  have ha : askC x = 0 := by
    unfold srC at h
    by_cases h1 : askC x = 0
    · exact h1
    · rw [if_neg h1] at h; exact h
  unfold srC at h
  rw [if_pos ha] at h
  have hk : (kindB kind && inB pad 0 16) = true := by
    by_cases h1 : (kindB kind && inB pad 0 16) = true
    · exact h1
    · rw [if_neg h1] at h; exact absurd h (by decide)
  rw [if_pos hk] at h
  have hp : plain.length ≤ 200 := by
    by_cases h1 : plain.length ≤ 200
    · exact h1
    · rw [if_neg h1] at h; exact absurd h (by decide)
  have hk2 : kindB kind = true ∧ 0 ≤ pad ∧ pad ≤ 16 := by simpa [inB] using hk
  have hil : (innerN kind plain pad).length ≤ 220 := by rw [innerN_len]; omega
  obtain ⟨i1, i2, i3, i4⟩ := inner_heard (pad := pad) hk2.1 hp
  have ho := open_seal (keyN x.1) (nonceS x) (headN (innerN kind plain pad).length) (innerN kind plain pad) hil
  have oc : oC x (recN x (innerN kind plain pad)) = 0 := by unfold oC; rw [recN_head, recN_body]; exact ho.1
  have ol : oL x (recN x (innerN kind plain pad)) = innerN kind plain pad := by unfold oL; rw [recN_head, recN_body]; exact ho.2
  have hc : hrC x (recN x (innerN kind plain pad)) = 0 := by unfold hrC; rw [if_pos ha, recN_body_ok x _ hil, if_pos rfl, if_pos oc, ol, i1]
  unfold hrD
  rw [if_pos hc, ol, i3, i4]
end Go.Proofs.YtdbpnibcblelbaaGreatDoor
/- The contracts of chapter 9's functions in the specification, at every argument. What was there stays. -/
namespace Go.Proofs.YtdbpnibcblelbaaGreatDoor
open Go.ChangeShapes Go.WideShapes Go.ChangeAt Go.RowKit
end Go.Proofs.YtdbpnibcblelbaaGreatDoor
/- The contract of CutRecords in the specification, at every argument: code and pieces. What was there stays. -/
namespace Go.Proofs.YtdbpnibcblelbaaGreatDoor
open Go.ChangeShapes Go.WideShapes Go.ChangeAt Go.RowKit
end Go.Proofs.YtdbpnibcblelbaaGreatDoor
/- impl.toldLength, impl.firstRecord of the program, at every argument that they are called at. What was there stays. -/
namespace Go.Proofs.YtdbpnibcblelbaaGreatDoor
open Go.ChangeShapes Go.WideShapes Go.ChangeAt Go.RowKit
theorem told_get (bs : List UInt8) (h : 5 ≤ bs.length) : ((getB ((bs.drop 3).take 2) : Nat) : Int) = at8 bs 3 * 256 + at8 bs 4 := by
  rw [List.drop_eq_getElem_cons (by omega), List.drop_eq_getElem_cons (by omega)]
  rw [List.take_succ_cons, List.take_succ_cons, List.take_zero]
  show (((0 * 256 + (bs[3]'(by omega)).toNat) * 256 + (bs[4]'(by omega)).toNat : Nat) : Int) = _
  rw [at8_get (by omega), at8_get (by omega)]
  omega
theorem orI_nat (a b : Nat) (ha : a < 9223372036854775808) (hb : b < 9223372036854775808) : bits .or .i64 (a : Int) (b : Int) = ((a ||| b : Nat) : Int) := by
  have hx : a ||| b < 2 ^ 63 := Nat.or_lt_two_pow (by omega) (by omega)
  show IntKind.i64.wrap ((BitVec.ofInt 64 (a : Int) ||| BitVec.ofInt 64 (b : Int)).toNat : Int) = _
  rw [BitVec.toNat_or, ofInt_i64 a ha, ofInt_i64 b hb, wrap_i64_nat _ (by omega)]
theorem orI_two {x y : Int} (hx : 0 ≤ x) (hx2 : x ≤ 255) (hy : 0 ≤ y) (hy2 : y ≤ 255) : bits .or .i64 (x * 256) y = x * 256 + y := by
  obtain ⟨a, rfl⟩ : ∃ n : Nat, x = (n : Int) := ⟨x.toNat, by omega⟩
  obtain ⟨b, rfl⟩ : ∃ n : Nat, y = (n : Int) := ⟨y.toNat, by omega⟩
  rw [show ((a : Int) * 256) = ((a * 2 ^ 8 : Nat) : Int) by omega, orI_nat _ _ (by omega) (by omega), ← Nat.shiftLeft_eq, ← Nat.shiftLeft_add_eq_or_of_lt (show b < 2 ^ 8 by omega)]
  omega
set_option maxRecDepth 4000 in
set_option maxHeartbeats 400000 in
theorem toldLength_c (p : Option Addr) (q : Nat) (bs : List UInt8) (w : World) (hr : Rd w p q bs) (h5 : 5 ≤ bs.length) :
    Calls Tryz.prog 115 #[.slice p bs.length q] w fun e w' => e = .returned (.int .i64 (getB ((bs.drop 3).take 2) : Nat)) ∧ Below w.heap.size w w' := by
  obtain ⟨b, o, rfl, hc⟩ := hr.2.2.2 (by omega)
  have c3 := hc 3 (by omega)
  have c4 := hc 4 (by omega)
  have hl3 : (3 : Int) < (bs.length : Int) := by omega
  have hl4 : (4 : Int) < (bs.length : Int) := by omega
  have E : Hid (((getB ((bs.drop 3).take 2) : Nat) : Int) = at8 bs 3 * 256 + at8 bs 4) := told_get bs h5
  have l3 := at8_lo bs 3
  have u3 := at8_hi bs 3
  have l4 := at8_lo bs 4
  have u4 := at8_hi bs 4
  clear hr hc
  go_enter Tryz.func115, Tryz.ntmps115
  go_wp2
  go_quiet (fail)
  go_wp2
  rw [orI_two l3 u3 l4 u4, ← E.out]
  go_ret
  exact ⟨rfl, below_drewN (Below.refl _ _) _⟩
end Go.Proofs.YtdbpnibcblelbaaGreatDoor
/- SendRecord, HearRecord, UpdateStream, KeysOf of the specification, at every argument (written by tools/rec_s.py). What was there stays. -/
namespace Go.Proofs.YtdbpnibcblelbaaGreatDoor
open Go.ChangeShapes Go.WideShapes Go.ChangeAt Go.RowKit
theorem lit_own (w : World) (bs : List UInt8) (B : Nat) (hB : B ≤ w.heap.size) (hl : bs.length ≤ 1000) : Own (w.alloc (.cells (bs.map u8v).toArray 5)) B (.slice (some ⟨w.heap.size, 0, none⟩) bs.length bs.length) bs := by
  have h := World.ownsRow_lit (base := B) (e := 5) (size := 1) w (bs.map u8v).toArray bs.length hB (by unfold maxLen; omega) (by simp)
  exact h
theorem record_own {w : World} {B : Nat} {c k : Int} {bs : List UInt8} {s : StreamD} {u v : Value} (m : Nat) (h1 : Own w B u bs) (h2 : Own w B v s.1) (hl : ∀ k, u.ownBlock = some k → k < m) (hg : ∀ k, v.ownBlock = some k → m ≤ k) :
    recordResultC.own w B (c, k, bs, s) [.int .i64 c, .int .i64 k, u, v, .int .i64 s.2.1, .int .i64 s.2.2] ([] ++ ([] ++ (u.ownBlock.toList ++ (v.ownBlock.toList ++ ([] ++ []))))) :=
  own_pair 0 own_int (own_pair 0 own_int (own_pair m (byt_own h1) (own_pair (w.heap.size) (byt_own h2) (own_pair 0 own_int own_int lt_nil (fun _ _ => Nat.zero_le _)) (fun k hk => h2.lt k (mem_opt.1 hk)) (ge_app ge_nil ge_nil)) (fun k hk => hl k (mem_opt.1 hk)) (ge_app (fun k hk => hg k (mem_opt.1 hk)) (ge_app ge_nil ge_nil))) lt_nil (fun _ _ => Nat.zero_le _)) lt_nil (fun _ _ => Nat.zero_le _)
theorem badR_own (w : World) (B : Nat) (c : Int) : recordResultC.own w B (badR c) [.int .i64 c, .int .i64 0, .slice none 0 0, .slice none 0 0, .int .i64 0, .int .i64 0] [] :=
  record_own (s := zeroSt) 0 (Own_nil _ _) (Own_nil _ _) (fun k hk => by simp [Value.ownBlock] at hk) (fun k hk => by simp [Value.ownBlock] at hk)
end Go.Proofs.YtdbpnibcblelbaaGreatDoor
/- Chapter 12 as plain functions on data, with no program in it: certificates that are right (okC), found by number (atC), a list's fault (ctC), packed and read back (pcL, unC), signatures' faults (sgC), who may sign (swC, swD), what is found at a place (ckB). No conditions but those in each line. -/
namespace Go.Proofs.YtdbpnibcblelbaaGreatDoor
open Go.RowKit
def okC (c : CertD) : Bool := inB c.1 1 99 && inB c.2.1 1 9 && inB c.2.2 0 9999
def zC : CertD := (0, 0, 0)
def hasC (l : List CertD) (id : Int) : Bool := l.any fun c => c.1 == id
def atC (l : List CertD) (id : Int) : Option CertD := l.find? fun c => c.1 == id
def foC (l : List CertD) (id : Int) : CertD := (atC l id).getD zC
def cgC : List CertD → List CertD → Int
  | _, [] => 0
  | s, c :: t => if okC c then (if hasC s c.1 then 6 else cgC (s ++ [c]) t) else 3
def ctC (l : List CertD) : Int := if l.length ≤ 8 then cgC [] l else 2
/-! ## Packed and read back -/
def pcL (c : CertD) : List UInt8 := [UInt8.ofNat c.1.toNat, UInt8.ofNat c.2.1.toNat, UInt8.ofNat (c.2.2.toNat / 256), UInt8.ofNat c.2.2.toNat]
def rdC (a b c d : UInt8) : CertD := (a.toNat, b.toNat, c.toNat * 256 + d.toNat)
def ucD : List UInt8 → Int × CertD
  | [a, b, c, d] => if okC (rdC a b c d) then (0, rdC a b c d) else (5, zC)
  | _ => (5, zC)
/-! ## Signatures -/
def sgO (s : SignD) : Int := if inB s.1 1 99 && inB s.2.1 0 9 then (if is32 s.2.2 then 0 else 1) else 3
def sgF : List SignD → Int
  | [] => 0
  | s :: t => if sgO s = 0 then sgF t else sgO s
def sgC (l : List SignD) : Int := if l.length ≤ 40 then sgF l else 2
def lkB (leaked : List Int) (id : Int) : Bool := leaked.any fun x => x == id
def swO (list : List CertD) (leaked : List Int) (signs : List SignD) (id by' : Int) (d : List UInt8) : Int :=
  if hasC list id then (if inB by' 0 9 then (if is32 d then (if decide ((foC list id).2.1 = by') || lkB leaked id then (if signs.length < 40 then 0 else 2) else 7) else 1) else 3) else 4
def swC (list : List CertD) (leaked : List Int) (signs : List SignD) (id by' : Int) (d : List UInt8) : Int :=
  if ctC list = 0 then (if sgC signs = 0 then swO list leaked signs id by' d else sgC signs) else ctC list
abbrev SignsResultD := Int × Int × List SignD
def swD (list : List CertD) (leaked : List Int) (signs : List SignD) (id by' : Int) (d : List UInt8) : SignsResultD :=
  if swC list leaked signs id by' d = 0 then (0, signs.length, signs ++ [(id, by', d)]) else (swC list leaked signs id by' d, 0, [])
def ckA (signs : List SignD) (place id : Int) (d : List UInt8) : Bool :=
  decide (0 ≤ place) && ((signs[place.toNat]?).map fun s => (s.1 == id) && decide (s.2.2 = d)).getD false
def ckB (signs : List SignD) (place id : Int) (d : List UInt8) : Bool := decide (sgC signs = 0) && ckA signs place id d
end Go.Proofs.YtdbpnibcblelbaaGreatDoor
