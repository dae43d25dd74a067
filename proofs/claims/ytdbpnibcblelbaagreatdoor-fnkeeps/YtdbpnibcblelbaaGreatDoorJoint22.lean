/- Chapter 13 as plain functions on data, with no program in it: keys (kyN), digests (dgN), macs (mcN) and what is made of them (mkN), read back (raR), believed (caC); that what is made is read back, and what is read is what it is made as. No conditions but those in each line. -/
import Derived.Test.YtdbpnibcblelbaaGreatDoorJoint1
import Derived.Test.YtdbpnibcblelbaaGreatDoorJoint21
import Derived.Test.YtdbpnibcblelbaaGreatDoorJoint11
import Derived.Test.YtdbpnibcblelbaaGreatDoorJoint20
import Derived.Test.YtdbpnibcblelbaaGreatDoorJoint8
import Derived.Test.YtdbpnibcblelbaaGreatDoorJoint3
import Derived.Test.YtdbpnibcblelbaaGreatDoorJoint12
import Derived.Test.YtdbpnibcblelbaaGreatDoorJoint6
namespace Go.Proofs.YtdbpnibcblelbaaGreatDoor
open Go.RowKit

def clientB : List UInt8 := [97, 117, 116, 104, 32, 99, 108, 105, 101, 110, 116, 32]
def serverB : List UInt8 := [97, 117, 116, 104, 32, 115, 101, 114, 118, 101, 114, 32]
def contextB : List UInt8 := [99, 111, 110, 116, 101, 120, 116]
def finishB : List UInt8 := [102, 105, 110, 105, 115, 104]
def bindingB : List UInt8 := [99, 104, 97, 110, 110, 101, 108, 32, 98, 105, 110, 100, 105, 110, 103]
def roleB (r : Int) : Bool := decide (r = 1) || decide (r = 2)
def labN (r : Int) (fin : Bool) : List UInt8 := (if r = 2 then serverB else clientB) ++ (if fin then finishB else contextB)
def kyN (x : List UInt8) (r : Int) (fin : Bool) : List UInt8 := exportN x (labN r fin) [] 32
def biN (x : List UInt8) : List UInt8 := exportN x bindingB [] 32
def akC (x : List UInt8) (r : Int) : Int := if is32 x then (if roleB r then 0 else 3) else 1
def akD (x : List UInt8) (r : Int) (fin : Bool) : Int × List UInt8 := if akC x r = 0 then (0, kyN x r fin) else (akC x r, [])
def biD (x : List UInt8) : Int × List UInt8 := if is32 x then (0, biN x) else (1, [])
def ctxB (c : List UInt8) : Bool := inB (c.length : Int) 1 20
def dgN (x : List UInt8) (r : Int) (ctx : List UInt8) (c : CertD) : List UInt8 := digestN (kyN x r false ++ [UInt8.ofNat ctx.length] ++ ctx ++ pcL c)
def adC (x : List UInt8) (r : Int) (ctx : List UInt8) (c : CertD) : Int := if akC x r = 0 then (if ctxB ctx then (if okC c then 0 else 3) else 2) else akC x r
def adD (x : List UInt8) (r : Int) (ctx : List UInt8) (c : CertD) : Int × List UInt8 := if adC x r ctx c = 0 then (0, dgN x r ctx c) else (adC x r ctx c, [])
def mcN (x : List UInt8) (r : Int) (ctx : List UInt8) (c : CertD) (place : Int) : List UInt8 := macN (kyN x r true) (dgN x r ctx c ++ [UInt8.ofNat place.toNat])
def mkBl (x : List UInt8) (r : Int) (ctx : List UInt8) (c : CertD) (place : Int) : List (List UInt8) := [ctx, pcL c, [UInt8.ofNat place.toNat], mcN x r ctx c place]
def mkN (x : List UInt8) (r : Int) (ctx : List UInt8) (c : CertD) (place : Int) : List UInt8 := blksN (mkBl x r ctx c place)
def maC (x : List UInt8) (r : Int) (ctx : List UInt8) (c : CertD) (place : Int) : Int := if adC x r ctx c = 0 then (if inB place 0 39 then 0 else 3) else adC x r ctx c
def maD (x : List UInt8) (r : Int) (ctx : List UInt8) (c : CertD) (place : Int) : Int × List UInt8 := if maC x r ctx c place = 0 then (0, mkN x r ctx c place) else (maC x r ctx c place, [])
def zeroA : AuthD := ([], zC, 0, [])
def a4 : List (List UInt8) → Option AuthD
  | [a, b, c, m] => if ctxB a = true ∧ c.length = 1 ∧ m.length = 32 ∧ (ucD b).1 = 0 then some (a, (ucD b).2, (((c.getD 0 0).toNat : Nat) : Int), m) else none
  | _ => none
def raR (data : List UInt8) : Option AuthD := if data.length ≤ 160 then (splitR data 0 []).bind a4 else none
def raD (data : List UInt8) : Int × AuthD := match raR data with
  | some a => (0, a)
  | none => (5, zeroA)

theorem labN_len (r : Int) (fin : Bool) : (labN r fin).length ≤ 19 := by
  unfold labN; split <;> cases fin <;> decide
theorem kyN_len (x : List UInt8) (r : Int) (fin : Bool) : (kyN x r fin).length = 32 := expLabN_len _ _ _ _
theorem biN_len (x : List UInt8) : (biN x).length = 32 := expLabN_len _ _ _ _
theorem dgN_len (x : List UInt8) (r : Int) (ctx : List UInt8) (c : CertD) : (dgN x r ctx c).length = 32 := digestN_len _
theorem mcN_len (x : List UInt8) (r : Int) (ctx : List UInt8) (c : CertD) (place : Int) : (mcN x r ctx c place).length = 32 := macN_len _ _
theorem ctxB_parts {c : List UInt8} (h : ctxB c = true) : 1 ≤ c.length ∧ c.length ≤ 20 := by
  simp only [ctxB, inB, decide_eq_true_eq] at h; omega
theorem adC_ok {x : List UInt8} {r : Int} {ctx : List UInt8} {c : CertD} (h : adC x r ctx c = 0) : akC x r = 0 ∧ ctxB ctx = true ∧ okC c = true := by
  unfold adC at h
  by_cases h1 : akC x r = 0
  · rw [if_pos h1] at h
    cases h2 : ctxB ctx
    · rw [h2] at h; cases h
    · rw [h2, if_pos rfl] at h
      cases h3 : okC c
      · rw [h3] at h; cases h
      · exact ⟨h1, rfl, rfl⟩
  · rw [if_neg h1] at h; exact absurd h h1
theorem maC_ok {x : List UInt8} {r : Int} {ctx : List UInt8} {c : CertD} {place : Int} (h : maC x r ctx c place = 0) : adC x r ctx c = 0 ∧ 0 ≤ place ∧ place ≤ 39 := by
  unfold maC at h
  by_cases h1 : adC x r ctx c = 0
  · rw [if_pos h1] at h
    cases h2 : inB place 0 39
    · rw [h2] at h; cases h
    · simp only [inB, decide_eq_true_eq] at h2
      exact ⟨h1, h2.1, h2.2⟩
  · rw [if_neg h1] at h; exact absurd h h1
theorem four_len (ctx : List UInt8) (c : CertD) (z : UInt8) {m : List UInt8} (hm : m.length = 32) : (blksN [ctx, pcL c, [z], m]).length = ctx.length + 41 := by
  rw [blksN_cons, blksN_cons, blksN_cons, blksN_one, List.length_append, List.length_append, List.length_append, blkW_len, blkW_len, blkW_len, blkW_len, hm]
  simp [pcL]
theorem mkN_len (x : List UInt8) (r : Int) (ctx : List UInt8) (c : CertD) (place : Int) : (mkN x r ctx c place).length = ctx.length + 41 := by
  unfold mkN mkBl
  exact four_len ctx c _ (mcN_len x r ctx c place)
theorem a4_make {ctx : List UInt8} {c : CertD} {place : Int} {m : List UInt8} (h1 : ctxB ctx = true) (h2 : okC c = true) (h3 : 0 ≤ place) (h4 : place ≤ 255) (hm : m.length = 32) : a4 [ctx, pcL c, [UInt8.ofNat place.toNat], m] = some (ctx, c, place, m) := by
  have e : (((([UInt8.ofNat place.toNat] : List UInt8).getD 0 0).toNat : Nat) : Int) = place := by
    show (((UInt8.ofNat place.toNat).toNat : Nat) : Int) = _
    rw [UInt8.toNat_ofNat']
    omega
  unfold a4
  simp only
  rw [rdC_pack h2, e, if_pos ⟨h1, rfl, hm, rfl⟩]
theorem raR_four {ctx : List UInt8} {c : CertD} {place : Int} {m : List UInt8} (h1 : ctxB ctx = true) (h2 : okC c = true) (h3 : 0 ≤ place) (h4 : place ≤ 255) (hm : m.length = 32) : raR (blksN [ctx, pcL c, [UInt8.ofNat place.toNat], m]) = some (ctx, c, place, m) := by
  have hc := ctxB_parts h1
  have hs := split_pack [ctx, pcL c, [UInt8.ofNat place.toNat], m] [] [] (fun b hb => by
    simp only [List.mem_cons, List.not_mem_nil, or_false] at hb
    rcases hb with rfl | rfl | rfl | rfl
    · omega
    · simp [pcL]
    · simp
    · omega) (by simp)
  unfold raR
  rw [if_pos (by rw [four_len _ _ _ hm]; omega), show splitR (blksN [ctx, pcL c, [UInt8.ofNat place.toNat], m]) 0 [] = some [ctx, pcL c, [UInt8.ofNat place.toNat], m] from hs]
  exact a4_make h1 h2 h3 h4 hm
/-- What is made is read back. -/
theorem raR_make {x : List UInt8} {r : Int} {ctx : List UInt8} {c : CertD} {place : Int} (h1 : ctxB ctx = true) (h2 : okC c = true) (h3 : 0 ≤ place) (h4 : place ≤ 255) : raR (mkN x r ctx c place) = some (ctx, c, place, mcN x r ctx c place) := by
  have h := raR_four h1 h2 h3 h4 (mcN_len x r ctx c place)
  unfold mkN mkBl
  exact h
/-- What is read is what it is made as, but for the mac. -/
theorem raR_back {data : List UInt8} {a : AuthD} (h : raR data = some a) : ctxB a.1 = true ∧ okC a.2.1 = true ∧ 0 ≤ a.2.2.1 ∧ a.2.2.1 ≤ 255 ∧ a.2.2.2.length = 32 ∧ data.length ≤ 160 ∧ blksN [a.1, pcL a.2.1, [UInt8.ofNat a.2.2.1.toNat], a.2.2.2] = data := by
  unfold raR at h
  by_cases hl : data.length ≤ 160
  · rw [if_pos hl] at h
    cases hs : splitR data 0 [] with
    | none => rw [hs] at h; cases h
    | some bl =>
      rw [hs] at h
      have hb := pack_split data data.length 0 [] bl (by omega) (Nat.zero_le _) rfl (by decide) (fun b hb => by cases hb) hs
      match bl, h with
      | [p, b, c, m], h =>
        have hu2 : a4 [p, b, c, m] = some a := h
        unfold a4 at hu2
        simp only at hu2
        by_cases hc : ctxB p = true ∧ c.length = 1 ∧ m.length = 32 ∧ (ucD b).1 = 0
        · rw [if_pos hc] at hu2
          cases hu2
          have hr := pcL_read hc.2.2.2
          have e2 : [UInt8.ofNat ((((c.getD 0 0).toNat : Nat) : Int)).toNat] = c := by
            rw [Int.toNat_natCast, UInt8.ofNat_toNat]
            match c, hc.2.1 with
            | [x], _ => rfl
          refine ⟨hc.1, hr.1, by show (0 : Int) ≤ (((c.getD 0 0).toNat : Nat) : Int); omega, by have := (c.getD 0 0).toNat_lt; show (((c.getD 0 0).toNat : Nat) : Int) ≤ 255; omega, hc.2.2.1, hl, ?_⟩
          simp only
          rw [hr.2, e2]
          exact hb.1
        · rw [if_neg hc] at hu2; cases hu2
      | [], h => cases h
      | [_], h => cases h
      | [_, _], h => cases h
      | [_, _, _], h => cases h
      | _ :: _ :: _ :: _ :: _ :: _, h => cases h
  · rw [if_neg hl] at h; cases h
/-- Heard by right arguments: a code. -/
def hkC (x : List UInt8) (r : Int) (certs : List CertD) (signs : List SignD) (now : Int) (a : AuthD) : Int :=
  if hasC certs a.2.1.1 = true ∧ foC certs a.2.1.1 = a.2.1 then
    (if a.2.1.2.2 < now then 9 else (if ckA signs a.2.2.1 a.2.1.1 (dgN x r a.1 a.2.1) = true ∧ a.2.2.2 = mcN x r a.1 a.2.1 a.2.2.1 then 0 else 7))
  else 4
def caC (x : List UInt8) (r : Int) (certs : List CertD) (signs : List SignD) (now : Int) (data : List UInt8) : Int :=
  if akC x r = 0 then (if ctC certs = 0 then (if sgC signs = 0 then (if inB now 0 9999 then (match raR data with
    | some a => hkC x r certs signs now a
    | none => 5) else 3) else sgC signs) else ctC certs) else akC x r
def caD (x : List UInt8) (r : Int) (certs : List CertD) (signs : List SignD) (now : Int) (data : List UInt8) : Int × AuthD :=
  if caC x r certs signs now data = 0 then (0, (raR data).getD zeroA) else (caC x r certs signs now data, zeroA)
theorem hkC_ok {x : List UInt8} {r : Int} {certs : List CertD} {signs : List SignD} {now : Int} {a : AuthD} (h : hkC x r certs signs now a = 0) :
    hasC certs a.2.1.1 = true ∧ foC certs a.2.1.1 = a.2.1 ∧ now ≤ a.2.1.2.2 ∧ ckA signs a.2.2.1 a.2.1.1 (dgN x r a.1 a.2.1) = true ∧ a.2.2.2 = mcN x r a.1 a.2.1 a.2.2.1 := by
  unfold hkC at h
  by_cases h1 : hasC certs a.2.1.1 = true ∧ foC certs a.2.1.1 = a.2.1
  · rw [if_pos h1] at h
    by_cases h2 : a.2.1.2.2 < now
    · rw [if_pos h2] at h; cases h
    · rw [if_neg h2] at h
      by_cases h3 : ckA signs a.2.2.1 a.2.1.1 (dgN x r a.1 a.2.1) = true ∧ a.2.2.2 = mcN x r a.1 a.2.1 a.2.2.1
      · exact ⟨h1.1, h1.2, by omega, h3.1, h3.2⟩
      · rw [if_neg h3] at h; cases h
  · rw [if_neg h1] at h; cases h
/-- What is believed is what it is made as. -/
theorem hk_made {x : List UInt8} {r : Int} {certs : List CertD} {signs : List SignD} {now : Int} {data : List UInt8} {a : AuthD} (hr : raR data = some a) (h : hkC x r certs signs now a = 0) : mkN x r a.1 a.2.1 a.2.2.1 = data := by
  have h1 := raR_back hr
  have h2 := (hkC_ok h).2.2.2.2
  unfold mkN mkBl
  rw [← h2]
  exact h1.2.2.2.2.2.2
end Go.Proofs.YtdbpnibcblelbaaGreatDoor

/- Chapter 13 of the specification: what is asked (l13Role, l13Asked, l13Context) and the key (l13Key), AuthKey. No condition but lengths within the model's. -/
namespace Go.Proofs.YtdbpnibcblelbaaGreatDoor
open Go.RowKit

theorem l13Role_c (r : Int) (w : World) : Calls Tryz.prog 146 #[.int .i64 r] w fun e w' => e = .returned (.bool (roleB r)) ∧ w' = w := by
  by_cases h1 : r = 1
  · subst h1
    go_enter Tryz.func146, Tryz.ntmps146
    go_wp2
    go_ret
    exact ⟨rfl, rfl⟩
  · by_cases h2 : r = 2
    · subst h2
      go_enter Tryz.func146, Tryz.ntmps146
      go_wp2
      go_ret
      exact ⟨rfl, rfl⟩
    · have d1 : (r == 1) = false := by simpa using h1
      have d2 : (r == 2) = false := by simpa using h2
      rw [show roleB r = false by simp [roleB, h1, h2]]
      go_enter Tryz.func146, Tryz.ntmps146
      go_wp2
      go_ret
      exact ⟨rfl, rfl⟩
theorem l13Asked_c (p : Option Addr) (q : Nat) (x : List UInt8) (r : Int) (w : World) : Calls Tryz.prog 72 #[.slice p x.length q, .int .i64 r] w fun e w' => e = .returned (.int .i64 (akC x r)) ∧ w' = w := by
  unfold akC
  cases h1 : is32 x
  · go_enter Tryz.func72, Tryz.ntmps72
    go_wp2_with fail
    refine (l7Secret_c p q x _).mono ?_
    rintro e w1 ⟨rfl, rfl⟩
    rw [h1]
    go_wp2
    go_ret
    exact ⟨rfl, rfl⟩
  · cases h2 : roleB r
    · go_enter Tryz.func72, Tryz.ntmps72
      go_wp2_with fail
      refine (l7Secret_c p q x _).mono ?_
      rintro e w1 ⟨rfl, rfl⟩
      rw [h1]
      go_wp2_with fail
      refine (l13Role_c r _).mono ?_
      rintro e w1 ⟨rfl, rfl⟩
      rw [h2]
      go_wp2
      go_ret
      exact ⟨rfl, rfl⟩
    · go_enter Tryz.func72, Tryz.ntmps72
      go_wp2_with fail
      refine (l7Secret_c p q x _).mono ?_
      rintro e w1 ⟨rfl, rfl⟩
      rw [h1]
      go_wp2_with fail
      refine (l13Role_c r _).mono ?_
      rintro e w1 ⟨rfl, rfl⟩
      rw [h2]
      go_wp2
      go_ret
      exact ⟨rfl, rfl⟩
theorem l13Context_c (p : Option Addr) (q : Nat) (c : List UInt8) (w : World) : Calls Tryz.prog 129 #[.slice p c.length q] w fun e w' => e = .returned (.bool (ctxB c)) ∧ w' = w := by
  unfold ctxB
  go_enter Tryz.func129, Tryz.ntmps129
  go_wp2_with fail
  refine (l1In_c _ _ _ _).mono ?_
  rintro e w1 ⟨rfl, rfl⟩
  go_wp2
  go_ret
  exact ⟨rfl, rfl⟩
set_option maxRecDepth 4000 in
set_option maxHeartbeats 1000000 in
theorem l13Key_c (p : Option Addr) (q : Nat) (x : List UInt8) (r : Int) (fin : Bool) (w : World) (hr : Rd w p q x) (hx : x.length ≤ 64) :
    Calls Tryz.prog 150 #[.slice p x.length q, .int .i64 r, .bool fin] w fun e w' => ∃ u, e = .returned u ∧ Own w' w.heap.size u (kyN x r fin) ∧ Below w.heap.size w w' := by
  have K : Hid (∀ (l : List UInt8) (w : World), l.length ≤ 40 → Rd w p q x → Calls Tryz.prog 205 #[.slice p x.length q, .string (strB l), .slice none 0 0, .int .i64 32] w fun e w' => ∃ u, e = .returned u ∧ Own w' w.heap.size u (exportN x l [] 32) ∧ Below w.heap.size w w') := fun l w h1 h2 => l7Export_c p none q 0 x l [] 32 w h2 (rd_nil _) hx h1 (by decide) (by decide)
  have HD : Hid (kyN x r fin = exportN x ((if r = 2 then serverB else clientB) ++ (if fin then finishB else contextB)) [] 32) := rfl
  rw [HD.out]
  clear HD hx
  by_cases h2 : r = 2
  · subst h2
    rw [if_pos rfl]
    cases fin
    · go_enter Tryz.func150, Tryz.ntmps150
      go_wp2_with fail
      refine (K.out (serverB ++ contextB) _ (by decide) hr).mono ?_
      rintro e w1 ⟨u, rfl, k, hb⟩
      go_wp2
      go_ret
      exact ⟨_, rfl, k, hb⟩
    · go_enter Tryz.func150, Tryz.ntmps150
      go_wp2_with fail
      refine (K.out (serverB ++ finishB) _ (by decide) hr).mono ?_
      rintro e w1 ⟨u, rfl, k, hb⟩
      go_wp2
      go_ret
      exact ⟨_, rfl, k, hb⟩
  · have d2 : (r == 2) = false := by simpa using h2
    rw [if_neg h2]
    clear h2
    cases fin
    · go_enter Tryz.func150, Tryz.ntmps150
      go_wp2_with fail
      refine (K.out (clientB ++ contextB) _ (by decide) hr).mono ?_
      rintro e w1 ⟨u, rfl, k, hb⟩
      go_wp2
      go_ret
      exact ⟨_, rfl, k, hb⟩
    · go_enter Tryz.func150, Tryz.ntmps150
      go_wp2_with fail
      refine (K.out (clientB ++ finishB) _ (by decide) hr).mono ?_
      rintro e w1 ⟨u, rfl, k, hb⟩
      go_wp2
      go_ret
      exact ⟨_, rfl, k, hb⟩
end Go.Proofs.YtdbpnibcblelbaaGreatDoor

/- The contracts of the certificates in the specification: l12One, l12At, l12Fault, CertsFault, l12Pack, PackCert, l12Unpack, UnpackCert, LookCert, at every argument. What was there stays. -/
namespace Go.Proofs.YtdbpnibcblelbaaGreatDoor
open Go.ChangeShapes Go.WideShapes Go.ChangeAt Go.RowKit

set_option maxRecDepth 4000 in
set_option maxHeartbeats 400000 in
theorem l12One_c (b o : Nat) (c : CertD) (w : World) (c0 : w.cell? ⟨b, o, none⟩ = some (.int .i64 c.1)) (c1 : w.cell? ⟨b, o + 1, none⟩ = some (.int .i64 c.2.1)) (c2 : w.cell? ⟨b, o + 2, none⟩ = some (.int .i64 c.2.2)) :
    Calls Tryz.prog 130 #[.pointer (some ⟨b, o, none⟩)] w fun e w' => e = .returned (.bool (okC c)) ∧ w' = w := by
  cases h1 : inB c.1 1 99
  · rw [show okC c = false by simp [okC, h1]]
    go_enter Tryz.func130, Tryz.ntmps130
    go_wp2_with fail
    refine (l1In_c _ _ _ _).mono ?_
    rintro e w' ⟨rfl, rfl⟩
    rw [h1]
    go_wp2
    go_ret
    exact ⟨rfl, rfl⟩
  · cases h2 : inB c.2.1 1 9
    · rw [show okC c = false by simp [okC, h2]]
      go_enter Tryz.func130, Tryz.ntmps130
      go_wp2_with fail
      refine (l1In_c _ _ _ _).mono ?_
      rintro e w' ⟨rfl, rfl⟩
      rw [h1]
      go_wp2_with fail
      refine (l1In_c _ _ _ _).mono ?_
      rintro e w' ⟨rfl, rfl⟩
      rw [h2]
      go_wp2
      go_ret
      exact ⟨rfl, rfl⟩
    · rw [show okC c = inB c.2.2 0 9999 by simp [okC, h1, h2]]
      go_enter Tryz.func130, Tryz.ntmps130
      go_wp2_with fail
      refine (l1In_c _ _ _ _).mono ?_
      rintro e w' ⟨rfl, rfl⟩
      rw [h1]
      go_wp2_with fail
      refine (l1In_c _ _ _ _).mono ?_
      rintro e w' ⟨rfl, rfl⟩
      rw [h2]
      go_wp2_with fail
      refine (l1In_c _ _ _ _).mono ?_
      rintro e w' ⟨rfl, rfl⟩
      go_wp2
      go_ret
      exact ⟨rfl, rfl⟩
/-- Where the first one of that number stands; -1: nowhere. -/
def ixC (l : List CertD) (id : Int) : Int := if hasC l id then (l.findIdx fun c => c.1 == id : Nat) else -1
theorem ixC_at {l : List CertD} {k : Nat} {a : CertD} {id : Int} (h : l[k]? = some a) (hn : hasC (l.take k) id = false) (he : a.1 = id) : ixC l id = k := by
  unfold ixC
  rw [if_pos (hasC_at h he)]
  congr 1
  obtain ⟨hk, ha⟩ := List.getElem?_eq_some_iff.1 h
  refine (List.findIdx_eq hk).2 ⟨by rw [ha]; simpa using he, fun j hj => ?_⟩
  simp only [hasC, List.any_eq_false] at hn
  have := hn l[j] (by rw [List.mem_take_iff_getElem]; exact ⟨j, by omega, rfl⟩)
  simpa using this
theorem ixC_none {l : List CertD} {id : Int} (h : hasC l id = false) : ixC l id = -1 := by unfold ixC; rw [h]; rfl
theorem ixC_some {l : List CertD} {id : Int} (h : hasC l id = true) : ∃ k : Nat, ixC l id = (k : Int) ∧ l[k]? = some (foC l id) ∧ (foC l id).1 = id := by
  refine ⟨l.findIdx fun c => c.1 == id, by unfold ixC; rw [if_pos h], ?_⟩
  simp only [hasC, List.any_eq_true] at h
  have hlt : l.findIdx (fun c => c.1 == id) < l.length := List.findIdx_lt_length.2 h
  have hp := List.findIdx_getElem (w := hlt)
  have e : foC l id = l[l.findIdx (fun c => c.1 == id)] := by
    unfold foC atC
    rw [List.find?_eq_getElem?_findIdx, List.getElem?_eq_getElem hlt]
    rfl
  rw [e]
  exact ⟨List.getElem?_eq_getElem hlt, by simpa using hp⟩
theorem ixC_self {l : List CertD} {k : Nat} {a : CertD} (h : l[k]? = some a) : (ixC l a.1 = (k : Int)) ↔ hasC (l.take k) a.1 = false := by
  constructor
  · intro he
    cases hh : hasC (l.take k) a.1
    · rfl
    · exfalso
      simp only [hasC, List.any_eq_true] at hh
      obtain ⟨x, hx, hx2⟩ := hh
      rw [List.mem_take_iff_getElem] at hx
      obtain ⟨j, hj, rfl⟩ := hx
      unfold ixC at he
      rw [if_pos (hasC_at h rfl)] at he
      have he2 : (l.findIdx fun c => c.1 == a.1) = k := by omega
      have := List.not_of_lt_findIdx (xs := l) (p := fun c => c.1 == a.1) (i := j) (by omega)
      rw [hx2] at this; cases this
  · intro hn; exact ixC_at h hn rfl

set_option maxRecDepth 4000 in
set_option maxHeartbeats 400000 in
theorem l12At_c (l : List CertD) (p : Option Addr) (q : Nat) (id : Int) (w : World) (hr : RdL certC w p q l) :
    Calls Tryz.prog 147 #[.slice p l.length q, .int .i64 id] w fun e w' => e = .returned (.int .i64 (ixC l id)) ∧ w' = w := by
  have HR : Hid (RdL certC w p q l) := hr
  have hq1 : l.length ≤ q := hr.1
  have hq2 : q ≤ 2 ^ 63 - 1 := hr.2.1
  clear hr
  go_enter Tryz.func147, Tryz.ntmps147
  go_wp2
  go_loopw [5] (fun i wr => wr = w ∧ ∃ k : Nat, k ≤ l.length ∧ i = .int .i64 k ∧ hasC (l.take k) id = false)
    (fun i _ => l.length - (intOf i).toNat)
  case atStart => exact ⟨rfl, 0, Nat.zero_le _, rfl, hasC_zero _ _⟩
  case round =>
    obtain ⟨rfl, k, hk, rfl, hn⟩ := hrel
    by_cases hlt : k < l.length
    · have hI : (k : Int) < (l.length : Int) := by omega
      obtain ⟨b, o, e1, hc⟩ := HR.out.2.2.2 (by omega)
      subst e1
      obtain ⟨a, ha⟩ : ∃ a, l[k]? = some a := ⟨l[k], by simp [hlt]⟩
      obtain ⟨us, hrep, hcell⟩ := hc k a ha
      obtain rfl := cert_rep hrep
      have c0 := hcell 0 _ rfl
      rw [show certC.n = 3 from rfl] at c0
      rw [Nat.add_zero] at c0
      clear hc hcell hrep
      by_cases he : a.1 = id
      · have d : (a.1 == id) = true := by rw [beq_iff_eq]; exact he
        have HE : Hid (ixC l id = k) := ixC_at ha hn he
        clear he hn
        go_wp2
        go_ret
        exact ⟨by rw [HE.out]; rfl, rfl⟩
      · have d : (a.1 == id) = false := by rw [beq_eq_false_iff_ne]; exact he
        have hn2 : Hid (hasC (l.take (k + 1)) id = false) := by show _ = _; rw [hasC_take ha, hn, d]; rfl
        clear he hn
        go_wp2
        go_roundw
        case rel => exact ⟨trivial, k + 1, by omega, by go_num, hn2.out⟩
        case measure => simp [intOf]; omega
    · have e : k = l.length := by omega
      subst e
      rw [List.take_length] at hn
      go_wp2
      go_ret
      exact ⟨by rw [ixC_none hn]; rfl, rfl⟩

set_option maxRecDepth 4000 in
set_option maxHeartbeats 400000 in
theorem l12Fault_c (l : List CertD) (p : Option Addr) (q : Nat) (w : World) (hr : RdL certC w p q l) :
    Calls Tryz.prog 73 #[.slice p l.length q] w fun e w' => e = .returned (.int .i64 (ctC l)) ∧ w' = w := by
  have HR : Hid (RdL certC w p q l) := hr
  have hq1 : l.length ≤ q := hr.1
  have hq2 : q ≤ 2 ^ 63 - 1 := hr.2.1
  clear hr
  by_cases hl : l.length ≤ 8
  · have hlI : ¬ (8 < (l.length : Int)) := by omega
    have HC : Hid (ctC l = cgC [] l) := by show _ = _; rw [ctC, if_pos hl]
    go_enter Tryz.func73, Tryz.ntmps73
    go_wp2
    go_loopw [3] (fun i wr => wr = w ∧ ∃ k : Nat, k ≤ l.length ∧ i = .int .i64 k ∧ ctC l = cgC (l.take k) (l.drop k))
      (fun i _ => l.length - (intOf i).toNat)
    case atStart => exact ⟨rfl, 0, Nat.zero_le _, rfl, HC.out⟩
    case round =>
      obtain ⟨rfl, k, hk, rfl, hn⟩ := hrel
      by_cases hlt : k < l.length
      · have hI : (k : Int) < (l.length : Int) := by omega
        obtain ⟨b, o, e1, hc⟩ := HR.out.2.2.2 (by omega)
        subst e1
        obtain ⟨a, ha⟩ : ∃ a, l[k]? = some a := ⟨l[k], by simp [hlt]⟩
        obtain ⟨us, hrep, hcell⟩ := hc k a ha
        obtain rfl := cert_rep hrep
        have c0 := hcell 0 _ rfl
        have c1 := hcell 1 _ rfl
        have c2 := hcell 2 _ rfl
        rw [show certC.n = 3 from rfl] at c0 c1 c2
        rw [Nat.add_zero] at c0
        have K1 : Hid (Calls Tryz.prog 130 #[.pointer (some ⟨b, o + k * 3, none⟩)] wr fun e w' => e = .returned (.bool (okC a)) ∧ w' = wr) := l12One_c b (o + k * 3) a wr c0 c1 c2
        have K2 : Hid (Calls Tryz.prog 147 #[.slice (some ⟨b, o, none⟩) l.length q, .int .i64 a.1] wr fun e w' => e = .returned (.int .i64 (ixC l a.1)) ∧ w' = wr) := l12At_c l _ q a.1 wr HR.out
        clear hc hcell hrep c1 c2
        cases ho : okC a
        · have hn2 : Hid (ctC l = 3) := hn.trans (cgC_bad ha ho)
          rw [ho] at K1
          clear hn
          go_wp2_with fail
          refine K1.out.mono ?_
          rintro e w2 ⟨rfl, rfl⟩
          go_wp2
          go_ret
          exact ⟨by rw [hn2.out]; rfl, rfl⟩
        · rw [ho] at K1
          by_cases ht : ixC l a.1 = (k : Int)
          · have hn2 : Hid (ctC l = cgC (l.take (k + 1)) (l.drop (k + 1))) := hn.trans (cgC_step ha ho ((ixC_self ha).1 ht))
            rw [ht] at K2
            clear hn ht
            go_wp2_with fail
            refine K1.out.mono ?_
            rintro e w2 ⟨rfl, rfl⟩
            go_wp2_with fail
            refine K2.out.mono ?_
            rintro e w2 ⟨rfl, rfl⟩
            go_wp2_with fail
            go_roundw
            case rel => exact ⟨trivial, k + 1, by omega, by go_num, hn2.out⟩
            case measure => simp [intOf]; omega
          · have hn2 : Hid (ctC l = 6) := hn.trans (cgC_taken ha ho (by cases h : hasC (l.take k) a.1; exact absurd ((ixC_self ha).2 h) ht; rfl))
            obtain ⟨z, hz⟩ : ∃ z, Hid (ixC l a.1 = z) := ⟨_, rfl⟩
            rw [hz.out] at K2 ht
            have d : (z != (k : Int)) = true := by rw [bne_iff_ne]; exact ht
            clear hn ht hz
            go_wp2_with fail
            refine K1.out.mono ?_
            rintro e w2 ⟨rfl, rfl⟩
            go_wp2_with fail
            refine K2.out.mono ?_
            rintro e w2 ⟨rfl, rfl⟩
            go_wp2
            go_ret
            exact ⟨by rw [hn2.out]; rfl, rfl⟩
      · have e : k = l.length := by omega
        subst e
        have hn2 : Hid (ctC l = 0) := hn.trans (cgC_end l)
        clear hn
        go_wp2
        go_ret
        exact ⟨by rw [hn2.out]; rfl, rfl⟩
  · have hlI : 8 < (l.length : Int) := by omega
    rw [show ctC l = 2 by rw [ctC, if_neg hl]]
    clear hl
    go_enter Tryz.func73, Tryz.ntmps73
    go_wp2
    go_ret
    exact ⟨rfl, rfl⟩
theorem bytesLit_own (w : World) (bs : List UInt8) (B : Nat) (hB : B ≤ w.heap.size) (hl : bs.length ≤ 1000) : Own (w.alloc (.cells (bs.map u8v).toArray 5)) B (.slice (some ⟨w.heap.size, 0, none⟩) bs.length bs.length) bs := by
  have h := World.ownsRow_lit (base := B) (e := 5) (size := 1) w (bs.map u8v).toArray bs.length hB (by unfold maxLen; omega) (by simp)
  exact h
theorem u8v_mod {a : Int} (h : 0 ≤ a) : u8v (UInt8.ofNat a.toNat) = .int .u8 (a % 256) := by
  unfold u8v; rw [UInt8.toNat_ofNat']; congr 1; omega
theorem pcL_put {c : CertD} : pcL c = [UInt8.ofNat c.1.toNat, UInt8.ofNat c.2.1.toNat] ++ putB c.2.2.toNat 2 := by
  have q : ∀ (m n : Nat), m % 256 = n % 256 → UInt8.ofNat m = UInt8.ofNat n := fun m n h => by
    apply UInt8.toNat_inj.1; rw [UInt8.toNat_ofNat', UInt8.toNat_ofNat']; exact h
  simp only [pcL, putB, List.cons_append, List.nil_append, List.cons.injEq, true_and, and_true]
  exact ⟨q _ _ (by omega), q _ _ (by omega)⟩
set_option maxRecDepth 4000 in
set_option maxHeartbeats 1000000 in
theorem l12Pack_c (b o : Nat) (c : CertD) (w : World) (c0 : w.cell? ⟨b, o, none⟩ = some (.int .i64 c.1)) (c1 : w.cell? ⟨b, o + 1, none⟩ = some (.int .i64 c.2.1)) (c2 : w.cell? ⟨b, o + 2, none⟩ = some (.int .i64 c.2.2)) (hc : okC c = true) :
    Calls Tryz.prog 132 #[.pointer (some ⟨b, o, none⟩)] w fun e w' => ∃ u, e = .returned u ∧ Own w' w.heap.size u (pcL c) ∧ Below w.heap.size w w' := by
  have hp := okC_parts hc
  obtain ⟨m, hm⟩ : ∃ m : Nat, c.2.2 = (m : Int) := ⟨c.2.2.toNat, by omega⟩
  have HM : Hid (m ≤ 9999) := by show _ ≤ _; omega
  have HL : Hid (pcL c = [UInt8.ofNat c.1.toNat, UInt8.ofNat c.2.1.toNat] ++ putB m 2) := by show _ = _; rw [pcL_put, hm]; rfl
  have HB : Hid (∀ V : World, w.heap.size ≤ V.heap.size → Own (V.alloc (.cells #[.int .u8 (c.1 % 256), .int .u8 (c.2.1 % 256)] 5)) w.heap.size (.slice (some ⟨V.heap.size, 0, none⟩) 2 2) [UInt8.ofNat c.1.toNat, UInt8.ofNat c.2.1.toNat]) := fun V hV => by
    have h := bytesLit_own V [UInt8.ofNat c.1.toNat, UInt8.ofNat c.2.1.toNat] w.heap.size hV (by simp)
    rw [show ([UInt8.ofNat c.1.toNat, UInt8.ofNat c.2.1.toNat].map u8v).toArray = #[.int .u8 (c.1 % 256), .int .u8 (c.2.1 % 256)] by simp only [List.map_cons, List.map_nil]; rw [u8v_mod (by omega), u8v_mod (by omega)]] at h
    exact h
  rw [hm] at c2
  clear hp hc hm
  go_enter Tryz.func132, Tryz.ntmps132
  have C0 := HW.at c0
  have C1 := HW.at c1
  have C2 := HW.at c2
  have hne := HW.some w
  go_wp2_with fail
  refine wp_region_pick [0, 1, 2, 3, 4, 5, 6, 7, 8, 9, 11, 12, 13, 14] 16 2 2 rfl rfl rfl (by kernel_rfl) (by kernel_rfl) (by kernel_rfl) (by kernel_rfl) ?_
  simp only [opsAt, List.getElem?_toArray, List.getElem?_cons_zero, List.getElem?_cons_succ]
  repeat (go_big_quiet_step (fail))
  refine wpQuiet_nil ?_
  refine wpM_two (i := 10) (j := 15) (by kernel_rfl) ?_ ?_
  case' refine_1 =>
    refine mOp_make rfl (by go_simp) ?_
    rintro _ ⟨s1, rfl⟩
    refine ⟨.slice (some ⟨s1.w.heap.size, 0, none⟩) 2 2, s1.w.alloc (.cells #[.int .u8 (c.1 % 256), .int .u8 (c.2.1 % 256)] 5), by go_simp, ⟨⟨_, alloc_below _ _⟩, rfl⟩, ?_⟩
    refine wpM_only (i := 15) (by kernel_rfl) ?_
    refine mOp_call rfl (by go_simp) 194 _ #[.int .i64 (m : Int), .int .i64 2] (fun w => by go_simp) rfl ?_
    rintro _ ⟨s2, rfl⟩
    refine (l1Put_c m 2 _ (by have := HM.out; omega) (by decide)).mono ?_
    rintro e w3 ⟨u3, rfl, k3, hb3⟩
    refine ⟨u3, rfl, ⟨⟨_, hb3⟩, rfl⟩, ?_⟩
    refine wpM_end (by kernel_rfl) rfl (by kernel_rfl) (by decide) ?_
    rintro _ ⟨s4, rfl⟩
    have R1 := (((HB.out s1.w s1.h.size).stay s2.h).stay hb3).stay s4.h
    obtain ⟨p3, q3, rfl, r3⟩ := k3.rd
    have R2 := r3.keep s4.h
    have BW := Below.step (Below.step (Below.step (Below.step s1.h (alloc_below _ _)) s2.h) hb3) s4.h
    generalize s4.w = W at *
    generalize s1.w.heap.size = g8 at *
    clear s4 k3 r3 hb3 s2 s1 hne
  case' refine_2 =>
    refine mOp_call rfl (by go_simp) 194 _ #[.int .i64 (m : Int), .int .i64 2] (fun w => by go_simp) rfl ?_
    rintro _ ⟨s2, rfl⟩
    refine (l1Put_c m 2 _ (by have := HM.out; omega) (by decide)).mono ?_
    rintro e w3 ⟨u3, rfl, k3, hb3⟩
    refine ⟨u3, rfl, ⟨⟨_, hb3⟩, rfl⟩, ?_⟩
    refine wpM_only (i := 10) (by kernel_rfl) ?_
    refine mOp_make rfl (by go_simp) ?_
    rintro _ ⟨s1, rfl⟩
    refine ⟨.slice (some ⟨s1.w.heap.size, 0, none⟩) 2 2, s1.w.alloc (.cells #[.int .u8 (c.1 % 256), .int .u8 (c.2.1 % 256)] 5), by go_simp, ⟨⟨_, alloc_below _ _⟩, rfl⟩, ?_⟩
    refine wpM_end (by kernel_rfl) rfl (by kernel_rfl) (by decide) ?_
    rintro _ ⟨s4, rfl⟩
    have B1 := Below.step (Below.step s2.h hb3) s1.h
    have R1 := (HB.out s1.w B1.size).stay s4.h
    obtain ⟨p3, q3, rfl, r3⟩ := k3.rd
    have R2 := ((r3.keep s1.h).keep (alloc_below _ (.cells #[.int .u8 (c.1 % 256), .int .u8 (c.2.1 % 256)] 5))).keep s4.h
    have BW := Below.step (Below.step B1 (alloc_below _ (.cells #[.int .u8 (c.1 % 256), .int .u8 (c.2.1 % 256)] 5))) s4.h
    generalize s4.w = W at *
    generalize s1.w.heap.size = g8 at *
    clear s4 s1 k3 r3 hb3 s2 hne B1
  all_goals
    simp only [List.drop_succ_cons, List.drop_zero]
    have HPL : Hid ((putB m 2).length = 2) := putB_len _ _
    rw [HPL.out]
    clear C0 C1 C2 c0 c1 c2
    go_simp
    go_wp2_with (at_builtin; refine wpList_append_rd rfl (.tmp 13) (.tmp 18) rfl w.heap.size _ [UInt8.ofNat c.1.toNat, UInt8.ofNat c.2.1.toNat] rfl R1 p3 q3 (putB m 2) (by rw [HPL.out]; rfl) R2 (by rw [HPL.out]; simp) BW.size ?_; intro v3 w3 k3 hg3)
    have BW3 := BW.grown hg3 BW.size (fun k hk => R1.ge k hk)
    rw [← HL.out] at k3
    go_wp2_with fail
    go_ret
    exact ⟨_, rfl, k3, BW3⟩
end Go.Proofs.YtdbpnibcblelbaaGreatDoor

