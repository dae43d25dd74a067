/- The contracts of WordBytes and BytesWord and of what they call, in the specification and in the program: both answer the same, at every argument. -/
import Derived.Test.YtgdbbadmfddfbaaWords
import Derived.Test.YtgdbbadmfddfbaaCopy
import Derived.Test.YtgdbbadmfddfbaaPut
namespace Go.Proofs.Ytgdbbadmfddfbaa
open Go.ChangeShapes Go.WideShapes Go.ChangeAt Go.RowKit



def wbCode (v : Int) : Int := if inB v 0 4294967295 then 0 else 3
def wbBytes (v : Int) : List UInt8 := if inB v 0 4294967295 then putB v.toNat 4 else []
theorem wbCode_ok {v : Int} (h : inB v 0 4294967295 = true) : wbCode v = 0 := by simp [wbCode, h]
theorem wbBytes_ok {v : Int} (h : inB v 0 4294967295 = true) : wbBytes v = putB v.toNat 4 := by simp [wbBytes, h]
theorem wbCode_no {v : Int} (h : inB v 0 4294967295 = false) : wbCode v = 3 := by simp [wbCode, h]
theorem wbBytes_no {v : Int} (h : inB v 0 4294967295 = false) : wbBytes v = [] := by simp [wbBytes, h]
theorem wbBytes_len (v : Int) : (wbBytes v).length ≤ 4 := by unfold wbBytes; split <;> simp [putB_len]

theorem Own_nil (w : World) (B : Nat) : Own w B (.slice none 0 0) [] := World.ownsRow_nil _ _ _ _


set_option maxHeartbeats 1000000 in
theorem implWB_c (v : Int) (w : World) :
    Calls Try.prog 9 #[.int .i64 v] w fun e w' => ∃ u, e = .returned (.agg #[.int .i64 (wbCode v), u]) ∧ Own w' w.heap.size u (wbBytes v) ∧ Below w.heap.size w w' := by
  cases hv : inB v 0 4294967295
  · rw [wbCode_no hv, wbBytes_no hv]
    go_enter Try.func9, Try.ntmps9
    go_wp2_with (go_at_call 26; refine (isWord_c _ _).mono ?_; rintro e w' ⟨rfl, rfl⟩)
    exact bodyPost_ret (v := .agg #[.int .i64 3, .slice none 0 0]) (by simp [results, Try.results9, go_sem]) rfl ⟨_, rfl, Own_nil _ _, (Below.refl _ _).alloc (Nat.le_refl _) _⟩
  · have h := of_decide_eq_true hv
    rw [wbCode_ok hv, wbBytes_ok hv]
    go_enter Try.func9, Try.ntmps9
    go_wp2_with fail
    refine (isWord_c _ _).mono ?_
    rintro e w' ⟨rfl, rfl⟩
    go_wp2
    have e4 : putB v.toNat 4 = [UInt8.ofNat (v.toNat / 16777216 % 256), UInt8.ofNat (v.toNat / 65536 % 256), UInt8.ofNat (v.toNat / 256 % 256), UInt8.ofNat (v.toNat / 1 % 256)] := rfl
    refine bodyPost_ret (v := .agg #[.int .i64 0, .slice (some ⟨w.heap.size + 1, 0, none⟩) 4 4]) (by simp [results, Try.results9, go_sem]) rfl ⟨_, rfl, ?_, ((Below.refl _ _).alloc (Nat.le_refl _) _).alloc (by simp) _⟩
    unfold Own
    rw [putB_len]
    have hL := World.ownsRow_lit (base := w.heap.size) (e := 5) (size := 1) (w.alloc (Obj.cells #[Value.int IntKind.i64 0, Value.slice (some { block := w.heap.size + 1, off := 0 }) 4 4] 30)) #[Value.int IntKind.u8 (v / 16777216), Value.int IntKind.u8 (v / 65536 % 256), Value.int IntKind.u8 (v / 256 % 256), Value.int IntKind.u8 (v % 256)] 4 (by simp) (by unfold maxLen; decide) (by simp)
    rw [size_alloc] at hL
    have e5 : (putB v.toNat 4).map u8v = [Value.int IntKind.u8 (v / 16777216), Value.int IntKind.u8 (v / 65536 % 256), Value.int IntKind.u8 (v / 256 % 256), Value.int IntKind.u8 (v % 256)] := by
      rw [e4]
      simp only [List.map_cons, List.map_nil, u8v, UInt8.toNat_ofNat']
      obtain ⟨h1, h2⟩ := h
      rw [show (v / 16777216) = ((v.toNat / 16777216 % 256 % 256 : Nat) : Int) by omega, show (v / 65536 % 256) = ((v.toNat / 65536 % 256 % 256 : Nat) : Int) by omega, show (v / 256 % 256) = ((v.toNat / 256 % 256 % 256 : Nat) : Int) by omega, show (v % 256) = ((v.toNat / 1 % 256 % 256 : Nat) : Int) by omega]
    rw [e5]
    exact hL

end Go.Proofs.Ytgdbbadmfddfbaa
