/- The contracts of MixRound and of what it calls besides a round, in the specification and in the program: both answer mixCode and mixList, at every argument. -/
import Derived.Test.YtbgiaoipdadanaaRound
import Derived.Test.YtbgiaoipdadanaaWords
import Derived.Test.YtbgiaoipdadanaaCopyI
import Derived.Test.YtbgiaoipdadanaaArr
import Derived.Deep.AppendLies
namespace Go.Proofs.Ytbgiaoipdadanaa
open Go.ChangeShapes Go.WideShapes Go.ChangeAt Go.RowKit

def isW (v : Int) : Bool := inB v 0 4294967295
def mixOk (l : List Int) (word key : Int) : Bool := l.all isW && isW word && isW key
def s8 (l : List Int) : S8 := ⟨(atI l 0).toNat, (atI l 1).toNat, (atI l 2).toNat, (atI l 3).toNat, (atI l 4).toNat, (atI l 5).toNat, (atI l 6).toNat, (atI l 7).toNat⟩
def mixCode (l : List Int) (word key : Int) : Int := if l.length = 8 then (if mixOk l word key then 0 else 3) else 1
def mixList (l : List Int) (word key : Int) : List Int := if l.length = 8 then (if mixOk l word key then (roundN (s8 l) word.toNat key.toNat).list.map Int.ofNat else []) else []
theorem mixList_len (l : List Int) (word key : Int) : (mixList l word key).length ≤ 8 := by
  unfold mixList; split
  · split <;> simp [S8.list]
  · simp
theorem isW_at {l : List Int} (h : l.all isW = true) (i : Nat) : 0 ≤ atI l i ∧ atI l i ≤ 4294967295 := by
  unfold atI
  rw [List.getD_eq_getElem?_getD]
  cases e : l[i]? with
  | none => simp
  | some x =>
    have h2 := (List.all_eq_true.1 h) x (List.mem_of_getElem? e)
    simpa [isW, inB] using h2
theorem all_of_at {l : List Int} (h : ∀ j, j < l.length → isW (atI l j) = true) : l.all isW = true := by
  rw [List.all_eq_true]
  intro x hx
  obtain ⟨i, hi, rfl⟩ := List.mem_iff_getElem.1 hx
  rw [← atI_get hi]; exact h i hi
theorem not_all_at {l : List Int} {j : Nat} (hj : j < l.length) (h : isW (atI l j) = false) : l.all isW = false := by
  rw [List.all_eq_false]
  exact ⟨l[j], List.getElem_mem hj, by rw [← atI_get hj, h]; simp⟩
theorem partI_arr (l : List Int) (k : Nat) (h : k < l.length) : (partI l l.length k).set k (.int .i64 (atI l k)) = partI l l.length (k + 1) := partI_set l k h

theorem i64_of_l {l : List Int} (h : l.length = 8) (ha : l.all isW = true) : (l.map i64z).toArray = (s8 l).i64 := by
  have e := fun i => Int.toNat_of_nonneg (isW_at ha i).1
  have e0 := e 0; have e1 := e 1; have e2 := e 2; have e3 := e 3; have e4 := e 4; have e5 := e 5; have e6 := e 6; have e7 := e 7
  unfold S8.i64 s8
  simp only [e0, e1, e2, e3, e4, e5, e6, e7]
  match l, h with
  | [a, b, c, d, e, f, g, q], _ => rfl
theorem s8_ok {l : List Int} (ha : l.all isW = true) : (s8 l).ok := by
  have e : ∀ i, (atI l i).toNat < 4294967296 := fun i => by have := isW_at ha i; omega
  exact ⟨e 0, e 1, e 2, e 3, e 4, e 5, e 6, e 7⟩
theorem isW_nat {v : Int} (h : isW v = true) : ∃ n : Nat, v = n ∧ n < 4294967296 := by
  simp [isW, inB] at h
  exact ⟨v.toNat, by omega, by omega⟩
theorem l2Round_s (s : S8) (word key : Nat) (w : World) (h : s.ok) (hw : word < 4294967296) (hk : key < 4294967296) :
    Calls Try.prog 46 #[.agg s.i64, .int .i64 word, .int .i64 key] w fun r w' => r = .returned (.agg (roundN s word key).i64) ∧ Below w.heap.size w w' :=
  l2Round_c s.a s.b s.c s.d s.e s.f s.g s.h word key w h.1 h.2.1 h.2.2.1 h.2.2.2.1 h.2.2.2.2.1 h.2.2.2.2.2.1 h.2.2.2.2.2.2.1 h.2.2.2.2.2.2.2 hw hk
theorem mixed_s (s : S8) (word key : Nat) (w : World) (h : s.ok) :
    Calls Try.prog 44 #[.agg s.u32, .int .u32 word, .int .u32 key] w fun r w' => r = .returned (.agg (roundN s word key).u32) ∧ Below w.heap.size w w' :=
  mixed_c s.a s.b s.c s.d s.e s.f s.g s.h word key w h.1 h.2.1 h.2.2.1 h.2.2.2.2.1 h.2.2.2.2.2.1 h.2.2.2.2.2.2.1

theorem info_s8 : (Try.prog.info? 69).map (·.size) = some 8 := by kernel_rfl

set_option maxHeartbeats 1000000 in
theorem specMix_s (a : Option Addr) (cap : Nat) (l : List Int) (word key : Int) (w : World) (hr : RdI w a cap l) :
    Calls Try.prog 25 #[.slice a l.length cap, .int .i64 word, .int .i64 key] w fun e w' => ∃ u, e = .returned (.agg #[.int .i64 (mixCode l word key), u]) ∧ OwnI w' w.heap.size u (mixList l word key) ∧ Below w.heap.size w w' ∧ (mixCode l word key ≠ 0 → u = .slice none 0 0) := by
  obtain ⟨i0, hi, hz0, hz1, hz2⟩ := info_parts info64
  by_cases h8 : l.length = 8
  · have E3 : Hid (mixOk l word key = false → mixCode l word key = 3 ∧ mixList l word key = []) := fun h => by simp [mixCode, mixList, h8, h]
    have E0 : Hid (mixOk l word key = true → mixCode l word key = 0 ∧ mixList l word key = (roundN (s8 l) word.toNat key.toNat).list.map Int.ofNat) := fun h => by simp [mixCode, mixList, h8, h]
    have HR : Hid (RdI w a cap l) := hr
    have hne : (((l.length : Nat) : Int) != 8) = false := by simp [h8]
    have HL : Hid (l.length = 8) := h8
    clear h8 hr
    go_enter Try.func25, Try.ntmps25
    go_wp2
    go_loopw [8] (fun i wr => ∃ k : Nat, k ≤ 8 ∧ i = .int .i64 k ∧ (∀ j, j < k → isW (atI l j) = true) ∧ Arr wr (w.heap.size + 1) 69 (partI l l.length k) ∧ Arr wr w.heap.size 44 [.int .i64 0, .slice none 0 0] ∧ Below w.heap.size w wr)
      (fun i _ => 8 - (intOf i).toNat)
    case atStart => exact ⟨0, Nat.zero_le _, rfl, fun j hj => absurd hj (Nat.not_lt_zero _), by rw [partI_zero, HL.out, ← size_alloc w]; exact Arr.new _ _ _, (Arr.new w [.int .i64 0, .slice none 0 0] _).old _ _, Below.mk (alloc_below _ _) _⟩
    case round =>
      obtain ⟨k, hk, rfl, hall, hs, ho, hbel⟩ := hrel
      have c0 := ho.cell 0
      have c1 := ho.cell 1
      have f0 := ho.frozen
      simp at c0 c1
      by_cases hlt : k < 8
      · have hll : k < l.length := by rw [HL.out]; exact hlt
        have hcx : wr.cell? ⟨w.heap.size + 1, k, none⟩ = some (.int .i64 0) := by rw [hs.cell, partI_at l k hll]
        have hfx := hs.frozen k
        obtain ⟨b, o, ea, hc⟩ := HR.out.2.2.2 (by omega)
        have hcy : wr.cell? ⟨b, o + k, none⟩ = some (.int .i64 (atI l k)) := (hbel.cell (World.block_lt_of_cell? w _ (hc k hll))).trans (hc k hll)
        subst ea
        have hlc : (k : Int) < (l.length : Int) := by omega
        cases hb : isW (atI l k)
        · have hno : Hid (mixCode l word key = 3 ∧ mixList l word key = []) := E3.out (by simp [mixOk, not_all_at hll hb])
          clear hc hs HR E3 E0
          go_wp2_with fail
          refine (l1Word_c _ _).mono ?_
          rintro e w' ⟨rfl, rfl⟩
          rw [show inB (atI l k) 0 4294967295 = false from hb]
          go_wp2
          exact bodyPost_ret (v := .agg #[.int .i64 3, .slice none 0 0]) (by simp [results, Try.results25, go_sem, c0, c1]) rfl ⟨_, by rw [hno.out.1], by rw [hno.out.2]; exact OwnI_nil _ _, (hbel.setCell (Nat.le_refl _) _).setCell (Nat.le_refl _) _, fun _ => rfl⟩
        · have R := hs.set k (.int .i64 (atI l k))
          rw [partI_set l k hll] at R
          have RO := ho.setOther (a := ⟨w.heap.size + 1, k, none⟩) (by show w.heap.size ≠ w.heap.size + 1; omega) (.int .i64 (atI l k))
          have RB := Below.setCell (p := ⟨w.heap.size + 1, k, none⟩) hbel (Nat.le_succ _) (.int .i64 (atI l k))
          clear hc hs HR E3 E0 c0 c1 f0 ho
          go_wp2_with fail
          refine (l1Word_c _ _).mono ?_
          rintro e w' ⟨rfl, rfl⟩
          rw [show inB (atI l k) 0 4294967295 = true from hb]
          go_wp2
          go_roundw
          case rel => exact ⟨k + 1, by omega, by go_num, fun j hj => by by_cases h : j < k; exact hall j h; rw [show j = k by omega]; exact hb, R, RO, RB⟩
          case measure => simp [intOf]; omega
      · have e : k = 8 := by omega
        subst e
        cases hb : isW word
        · have hno : Hid (mixCode l word key = 3 ∧ mixList l word key = []) := E3.out (by simp [mixOk, hb])
          clear hs HR E3 E0
          go_wp2_with fail
          refine (l1Word_c _ _).mono ?_
          rintro e w' ⟨rfl, rfl⟩
          rw [show inB word 0 4294967295 = false from hb]
          go_wp2
          exact bodyPost_ret (v := .agg #[.int .i64 3, .slice none 0 0]) (by simp [results, Try.results25, go_sem, c0, c1]) rfl ⟨_, by rw [hno.out.1], by rw [hno.out.2]; exact OwnI_nil _ _, (hbel.setCell (Nat.le_refl _) _).setCell (Nat.le_refl _) _, fun _ => rfl⟩
        · cases hb2 : isW key
          · have hno : Hid (mixCode l word key = 3 ∧ mixList l word key = []) := E3.out (by simp [mixOk, hb, hb2])
            clear hs HR E3 E0
            go_wp2_with fail
            refine (l1Word_c _ _).mono ?_
            rintro e w' ⟨rfl, rfl⟩
            rw [show inB word 0 4294967295 = true from hb]
            go_wp2_with fail
            refine (l1Word_c _ _).mono ?_
            rintro e w' ⟨rfl, rfl⟩
            rw [show inB key 0 4294967295 = false from hb2]
            go_wp2
            exact bodyPost_ret (v := .agg #[.int .i64 3, .slice none 0 0]) (by simp [results, Try.results25, go_sem, c0, c1]) rfl ⟨_, by rw [hno.out.1], by rw [hno.out.2]; exact OwnI_nil _ _, (hbel.setCell (Nat.le_refl _) _).setCell (Nat.le_refl _) _, fun _ => rfl⟩
          · have hal := all_of_at (l := l) (fun j hj => hall j (by rw [← HL.out]; exact hj))
            have hyes : Hid (mixCode l word key = 0 ∧ mixList l word key = (roundN (s8 l) word.toNat key.toNat).list.map Int.ofNat) := E0.out (by simp [mixOk, hb, hb2, hal])
            rw [show partI l l.length 8 = l.map i64z by rw [← HL.out]; exact partI_all l] at hs
            clear HR E3 E0
            go_wp2_with fail
            refine (l1Word_c _ _).mono ?_
            rintro e w' ⟨rfl, rfl⟩
            rw [show inB word 0 4294967295 = true from hb]
            go_wp2_with fail
            refine (l1Word_c _ _).mono ?_
            rintro e w' ⟨rfl, rfl⟩
            rw [show inB key 0 4294967295 = true from hb2]
            obtain ⟨word, rfl, hww⟩ := isW_nat hb
            obtain ⟨key, rfl, hkk⟩ := isW_nat hb2
            have hsz : Hid ((Try.prog.info? 69).map (·.size) = some (l.map i64z).toArray.size) := by show _ = _; rw [info_s8]; simp [HL.out]
            have hok := s8_ok hal
            have HA := i64_of_l HL.out hal
            go_wp2_with (refine wpList_load_row rfl 69 (.tmp 7) rfl (w.heap.size + 1) rfl 69 _ (0, 0) _ hs Try.underlying69 rfl hsz.out ?_)
            refine (l2Round_s _ _ _ _ hok hww hkk).mono ?_
            rintro e w1 ⟨rfl, hb1⟩
            rw [Int.toNat_natCast, Int.toNat_natCast] at hyes
            have ho1 := ho.stay hb1
            have hB := Below.step hbel hb1
            have d0 := ho1.cell 0
            have d1 := ho1.cell 1
            have e0 := ho1.frozen
            have hlt := ho1.lt
            simp at d0 d1
            clear c0 c1 f0 ho hs hsz HA hok hbel hb1 hall hal
            generalize roundN (s8 l) word key = R at *
            simp only [S8.i64]
            have hrow := (Arr.new w1 (R.list.map i64v) 69).old _ (Obj.cells #[] 2)
            have hown0 := none_owned w1 (Obj.cells (R.list.map i64v).toArray 69) (w.heap.size + 1) 2 ho1.lt
            have ho2 := (ho1.old _ (Obj.cells (R.list.map i64v).toArray 69)).old _ (Obj.cells #[] 2)
            have hB2 := Below.mk (Below.mk hB (Obj.cells (R.list.map i64v).toArray 69)) (Obj.cells #[] 2)
            have hn1 : Hid (w.heap.size ≤ w1.heap.size) := hB.size
            clear d0 d1 e0 ho1 hB
            go_wp2_with (first
              | (at_builtin; go_loud (refine wpList_append_lies _ rfl (.tmp 45) (.tmp 46) 40 rfl (w.heap.size + 1) 2 i0 (.int .i64 0) 1 8 Try.underlying40 hi hz0 hz1 hz2 rfl (by decide) (.slice (some ⟨w1.heap.size + 1, 0, none⟩) 0 0) 0 [] rfl hown0 ⟨w1.heap.size, 0, none⟩ 8 8 (R.list.map i64v) rfl rfl hrow.cells (by intro u hu; obtain ⟨n, -, rfl⟩ := List.mem_map.1 hu; rfl) (by decide) (by unfold maxLen; decide) (by decide) (by simp; omega) (w1.heap.size + 2) (by simp) ?_; intro g cap2 w4 hown4 hgrow4 hat4 hlt4; have m := ho2.other hgrow4 (by simp [Value.ownBlock]; omega); have d0 := m.cell 0; have d1 := m.cell 1; have e0 := m.frozen; simp at d0 d1; clear hown0 hrow hat4 ho2))
              | go_in)
            have RB := hB2.grown hgrow4 hB2.size (fun k hk => by have := hn1.out; simp [Value.ownBlock] at hk; omega)
            refine bodyPost_ret (v := .agg #[.int .i64 0, .slice (some ⟨g, 0, none⟩) 8 cap2]) (by simp [results, Try.results25, go_sem, d0, d1]) rfl ⟨_, by rw [hyes.out.1], ?_, (RB.setCell (Nat.le_refl _) _).setCell (Nat.le_refl _) _, fun h => absurd hyes.out.1 h⟩
            rw [hyes.out.2]
            have h5 : OwnI w4 (w.heap.size + 1) (.slice (some ⟨g, 0, none⟩) 8 cap2) (R.list.map Int.ofNat) := hown4
            exact ((h5.set (Nat.lt_succ_self _) _).set (Nat.lt_succ_self _) _).lower (Nat.le_succ _)
  · have hno : mixCode l word key = 1 ∧ mixList l word key = [] := by simp [mixCode, mixList, h8]
    rw [hno.1, hno.2]
    have hne : (((l.length : Nat) : Int) != 8) = true := by rw [bne_iff_ne]; omega
    go_enter Try.func25, Try.ntmps25
    go_wp2
    exact bodyPost_ret (v := .agg #[.int .i64 1, .slice none 0 0]) (by simp [results, Try.results25, go_sem]) rfl ⟨_, rfl, OwnI_nil _ _, alloc_below _ _, fun _ => rfl⟩
theorem specMix_c (a : Option Addr) (cap : Nat) (l : List Int) (word key : Int) (w : World) (hr : RdI w a cap l) :
    Calls Try.prog 25 #[.slice a l.length cap, .int .i64 word, .int .i64 key] w fun e w' => ∃ u, e = .returned (.agg #[.int .i64 (mixCode l word key), u]) ∧ OwnI w' w.heap.size u (mixList l word key) ∧ Below w.heap.size w w' :=
  (specMix_s a cap l word key w hr).mono fun _ _ ⟨u, h1, h2, h3, _⟩ => ⟨u, h1, h2, h3⟩

def u32z (z : Int) : Value := .int .u32 z
theorem u32z_at {l : List Int} {i : Nat} (h : i < l.length) : (l.map u32z)[i]? = some (.int .u32 (atI l i)) := by simp [u32z, atI, h]
theorem u32_of_l {l : List Int} (h : l.length = 8) (ha : l.all isW = true) : (l.map u32z).toArray = (s8 l).u32 := by
  have e := fun i => Int.toNat_of_nonneg (isW_at ha i).1
  have e0 := e 0; have e1 := e 1; have e2 := e 2; have e3 := e 3; have e4 := e 4; have e5 := e 5; have e6 := e 6; have e7 := e 7
  unfold S8.u32 s8
  simp only [e0, e1, e2, e3, e4, e5, e6, e7]
  match l, h with
  | [a, b, c, d, e, f, g, q], _ => rfl

set_option maxHeartbeats 1000000 in
theorem allWords_c (a : Option Addr) (cap : Nat) (l : List Int) (w : World) (hr : RdI w a cap l) :
    Calls Try.prog 43 #[.slice a l.length cap] w fun e w' => e = .returned (.bool (l.all isW)) ∧ w' = w := by
  obtain ⟨h1, h2, h3, h4⟩ := hr
  unfold maxLen at h2
  go_enter Try.func43, Try.ntmps43
  go_wp2
  go_loop [7] (fun i => ∃ k : Nat, k ≤ l.length ∧ i = .int .i64 k ∧ (∀ j, j < k → isW (atI l j) = true))
    (fun i => l.length - (intOf i).toNat)
  case atStart => exact ⟨0, Nat.zero_le _, rfl, fun j hj => absurd hj (Nat.not_lt_zero _)⟩
  case round =>
    obtain ⟨k, hk, rfl, hall⟩ := hrel
    by_cases hlt : k < l.length
    · obtain ⟨b, o, rfl, hc⟩ := h4 (by omega)
      have hcx := hc k hlt
      clear hc h4
      cases hb : isW (atI l k)
      · have HN : Hid (l.all isW = false) := not_all_at hlt hb
        go_wp2_with fail
        refine (isWord_c _ _).mono ?_
        rintro e w' ⟨rfl, rfl⟩
        rw [show inB (atI l k) 0 4294967295 = false from hb]
        go_wp2
        go_ret
        exact ⟨by rw [HN.out]; rfl, rfl⟩
      · go_wp2_with fail
        refine (isWord_c _ _).mono ?_
        rintro e w' ⟨rfl, rfl⟩
        rw [show inB (atI l k) 0 4294967295 = true from hb]
        go_wp2
        go_round
        case rel => exact ⟨k + 1, by omega, by go_num, fun j hj => by by_cases h : j < k; exact hall j h; rw [show j = k by omega]; exact hb⟩
        case measure => simp [intOf]; omega
    · have e : k = l.length := by omega
      have HN : Hid (l.all isW = true) := all_of_at (by rw [← e]; exact hall)
      clear hall
      go_wp2
      go_ret
      exact ⟨by rw [HN.out]; rfl, rfl⟩

set_option maxHeartbeats 1000000 in
theorem numbersOf_c (b : Nat) (t : TypeId) (l : List Int) (w : World) (hA : Arr w b t (l.map u32z)) (hall : l.all isW = true) (hl : l.length ≤ 64) :
    Calls Try.prog 45 #[.slice (some ⟨b, 0, none⟩) l.length l.length] w fun e w' => ∃ v, e = .returned v ∧ OwnI w' w.heap.size v l ∧ Below w.heap.size w w' := by
  obtain ⟨i0, hi, hz0, hz1, hz2⟩ := info_parts info64
  have hm : l.length ≤ maxLen := by unfold maxLen; omega
  have HA : Hid (Arr w b t (l.map u32z)) := hA
  clear hA
  go_enter Try.func45, Try.ntmps45
  go_wp2_with (first
    | (at_make; refine wpList_make_full _ rfl (.tmp 7) (.tmp 7) 40 rfl w.heap.size 2 i0 (.int .i64 0) 1 Try.underlying40 hi hz0 hz1 .i64 .i64 _ _ l.length rfl rfl rfl rfl (by rw [hz2]; omega) hm (Nat.le_refl _) ?_; intro w1 hown hgrow)
    | go_in)
  rw [replicate_madeI, ← partI_zero l l.length] at hown
  have hb1 : Below w.heap.size w w1 := (Below.refl _ _).grown hgrow (Nat.le_refl _) (fun k hk => by simp at hk)
  clear hgrow hz0 hz1 hz2 hi
  go_loopw [11] (fun i wr => ∃ k : Nat, k ≤ l.length ∧ i = .int .i64 k ∧ wr.ownsRow w.heap.size 2 1 (.slice (some ⟨w.heap.size, 0, none⟩) l.length l.length) l.length (partI l l.length k) ∧ Below w.heap.size w wr)
    (fun i _ => l.length - (intOf i).toNat)
  case atStart => exact ⟨0, Nat.zero_le _, rfl, hown, hb1⟩
  case round =>
    obtain ⟨k, hk, rfl, hown, hbel⟩ := hrel
    by_cases hlt : k < l.length
    · have hcx : wr.cell? ⟨b, k, none⟩ = some (.int .u32 (atI l k)) := (hbel.cell (p := ⟨b, k, none⟩) HA.out.lt).trans ((HA.out.cell k).trans (u32z_at hlt))
      have hcy : wr.cell? ⟨w.heap.size, k, none⟩ = some (.int .i64 0) := by rw [World.ownsRow.cellAt hown k (by omega), partI_at l k hlt]
      have hfy : wr.frozen? ⟨w.heap.size, k, none⟩ = false := World.ownsRow.frozenAt hown k
      have R := World.ownsRow.stored hown k (.int .i64 (atI l k))
      rw [partI_set l k hlt] at R
      have RB : Below w.heap.size w (wr.setCell ⟨w.heap.size, k, none⟩ (.int .i64 (atI l k))) := hbel.setCell (Nat.le_refl _) _
      obtain ⟨h0, h1⟩ := isW_at hall k
      clear hown
      go_wp2
      go_roundw
      case rel => exact ⟨k + 1, by omega, by go_num, R.1, RB⟩
      case measure => simp [intOf]; omega
    · have e : k = l.length := by omega
      subst e
      rw [partI_all] at hown
      go_wp2
      go_ret
      exact ⟨_, rfl, hown, hbel⟩

theorem numbersOf_n (b n : Nat) (t : TypeId) (l : List Int) (w : World) (hn : l.length = n) (hA : Arr w b t (l.map u32z)) (hall : l.all isW = true) (hl : n ≤ 64) :
    Calls Try.prog 45 #[.slice (some ⟨b, 0, none⟩) n n] w fun e w' => ∃ v, e = .returned v ∧ OwnI w' w.heap.size v l ∧ Below w.heap.size w w' := by
  subst hn; exact numbersOf_c b t l w hA hall hl
theorem allW_nat {ws : List Nat} (h : Words ws) : (ws.map Int.ofNat).all isW = true := by
  rw [List.all_eq_true]
  intro x hx
  obtain ⟨n, hn, rfl⟩ := List.mem_map.1 hx
  have := h n hn
  simp [isW, inB]
  omega
theorem S8.words {s : S8} (h : s.ok) : Words s.list := by
  intro x hx
  simp only [S8.list, List.mem_cons, List.not_mem_nil, or_false] at hx
  obtain ⟨h1, h2, h3, h4, h5, h6, h7, h8⟩ := h
  rcases hx with rfl | rfl | rfl | rfl | rfl | rfl | rfl | rfl <;> assumption

theorem info_e8 : (Try.prog.info? 65).map (·.size) = some 8 := by kernel_rfl

set_option maxHeartbeats 1000000 in
theorem implMix_c (a : Option Addr) (cap : Nat) (l : List Int) (word key : Int) (w : World) (hr : RdI w a cap l) :
    Calls Try.prog 24 #[.slice a l.length cap, .int .i64 word, .int .i64 key] w fun e w' => ∃ u, e = .returned (.agg #[.int .i64 (mixCode l word key), u]) ∧ OwnI w' w.heap.size u (mixList l word key) ∧ Below w.heap.size w w' := by
  by_cases h8 : l.length = 8
  · have E3 : Hid (mixOk l word key = false → mixCode l word key = 3 ∧ mixList l word key = []) := fun h => by simp [mixCode, mixList, h8, h]
    have E0 : Hid (mixOk l word key = true → mixCode l word key = 0 ∧ mixList l word key = (roundN (s8 l) word.toNat key.toNat).list.map Int.ofNat) := fun h => by simp [mixCode, mixList, h8, h]
    have hne : (((l.length : Nat) : Int) != 8) = false := by simp [h8]
    have HL : Hid (l.length = 8) := h8
    clear h8
    cases hal : l.all isW
    · have hno : Hid (mixCode l word key = 3 ∧ mixList l word key = []) := E3.out (by simp [mixOk, hal])
      clear E3 E0
      go_enter Try.func24, Try.ntmps24
      go_wp2_with fail
      refine (allWords_c a cap l _ (hr.keep (alloc_below _ _))).mono ?_
      rintro e w' ⟨rfl, rfl⟩
      rw [hal]
      go_wp2
      exact bodyPost_ret (v := .agg #[.int .i64 3, .slice none 0 0]) (by simp [results, Try.results24, go_sem]) rfl ⟨_, by rw [hno.out.1], by rw [hno.out.2]; exact OwnI_nil _ _, alloc_below _ _⟩
    · cases hb : isW word
      · have hno : Hid (mixCode l word key = 3 ∧ mixList l word key = []) := E3.out (by simp [mixOk, hb])
        clear E3 E0
        go_enter Try.func24, Try.ntmps24
        go_wp2_with fail
        refine (allWords_c a cap l _ (hr.keep (alloc_below _ _))).mono ?_
        rintro e w' ⟨rfl, rfl⟩
        rw [hal]
        go_wp2_with fail
        refine (isWord_c _ _).mono ?_
        rintro e w' ⟨rfl, rfl⟩
        rw [show inB word 0 4294967295 = false from hb]
        go_wp2
        exact bodyPost_ret (v := .agg #[.int .i64 3, .slice none 0 0]) (by simp [results, Try.results24, go_sem]) rfl ⟨_, by rw [hno.out.1], by rw [hno.out.2]; exact OwnI_nil _ _, alloc_below _ _⟩
      · cases hb2 : isW key
        · have hno : Hid (mixCode l word key = 3 ∧ mixList l word key = []) := E3.out (by simp [mixOk, hb, hb2])
          clear E3 E0
          go_enter Try.func24, Try.ntmps24
          go_wp2_with fail
          refine (allWords_c a cap l _ (hr.keep (alloc_below _ _))).mono ?_
          rintro e w' ⟨rfl, rfl⟩
          rw [hal]
          go_wp2_with fail
          refine (isWord_c _ _).mono ?_
          rintro e w' ⟨rfl, rfl⟩
          rw [show inB word 0 4294967295 = true from hb]
          go_wp2_with fail
          refine (isWord_c _ _).mono ?_
          rintro e w' ⟨rfl, rfl⟩
          rw [show inB key 0 4294967295 = false from hb2]
          go_wp2
          exact bodyPost_ret (v := .agg #[.int .i64 3, .slice none 0 0]) (by simp [results, Try.results24, go_sem]) rfl ⟨_, by rw [hno.out.1], by rw [hno.out.2]; exact OwnI_nil _ _, alloc_below _ _⟩
        · have hyes : Hid (mixCode l word key = 0 ∧ mixList l word key = (roundN (s8 l) word.toNat key.toNat).list.map Int.ofNat) := E0.out (by simp [mixOk, hb, hb2, hal])
          have hW : 0 ≤ word ∧ word ≤ 4294967295 := by simpa [isW, inB] using hb
          have hK : 0 ≤ key ∧ key ≤ 4294967295 := by simpa [isW, inB] using hb2
          have HR : Hid (RdI w a cap l) := hr
          clear E3 E0
          go_enter Try.func24, Try.ntmps24
          go_wp2_with fail
          refine (allWords_c a cap l _ (hr.keep (alloc_below _ _))).mono ?_
          rintro e w' ⟨rfl, hw1⟩
          subst hw1
          rw [hal]
          go_wp2_with fail
          refine (isWord_c _ _).mono ?_
          rintro e w' ⟨rfl, hw1⟩
          subst hw1
          rw [show inB word 0 4294967295 = true from hb]
          go_wp2_with fail
          refine (isWord_c _ _).mono ?_
          rintro e w' ⟨rfl, hw1⟩
          subst hw1
          rw [show inB key 0 4294967295 = true from hb2]
          clear hr hb hb2
          go_wp2
          go_loopw [31] (fun i wr => ∃ k : Nat, k ≤ 8 ∧ i = .int .i64 k ∧ Arr wr (w.heap.size + 1) 65 (partV (l.map u32z) (.int .u32 0) k) ∧ Arr wr w.heap.size 44 [.int .i64 0, .slice none 0 0] ∧ Below w.heap.size w wr)
            (fun i _ => 8 - (intOf i).toNat)
          case atStart => exact ⟨0, Nat.zero_le _, rfl, by rw [partV_zero, List.length_map, HL.out, ← size_alloc w]; exact Arr.new _ _ _, (Arr.new w [.int .i64 0, .slice none 0 0] _).old _ _, Below.mk (alloc_below _ _) _⟩
          case round =>
            obtain ⟨k, hk, rfl, hs, ho, hbel⟩ := hrel
            by_cases hlt : k < 8
            · have hll : k < l.length := by rw [HL.out]; exact hlt
              have hcx : wr.cell? ⟨w.heap.size + 1, k, none⟩ = some (.int .u32 0) := by rw [hs.cell, partV_at _ _ k (by simp; exact hll)]
              have hfx := hs.frozen k
              obtain ⟨b, o, ea, hc⟩ := HR.out.2.2.2 (by omega)
              have hcy : wr.cell? ⟨b, o + k, none⟩ = some (.int .i64 (atI l k)) := (hbel.cell (World.block_lt_of_cell? w _ (hc k hll))).trans (hc k hll)
              subst ea
              have hlc : (k : Int) < (l.length : Int) := by omega
              obtain ⟨h0, h1⟩ := isW_at hal k
              have R := hs.set k (.int .u32 (atI l k))
              rw [partV_set _ (u32z_at hll)] at R
              have RO := ho.setOther (a := ⟨w.heap.size + 1, k, none⟩) (by show w.heap.size ≠ w.heap.size + 1; omega) (.int .u32 (atI l k))
              have RB := Below.setCell (p := ⟨w.heap.size + 1, k, none⟩) hbel (Nat.le_succ _) (.int .u32 (atI l k))
              clear hc hs HR ho hal
              generalize atI l k = v at *
              go_wp2
              go_roundw
              case rel => exact ⟨k + 1, by omega, by go_num, R, RO, RB⟩
              case measure => simp [intOf]; omega
            · have e : k = 8 := by omega
              subst e
              have hge : ¬ ((8 : Int) < (l.length : Int)) := by have := HL.out; omega
              rw [show partV (l.map u32z) (.int .u32 0) 8 = l.map u32z by rw [← HL.out]; have := partV_all (l.map u32z) (.int .u32 0); rw [List.length_map] at this; exact this] at hs
              have hsz : Hid ((Try.prog.info? 65).map (·.size) = some (l.map u32z).toArray.size) := by show _ = _; rw [info_e8]; simp [HL.out]
              have hok := s8_ok hal
              have HA := u32_of_l HL.out hal
              clear HR
              go_wp2_with (refine wpList_load_row rfl 65 (.tmp 7) rfl (w.heap.size + 1) rfl 65 _ (0, 0) _ hs Try.underlying65 rfl hsz.out ?_)
              obtain ⟨word, rfl⟩ := Int.eq_ofNat_of_zero_le hW.1
              obtain ⟨key, rfl⟩ := Int.eq_ofNat_of_zero_le hK.1
              refine (mixed_s _ _ _ _ hok).mono ?_
              rintro e w1 ⟨rfl, hb1⟩
              rw [Int.toNat_natCast, Int.toNat_natCast] at hyes
              have hRok := roundN_ok (word := word) (key := key) hok
              have ho1 := ho.stay hb1
              have hB := Below.step hbel hb1
              clear ho hs hsz HA hok hbel hb1 hal
              generalize roundN (s8 l) word key = R at *
              simp only [S8.u32]
              have hrow := Arr.new w1 ((R.list.map Int.ofNat).map u32z) 65
              have ho2 := ho1.old _ (Obj.cells ((R.list.map Int.ofNat).map u32z).toArray 65)
              have hB2 := Below.mk hB (Obj.cells ((R.list.map Int.ofNat).map u32z).toArray 65)
              clear ho1
              go_wp2_with fail
              refine (numbersOf_n w1.heap.size 8 65 (R.list.map Int.ofNat) _ rfl hrow (allW_nat (S8.words hRok)) (by decide)).mono ?_
              rintro e w2 ⟨u, rfl, hown, hb2⟩
              obtain ⟨p, q, rfl, -⟩ := hown.rd
              have m := ho2.stay hb2
              have d0 := m.cell 0
              have d1 := m.cell 1
              have e0 := m.frozen
              simp at d0 d1
              have RB := Below.step hB2 hb2
              have hge := ho2.lt
              clear ho2 hrow hb2 hB2 hRok
              go_wp2
              refine bodyPost_ret (v := .agg #[.int .i64 0, .slice p (R.list.map Int.ofNat).length q]) (by simp [results, Try.results24, go_sem, d0, d1]) rfl ⟨_, by rw [hyes.out.1], ?_, (RB.setCell (Nat.le_refl _) _).setCell (Nat.le_refl _) _⟩
              rw [hyes.out.2]
              exact ((hown.set hge _).set hge _).lower (Nat.le_of_lt hge)
  · have hno : mixCode l word key = 1 ∧ mixList l word key = [] := by simp [mixCode, mixList, h8]
    rw [hno.1, hno.2]
    have hne : (((l.length : Nat) : Int) != 8) = true := by rw [bne_iff_ne]; omega
    go_enter Try.func24, Try.ntmps24
    go_wp2
    exact bodyPost_ret (v := .agg #[.int .i64 1, .slice none 0 0]) (by simp [results, Try.results24, go_sem]) rfl ⟨_, rfl, OwnI_nil _ _, alloc_below _ _⟩
end Go.Proofs.Ytbgiaoipdadanaa
