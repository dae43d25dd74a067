/- The contracts of sealing in the specification: spec.l5Tag, spec.l5Seal, spec.l5Open, spec.l5Fault, and TagOf, SealBytes, OpenBytes at every argument. What was there stays. -/
import Derived.Test.YtdbpnibcblelbaaGreatDoorJoint3
import Derived.Test.YtdbpnibcblelbaaGreatDoorJoint15
import Derived.Test.YtdbpnibcblelbaaGreatDoorJoint30
import Derived.Test.YtdbpnibcblelbaaGreatDoorJoint12
import Derived.Test.YtdbpnibcblelbaaGreatDoorJoint8
import Derived.Test.YtdbpnibcblelbaaGreatDoorOdd
import Derived.Test.YtdbpnibcblelbaaGreatDoorKeyI
import Derived.Test.YtdbpnibcblelbaaGreatDoorStrI
import Derived.Test.YtdbpnibcblelbaaGreatDoorJoint6
import Derived.Test.YtdbpnibcblelbaaGreatDoorJoint9
namespace Go.Proofs.YtdbpnibcblelbaaGreatDoor
open Go.ChangeShapes Go.WideShapes Go.ChangeAt Go.RowKit
def sealC (key nonce extra : List UInt8) : Int := if strC key nonce 0 = 0 then (if extra.length ≤ 60 then 0 else 2) else 1
theorem sealC_zero {key nonce extra : List UInt8} (h : sealC key nonce extra = 0) : key.length = 32 ∧ nonce.length = 12 ∧ extra.length ≤ 60 ∧ strC key nonce 0 = 0 := by
  unfold sealC at h
  split at h
  · rename_i h1
    split at h
    · rename_i h2
      exact ⟨(strC_zero h1).1, (strC_zero h1).2.1, h2, h1⟩
    · cases h
  · cases h
end Go.Proofs.YtdbpnibcblelbaaGreatDoor
/- The contracts of chapter 5's functions in the specification, at every argument: TagOf, SealBytes, OpenBytes: code and bytes. -/
namespace Go.Proofs.YtdbpnibcblelbaaGreatDoor
open Go.ChangeShapes Go.WideShapes Go.ChangeAt Go.RowKit
def tgC (key nonce extra sealed : List UInt8) : Int := if sealC key nonce extra = 0 then (if sealed.length ≤ 220 then 0 else 2) else sealC key nonce extra
def slL (key nonce extra plain : List UInt8) : List UInt8 := if tgC key nonce extra plain = 0 then sealN key nonce extra plain else []
def opC (key nonce extra sealed : List UInt8) : Int := if sealC key nonce extra = 0 then openC key nonce extra sealed else sealC key nonce extra
def opL (key nonce extra sealed : List UInt8) : List UInt8 := if opC key nonce extra sealed = 0 then openL key nonce extra sealed else []
theorem tgC_zero {key nonce extra sealed : List UInt8} (h : tgC key nonce extra sealed = 0) : sealC key nonce extra = 0 ∧ sealed.length ≤ 220 := by
  unfold tgC at h
  split at h
  · rename_i h1
    split at h
    · rename_i h2
      exact ⟨h1, h2⟩
    · cases h
  · rename_i h1
    exact absurd h h1
theorem opC_zero {key nonce extra sealed : List UInt8} (h : opC key nonce extra sealed = 0) : sealC key nonce extra = 0 ∧ openC key nonce extra sealed = 0 := by
  unfold opC at h
  split at h
  · rename_i h1
    exact ⟨h1, h⟩
  · rename_i h1
    exact absurd h h1
end Go.Proofs.YtdbpnibcblelbaaGreatDoor
/- The contracts of chapter 5's functions in the program, at every argument: TagOf, SealBytes, OpenBytes: code and bytes, where the two tables hold what the program's text lays (Tabs) and, for OpenBytes, the library's variable holds its handle (Hnd). What was there stays. -/
namespace Go.Proofs.YtdbpnibcblelbaaGreatDoor
open Go.ChangeShapes Go.WideShapes Go.ChangeAt Go.RowKit
theorem sealC_kn (key nonce extra : List UInt8) : sealC key nonce extra = if kn key nonce = true then (if extra.length ≤ 60 then 0 else 2) else 1 := by
  have h : (strC key nonce 0 = 0) ↔ (kn key nonce = true) := by
    unfold strC kn
    by_cases h1 : key.length = 32
    · by_cases h2 : nonce.length = 12
      · simp [h1, h2, inB]
      · simp [h1, h2]
    · simp [h1]
  unfold sealC
  by_cases hk : kn key nonce = true
  · rw [if_pos (h.2 hk), if_pos hk]
  · rw [if_neg (fun e => hk (h.1 e)), if_neg hk]
set_option maxRecDepth 4000 in
set_option maxHeartbeats 400000 in
theorem sealFault_c (p p2 p3 : Option Addr) (q q2 q3 : Nat) (key nonce extra : List UInt8) (w : World) :
    Calls Tryz.prog 224 #[.slice p key.length q, .slice p2 nonce.length q2, .slice p3 extra.length q3] w fun e w' => e = .returned (.int .i64 (sealC key nonce extra)) ∧ w' = w := by
  have K := isKeyAndNonce_c p p2 q q2 key nonce
  rw [sealC_kn]
  cases hk : kn key nonce
  · rw [hk] at K
    go_enter Tryz.func224, Tryz.ntmps224
    go_wp2_with fail
    refine (K _).mono ?_
    rintro e w' ⟨rfl, hw⟩
    subst hw
    go_wp2
    go_ret
    exact ⟨rfl, rfl⟩
  · rw [hk] at K
    by_cases he : extra.length ≤ 60
    · rw [if_pos rfl, if_pos he]
      go_enter Tryz.func224, Tryz.ntmps224
      go_wp2_with fail
      refine (K _).mono ?_
      rintro e w' ⟨rfl, hw⟩
      subst hw
      go_wp2
      go_ret
      exact ⟨rfl, rfl⟩
    · rw [if_pos rfl, if_neg he]
      go_enter Tryz.func224, Tryz.ntmps224
      go_wp2_with fail
      refine (K _).mono ?_
      rintro e w' ⟨rfl, hw⟩
      subst hw
      go_wp2
      go_ret
      exact ⟨rfl, rfl⟩
set_option maxRecDepth 4000 in
set_option maxHeartbeats 400000 in
theorem contentFault_c (p p2 p3 p4 : Option Addr) (q q2 q3 q4 : Nat) (key nonce extra data : List UInt8) (w : World) :
    Calls Tryz.prog 176 #[.slice p key.length q, .slice p2 nonce.length q2, .slice p3 extra.length q3, .slice p4 data.length q4] w fun e w' => e = .returned (.int .i64 (tgC key nonce extra data)) ∧ w' = w := by
  have K0 := sealFault_c p p2 p3 q q2 q3 key nonce extra
  by_cases hc : sealC key nonce extra = 0
  · rw [hc] at K0
    by_cases hd : data.length ≤ 220
    · rw [show tgC key nonce extra data = 0 by simp [tgC, hc, hd]]
      clear hc
      go_enter Tryz.func176, Tryz.ntmps176
      go_wp2_with fail
      refine (K0 _).mono ?_
      rintro e w' ⟨rfl, hw⟩
      subst hw
      go_wp2
      go_ret
      exact ⟨rfl, rfl⟩
    · rw [show tgC key nonce extra data = 2 by simp [tgC, hc, hd]]
      clear hc
      go_enter Tryz.func176, Tryz.ntmps176
      go_wp2_with fail
      refine (K0 _).mono ?_
      rintro e w' ⟨rfl, hw⟩
      subst hw
      go_wp2
      go_ret
      exact ⟨rfl, rfl⟩
  · rw [show tgC key nonce extra data = sealC key nonce extra by simp [tgC, hc]]
    have K1 : Hid (∀ w, Calls Tryz.prog 224 #[.slice p key.length q, .slice p2 nonce.length q2, .slice p3 extra.length q3] w fun e w' => e = .returned (.int .i64 (sealC key nonce extra)) ∧ w' = w) := K0
    clear K0
    generalize sealC key nonce extra = c at *
    have cz1 : (c == 0) = false := by rw [beq_eq_false_iff_ne]; exact hc
    clear hc
    go_enter Tryz.func176, Tryz.ntmps176
    go_wp2_with fail
    refine (K1.out _).mono ?_
    rintro e w' ⟨rfl, hw⟩
    subst hw
    go_wp2
    go_ret
    exact ⟨rfl, rfl⟩
def ofC (key nonce extra data : List UInt8) : Int := if sealC key nonce extra = 0 then (if data.length < 16 then 5 else (if 220 < data.length - 16 then 2 else 0)) else sealC key nonce extra
set_option maxRecDepth 4000 in
set_option maxHeartbeats 400000 in
theorem openFault_c (p p2 p3 p4 : Option Addr) (q q2 q3 q4 : Nat) (key nonce extra data : List UInt8) (w : World) (hl : data.length ≤ maxLen) :
    Calls Tryz.prog 179 #[.slice p key.length q, .slice p2 nonce.length q2, .slice p3 extra.length q3, .slice p4 data.length q4] w fun e w' => e = .returned (.int .i64 (ofC key nonce extra data)) ∧ w' = w := by
  have K0 := sealFault_c p p2 p3 q q2 q3 key nonce extra
  have hl2 : data.length ≤ 9223372036854775807 := by unfold maxLen at hl; omega
  clear hl
  by_cases hc : sealC key nonce extra = 0
  · rw [hc] at K0
    by_cases h1 : data.length < 16
    · rw [show ofC key nonce extra data = 5 by simp [ofC, hc, h1]]
      clear hc
      go_enter Tryz.func179, Tryz.ntmps179
      go_wp2_with fail
      refine (K0 _).mono ?_
      rintro e w' ⟨rfl, hw⟩
      subst hw
      go_wp2
      go_ret
      exact ⟨rfl, rfl⟩
    · by_cases h2 : 220 < data.length - 16
      · rw [show ofC key nonce extra data = 2 by simp [ofC, hc, h1, h2]]
        have h3 : (220 : Int) < (data.length : Int) - 16 := by omega
        clear hc h2
        go_enter Tryz.func179, Tryz.ntmps179
        go_wp2_with fail
        refine (K0 _).mono ?_
        rintro e w' ⟨rfl, hw⟩
        subst hw
        go_wp2
        go_ret
        exact ⟨rfl, rfl⟩
      · rw [show ofC key nonce extra data = 0 by simp [ofC, hc, h1, h2]]
        have h3 : ¬ (220 : Int) < (data.length : Int) - 16 := by omega
        clear hc h2
        go_enter Tryz.func179, Tryz.ntmps179
        go_wp2_with fail
        refine (K0 _).mono ?_
        rintro e w' ⟨rfl, hw⟩
        subst hw
        go_wp2
        go_ret
        exact ⟨rfl, rfl⟩
  · rw [show ofC key nonce extra data = sealC key nonce extra by simp [ofC, hc]]
    have K1 : Hid (∀ w, Calls Tryz.prog 224 #[.slice p key.length q, .slice p2 nonce.length q2, .slice p3 extra.length q3] w fun e w' => e = .returned (.int .i64 (sealC key nonce extra)) ∧ w' = w) := K0
    clear K0
    generalize sealC key nonce extra = c at *
    have cz1 : (c != 0) = true := by rw [bne_iff_ne]; exact hc
    clear hc
    go_enter Tryz.func179, Tryz.ntmps179
    go_wp2_with fail
    refine (K1.out _).mono ?_
    rintro e w' ⟨rfl, hw⟩
    subst hw
    go_wp2
    go_ret
    exact ⟨rfl, rfl⟩
theorem info_tag : (Tryz.prog.info? 211).map (fun i => (i.zero, i.size)) = some (some (.agg (List.replicate 16 (Value.int .u8 0)).toArray), 16) := by kernel_rfl
def z8 : List Value := List.replicate 16 (.int .u8 0)
theorem z8_eq : z8 = (zs 16).map u8v := by simp [z8, zs, u8v]
theorem zs16_len : ((zs 16).map u8v).length = 16 := by simp [zs]
theorem szT (bs : List UInt8) (h : bs.length = 16) : (Tryz.prog.info? 211).map (·.size) = some (bs.map u8v).toArray.size := by rw [(zero_of_info info_tag).2]; simp [h]
theorem cells8 (s : List UInt8) : (s.map u8v).toArray.all (·.oneCell') = true := by simp [u8v]; intros; rfl
theorem splice_take (ms : List UInt8) (h : 16 ≤ ms.length) : splice ((zs 16).map u8v) 0 ((ms.take 16).map u8v) = (ms.take 16).map u8v := by
  have hl : ((ms.take 16).map u8v).length = 16 := by simp; omega
  unfold splice
  rw [hl]
  simp [zs]
set_option maxRecDepth 4000 in
set_option maxHeartbeats 1000000 in
theorem tagOver_c (p p2 p3 p4 : Option Addr) (q q2 q3 q4 : Nat) (key nonce extra data : List UInt8) (w : World) (hr : Rd w p q key) (hr2 : Rd w p2 q2 nonce) (hr3 : Rd w p3 q3 extra) (hr4 : Rd w p4 q4 data) (hT : Tabs w) (hk : key.length ≤ 64) (hn : nonce.length ≤ 12) (he : extra.length ≤ 60) (hd : data.length ≤ 220) :
    Calls Tryz.prog 178 #[.slice p key.length q, .slice p2 nonce.length q2, .slice p3 extra.length q3, .slice p4 data.length q4] w fun e w' => e = .returned (.agg ((tagN key nonce extra data).map u8v).toArray) ∧ Below w.heap.size w w' := by
  have hzv : Hid (∀ w, (zeroValue 211).run Tryz.prog w = .ok (.agg z8.toArray) w) := (zero_of_info info_tag).1
  have HI : Hid ((Tryz.prog.info? 5).map (·.size) = some 1) := by obtain ⟨i0, hi, hz0, hz1, hz2⟩ := info_parts info8; show _ = _; rw [hi]; simp [hz1]
  have HR : Hid (Rd w p q key) := hr
  have HR2 : Hid (Rd w p2 q2 nonce) := hr2
  have HR3 : Hid (Rd w p3 q3 extra) := hr3
  have HR4 : Hid (Rd w p4 q4 data) := hr4
  have HT : Hid (Tabs w) := hT
  have HLK : Hid (key.length ≤ 64) := hk
  obtain ⟨ms, HMS⟩ := known_of (macN key (nonce ++ [UInt8.ofNat extra.length] ++ extra ++ data))
  have HML : Hid (ms.length = 32) := by show _ = _; rw [HMS.eq, macN_len]
  have HTG : Known (tagN key nonce extra data) (ms.take 16) := ⟨by rw [HMS.eq]; rfl⟩
  have HLL : Hid (nonce.length + 1 + extra.length + data.length ≤ 536) := by show _ ≤ _; omega
  have HEX : Hid (extra.length < 256) := by show _ < _; omega
  have hex : (extra.length : Int) % 256 = (extra.length : Int) := by omega
  clear hr hr2 hr3 hr4 hT hk hn hd
  go_enter Tryz.func178, Tryz.ntmps178
  go_wp2_with (first
    | refine wpList_alloc_arr rfl 211 rfl _ hzv.out w.heap.size rfl ?_
    | refine wpList_alloc_arr rfl 211 rfl _ hzv.out (w.heap.size + 1) (size_alloc _ _) ?_)
  have BW : Below w.heap.size w ((w.alloc (.cells z8.toArray 211)).alloc (.cells z8.toArray 211)) := Below.mk (alloc_below _ _) _
  have R : Arr ((w.alloc (.cells z8.toArray 211)).alloc (.cells z8.toArray 211)) w.heap.size 211 z8 := (Arr.new w z8 211).old _ _
  have O : Arr ((w.alloc (.cells z8.toArray 211)).alloc (.cells z8.toArray 211)) (w.heap.size + 1) 211 z8 := by
    have h := Arr.new (w.alloc (.cells z8.toArray 211)) z8 211
    rw [size_alloc] at h
    exact h
  generalize (w.alloc (.cells z8.toArray 211)).alloc (.cells z8.toArray 211) = W at *
  have hne := HW.some W
  go_simp
  refine wp_region_pick [0, 1, 2, 3, 4, 5, 7, 8] 11 3 1 rfl rfl rfl (by kernel_rfl) (by kernel_rfl) (by kernel_rfl) (by kernel_rfl) ?_
  simp only [opsAt, List.getElem?_toArray, List.getElem?_cons_zero, List.getElem?_cons_succ]
  repeat (go_big_quiet_step (fail))
  refine wpQuiet_nil ?_
  refine wpM_only (i := 6) (by kernel_rfl) ?_
  refine mOp_make rfl (by go_simp) ?_
  rintro V1 hV1
  have B1 := HW.out hV1
  replace R := R.stay B1
  replace O := O.stay B1
  replace BW := Below.step BW B1
  have R1 := rd_one V1 (UInt8.ofNat extra.length) 5 (extra.length : Int) (by rw [UInt8.toNat_ofNat', Nat.mod_eq_of_lt HEX.out])
  refine ⟨.slice (some ⟨V1.heap.size, 0, none⟩) 1 1, V1.alloc (.cells #[.int .u8 (extra.length : Int)] 5), by go_simp, ⟨⟨_, alloc_below _ _⟩, rfl⟩, ?_⟩
  replace R := R.old _ (.cells #[.int .u8 (extra.length : Int)] 5)
  replace O := O.old _ (.cells #[.int .u8 (extra.length : Int)] 5)
  replace BW := Below.mk BW (.cells #[.int .u8 (extra.length : Int)] 5)
  generalize V1.alloc (.cells #[.int .u8 (extra.length : Int)] 5) = V2 at *
  generalize V1.heap.size = g1 at *
  clear B1 hV1
  refine wpM_only (i := 9) (by kernel_rfl) ?_
  refine mOp_make rfl (by go_simp) ?_
  rintro V3 hV3
  have B3 := HW.out hV3
  replace R := R.stay B3
  replace O := O.stay B3
  replace BW := Below.step BW B3
  replace R1 := R1.keep B3
  have hps := pcs_four V3 ⟨p2, q2, nonce⟩ ⟨some ⟨g1, 0, none⟩, 1, [UInt8.ofNat extra.length]⟩ ⟨p3, q3, extra⟩ ⟨p4, q4, data⟩ 22 (HR2.out.keep BW) R1 (HR3.out.keep BW) (HR4.out.keep BW)
  refine ⟨.slice (some ⟨V3.heap.size, 0, none⟩) 4 4, V3.alloc (.cells #[.slice p2 nonce.length q2, .slice (some ⟨g1, 0, none⟩) 1 1, .slice p3 extra.length q3, .slice p4 data.length q4] 22), by go_simp, ⟨⟨_, alloc_below _ _⟩, rfl⟩, ?_⟩
  replace R := R.old _ (.cells #[.slice p2 nonce.length q2, .slice (some ⟨g1, 0, none⟩) 1 1, .slice p3 extra.length q3, .slice p4 data.length q4] 22)
  replace O := O.old _ (.cells #[.slice p2 nonce.length q2, .slice (some ⟨g1, 0, none⟩) 1 1, .slice p3 extra.length q3, .slice p4 data.length q4] 22)
  replace BW := Below.mk BW (.cells #[.slice p2 nonce.length q2, .slice (some ⟨g1, 0, none⟩) 1 1, .slice p3 extra.length q3, .slice p4 data.length q4] 22)
  replace hps : Pcs (V3.alloc (.cells #[.slice p2 nonce.length q2, .slice (some ⟨g1, 0, none⟩) 1 1, .slice p3 extra.length q3, .slice p4 data.length q4] 22)) V3.heap.size 0 [⟨p2, q2, nonce⟩, ⟨some ⟨g1, 0, none⟩, 1, [UInt8.ofNat extra.length]⟩, ⟨p3, q3, extra⟩, ⟨p4, q4, data⟩] := hps
  generalize V3.alloc (.cells #[.slice p2 nonce.length q2, .slice (some ⟨g1, 0, none⟩) 1 1, .slice p3 extra.length q3, .slice p4 data.length q4] 22) = V4 at *
  generalize V3.heap.size = g3 at *
  clear B3 hV3 R1
  refine wpM_only (i := 10) (by kernel_rfl) ?_
  refine mOp_call rfl (by go_simp) 192 _ #[.slice p key.length q, .slice (some ⟨g3, 0, none⟩) 4 4] (fun w => by go_simp) rfl ?_
  rintro V5 hV5
  have B5 := HW.out hV5
  replace R := R.stay B5
  replace O := O.stay B5
  replace BW := Below.step BW B5
  have K := macOver_c p q key [⟨p2, q2, nonce⟩, ⟨some ⟨g1, 0, none⟩, 1, [UInt8.ofNat extra.length]⟩, ⟨p3, q3, extra⟩, ⟨p4, q4, data⟩] g3 0 4 V5 (HR.out.keep BW) (hps.keep B5) (HT.out.keep BW) HLK.out (by rw [flat_four]; have := HLL.out; simp; omega) (by simp)
  rw [flat_four, ← HMS.eq] at K
  refine K.mono ?_
  rintro e V6 ⟨u, rfl, k, hb⟩
  obtain ⟨a6, c6, rfl, rd6⟩ := k.rd
  refine ⟨_, rfl, ⟨⟨_, hb⟩, rfl⟩, ?_⟩
  replace R := R.stay hb
  replace O := O.stay hb
  replace BW := Below.step BW hb
  rw [HML.out]
  clear K k hb B5 hV5 hps
  refine wpM_end (by kernel_rfl) rfl (by kernel_rfl) (by decide) ?_
  rintro V7 hV7
  have B7 := HW.out hV7
  replace R := R.stay B7
  replace O := O.stay B7
  replace BW := Below.step BW B7
  replace rd6 := rd6.keep B7
  clear B7 hV7
  simp only [List.drop_succ_cons, List.drop_zero]
  rw [z8_eq] at O
  have HCL : Hid ((ms.take 16).length = 16) := by show _ = _; have := HML.out; simp; omega
  have HON : Hid (∀ v ∈ (ms.take 16).map u8v, v.oneCell' = true) := fun v hv => by obtain ⟨x, -, rfl⟩ := List.mem_map.1 hv; rfl
  have HAD : Hid (∃ ad, a6 = some ad ∧ ∀ j v, ((ms.take 16).map u8v)[j]? = some v → V7.cell? (ad.add j) = some v) := rd6.addr_take 16 (by rw [HML.out]; decide)
  refine wpList_copy_over rfl (.tmp 10) (.tmp 20) 22 22 rfl 5 Tryz.underlying22 HI.out (some ⟨w.heap.size + 1, 0, none⟩) a6 16 16 32 c6 rfl rfl (w.heap.size + 1) 0 _ 211 O ((ms.take 16).map u8v) (by rw [List.length_map, HCL.out]; decide) (fun _ => ⟨rfl, HAD.out⟩) (by rw [List.length_map, HCL.out, zs16_len]; decide) HON.out ?_
  intro V8 hO8 hg8
  rw [splice_take ms (by have := HML.out; omega)] at hO8
  replace R := R.other hg8 (by simp)
  replace BW := BW.grown hg8 BW.size (fun k hk => by simp at hk; omega)
  obtain ⟨ts, HTS⟩ := known_of (ms.take 16)
  rw [← HTS.eq] at HCL hO8 HTG
  have S := hO8.out
  have hzn := szT ts HCL.out
  have hzs : Hid (z8.toArray.size = (ts.map u8v).toArray.size) := by show _ = _; simp [HCL.out, z8]
  clear HAD HON hg8 hO8 O rd6
  go_simp
  go_wp2_with (first
    | refine wpList_load_row rfl 211 (.tmp 9) rfl (w.heap.size + 1) rfl 211 _ (0, 0) _ S Tryz.underlying211 rfl hzn ?_
    | refine wpList_store_row rfl 211 (.tmp 8) (.tmp 22) rfl w.heap.size (ts.map u8v).toArray rfl rfl 211 z8.toArray R hzn hzs.out (cells8 ts) ?_)
  exact bodyPost_ret (v := .agg (ts.map u8v).toArray) (results_cell_row Tryz.results178 _ _ w.heap.size 211 _ (0, 0) _ rfl (R.row _) Tryz.underlying211 rfl hzn) rfl ⟨by rw [HTG.eq], Below.row BW (Nat.le_refl _) _⟩
set_option maxRecDepth 4000 in
set_option maxHeartbeats 1000000 in
theorem implSl_c (p p2 p3 p4 : Option Addr) (q q2 q3 q4 : Nat) (key nonce extra data : List UInt8) (w : World) (hr : Rd w p q key) (hr2 : Rd w p2 q2 nonce) (hr3 : Rd w p3 q3 extra) (hr4 : Rd w p4 q4 data) (hT : Tabs w) :
    Calls Tryz.prog 113 #[.slice p key.length q, .slice p2 nonce.length q2, .slice p3 extra.length q3, .slice p4 data.length q4] w fun e w' => ∃ u, e = .returned (.agg #[.int .i64 (tgC key nonce extra data), u]) ∧ Own w' w.heap.size u (slL key nonce extra data) ∧ Below w.heap.size w w' := by
  have hzv : Hid (∀ w, (zeroValue 211).run Tryz.prog w = .ok (.agg z8.toArray) w) := (zero_of_info info_tag).1
  have K0 := contentFault_c p p2 p3 p4 q q2 q3 q4 key nonce extra data
  by_cases hc : tgC key nonce extra data = 0
  · rw [hc] at K0
    obtain ⟨hc1, hd⟩ := tgC_zero hc
    obtain ⟨h1, h2, h3, -⟩ := sealC_zero hc1
    rw [show slL key nonce extra data = sealN key nonce extra data by simp [slL, hc], hc]
    obtain ⟨hs, HHS⟩ := known_of (hideN key nonce data)
    obtain ⟨tg, HTG⟩ := known_of (tagN key nonce extra hs)
    have HSN : Known (sealN key nonce extra data) (hs ++ tg) := ⟨by rw [HTG.eq, HHS.eq]; rfl⟩
    have HHL : Hid (hs.length = data.length) := by show _ = _; rw [HHS.eq, hideN_len]
    have HTL : Hid (tg.length = 16) := by show _ = _; rw [HTG.eq, tagN_len]
    have HDL : Hid (data.length ≤ 220) := hd
    have KH : Hid (∀ w, Rd w p q key → Rd w p2 q2 nonce → Rd w p4 q4 data → Calls Tryz.prog 177 #[.slice p key.length q, .slice p2 nonce.length q2, .slice p4 data.length q4] w fun e w' => ∃ a c, e = .returned (.slice a hs.length c) ∧ Rd w' a c hs ∧ Below w.heap.size w w') := fun w a b c => by
      have g := hidden_c p p2 p4 q q2 q4 key nonce data w a b c h1 h2 (by omega)
      rw [h1, h2]
      refine g.mono ?_
      rintro e w1 ⟨u, rfl, k, hb⟩
      rw [← HHS.eq] at k
      obtain ⟨a, c, rfl, rd⟩ := k.rd
      exact ⟨a, c, rfl, rd, hb⟩
    have K : Hid (∀ w a6 c6, Rd w p q key → Rd w p2 q2 nonce → Rd w p3 q3 extra → Rd w a6 c6 hs → Tabs w → Calls Tryz.prog 178 #[.slice p key.length q, .slice p2 nonce.length q2, .slice p3 extra.length q3, .slice a6 hs.length c6] w fun e w' => e = .returned (.agg (tg.map u8v).toArray) ∧ Below w.heap.size w w') := fun w a6 c6 a b c d e => by
      have g := tagOver_c p p2 p3 a6 q q2 q3 c6 key nonce extra hs w a b c d e (by omega) (by omega) h3 (by rw [HHL.out]; exact hd)
      rw [← HTG.eq] at g
      exact g
    have HR : Hid (Rd w p q key) := hr
    have HR2 : Hid (Rd w p2 q2 nonce) := hr2
    have HR3 : Hid (Rd w p3 q3 extra) := hr3
    have HR4 : Hid (Rd w p4 q4 data) := hr4
    have HT : Hid (Tabs w) := hT
    clear h1 h2 h3 hc hc1 hd hr hr2 hr3 hr4 hT HHS HTG
    go_enter Tryz.func113, Tryz.ntmps113
    go_wp2_with fail
    refine (K0 _).mono ?_
    rintro e w' ⟨rfl, hw⟩
    subst hw
    go_wp2_with fail
    refine (KH.out _ (HR.out.keep (alloc_below _ _)) (HR2.out.keep (alloc_below _ _)) (HR4.out.keep (alloc_below _ _))).mono ?_
    rintro e w1 ⟨a6, c6, rfl, rd6, hb⟩
    have C1 := (Arr.new w [.int .i64 0, .slice none 0 0] 43).stay hb
    have BW := Below.res hb
    have hz : Hid (w.heap.size < w1.heap.size) := size_lt hb
    clear hb
    go_wp2_with fail
    refine (K.out _ a6 c6 (HR.out.keep BW) (HR2.out.keep BW) (HR3.out.keep BW) rd6 (HT.out.keep BW)).mono ?_
    rintro e w2 ⟨rfl, hb⟩
    replace C1 := C1.stay hb
    replace BW := Below.step BW hb
    replace hz : Hid (w.heap.size < w2.heap.size) := Nat.lt_of_lt_of_le hz.out hb.size
    replace rd6 := rd6.keep hb
    have Z := Arr.new w2 z8 211
    have hzn := szT tg HTL.out
    have hzs : Hid (z8.toArray.size = (tg.map u8v).toArray.size) := by show _ = _; simp [HTL.out, z8]
    have S := Z.row (tg.map u8v)
    replace C1 := (C1.old _ (.cells z8.toArray 211)).rowOther (Nat.ne_of_lt hz.out) (tg.map u8v).toArray
    have BW2 := Below.row (Below.mk (Below.refl w2.heap.size w2) (.cells z8.toArray 211)) (Nat.le_refl _) (tg.map u8v).toArray
    replace BW := Below.step BW BW2
    replace rd6 := rd6.keep BW2
    have rdt : Rd ((w2.alloc (.cells z8.toArray 211)).setRow w2.heap.size (tg.map u8v).toArray) (some ⟨w2.heap.size, 0, none⟩) 16 tg := by
      refine ⟨by rw [HTL.out]; exact Nat.le_refl _, by unfold maxLen; decide, fun e => by simp at e, fun _ => ⟨_, _, rfl, fun i hi => ?_⟩⟩
      rw [Nat.zero_add, S.cell, u8v_at hi]
    clear hb BW2
    go_wp2_with (first
      | refine wpList_alloc_arr rfl 211 rfl _ hzv.out w2.heap.size rfl ?_
      | refine wpList_store_row rfl 211 (.tmp 11) (.tmp 29) rfl w2.heap.size (tg.map u8v).toArray rfl rfl 211 z8.toArray Z hzn hzs.out (cells8 tg) ?_)
    have hsz : ((w2.alloc (.cells z8.toArray 211)).setRow w2.heap.size (tg.map u8v).toArray).heap.size = w2.heap.size + 1 := by rw [size_setRow, size_alloc]
    have KJ := joined2_c a6 (some ⟨w2.heap.size, 0, none⟩) c6 16 hs tg _ rd6 rdt (by have := HHL.out; have := HTL.out; have := HDL.out; omega)
    rw [hsz, HTL.out] at KJ
    refine KJ.mono ?_
    rintro e w3 ⟨u, rfl, ho, hb⟩
    rw [← HSN.eq] at ho
    obtain ⟨a, cap, rfl, -⟩ := ho.rd
    rw [← hsz] at hb
    replace C1 := C1.stay hb
    replace BW := Below.step BW hb
    have hz3 : Hid (w.heap.size < w2.heap.size + 1) := Nat.lt_succ_of_lt hz.out
    have c0 := C1.cell 0
    have c1 := C1.cell 1
    simp at c0 c1
    have fz := C1.frozen
    clear hb KJ S Z rd6 rdt hzn
    go_wp2
    refine bodyPost_ret (v := .agg #[.int .i64 0, .slice a (sealN key nonce extra data).length cap]) (by simp [results, Tryz.results113, go_sem, c0, c1]) rfl ⟨_, rfl, ?_, (BW.setCell (Nat.le_refl _) _).setCell (Nat.le_refl _) _⟩
    exact ((ho.set hz3.out _).set hz3.out _).lower (Nat.le_of_lt hz3.out)
  · rw [show slL key nonce extra data = [] by simp [slL, hc]]
    generalize tgC key nonce extra data = c at *
    have cz1 : (c != 0) = true := by rw [bne_iff_ne]; exact hc
    clear hc
    go_enter Tryz.func113, Tryz.ntmps113
    go_wp2_with fail
    refine (K0 _).mono ?_
    rintro e w' ⟨rfl, hw⟩
    subst hw
    go_wp2
    exact bodyPost_ret (v := .agg #[.int .i64 c, .slice none 0 0]) (by simp [results, Tryz.results113, go_sem]) rfl ⟨_, rfl, Own_nil _ _, alloc_below _ _⟩
end Go.Proofs.YtdbpnibcblelbaaGreatDoor
