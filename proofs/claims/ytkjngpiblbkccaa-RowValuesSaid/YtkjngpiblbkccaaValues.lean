/-
  The walk of RowValues.
-/
import Derived.Test.YtkjngpiblbkccaaOne
import Derived.RegionTactic
import Derived.ChangeAlike
namespace Go.Proofs.Ytkjngpiblbkccaa
open Go.RowKit

theorem enc_parts (t : Nat) (k v k' v' : List UInt8) (hk : k.length ≤ 15) (hk' : k'.length ≤ 15) : (encL t k v).take 18 = (encL t k v').take 18 ∧ (encL t k v).drop 18 = (encL t k' v).drop 18 ∧ (encL t k v).take 2 = (encL t k' v).take 2 := by
  have e : ∀ (k v : List UInt8), k.length ≤ 15 → encL t k v = ([1, UInt8.ofNat t] ++ fieldL k 15) ++ fieldL v 21 ∧ ([1, UInt8.ofNat t] ++ fieldL k 15).length = 18 := fun k v h => ⟨rfl, by simp [fieldL_length _ _ h]⟩
  obtain ⟨e1, l1⟩ := e k v hk
  obtain ⟨e2, _⟩ := e k v' hk
  obtain ⟨e3, l3⟩ := e k' v hk'
  refine ⟨?_, ?_, ?_⟩
  · rw [e1, e2, List.take_left' l1, List.take_left' l1]
  · rw [e1, e3, List.drop_left' l1, List.drop_left' l3]
  · rfl
theorem encB_parts (t : Int) (k v k' v' : ByteArray) (hk : k.size ≤ 15) (hk' : k'.size ≤ 15) : (encB t k v).take 18 = (encB t k v').take 18 ∧ (encB t k v).drop 18 = (encB t k' v).drop 18 ∧ (encB t k v).take 2 = (encB t k' v).take 2 :=
  enc_parts t.toNat k.data.toList v.data.toList k'.data.toList v'.data.toList (by rw [size_data]; exact hk) (by rw [size_data]; exact hk')

set_option maxHeartbeats 1000000 in
theorem values_long (t : Int) (k v key value : ByteArray) (w : World) (hl : lightB k v = false) :
    Calls Try.prog 8 #[.agg #[.int .i64 t, .string k, .string v], .string key, .string value] w fun e w' => e = .returned (.bool true) ∧ Below w.heap.size w w' := by
  go_enter Try.func8, Try.ntmps8
  go_wp2_with (first
    | (go_at_call 9; refine (fit_one w _ _ _).mono ?_; rintro e w1 ⟨rfl, T1⟩; obtain ⟨p11, p12, p13⟩ := T1.cells)
    | (go_at_call 10; (with_reducible refine (light_told false t k v w1 hl).mono ?_); rintro e w2 ⟨rfl, hb2⟩; have T2 := T1.below hb2; obtain ⟨p21, p22, p23⟩ := T2.cells))
  go_ret
  exact ⟨rfl, T2.le⟩
set_option maxHeartbeats 1000000 in
theorem values_wrong (t : Int) (k v key value : ByteArray) (w : World) (hl : lightB k v = true) (hr : rightB t k v = false) :
    Calls Try.prog 8 #[.agg #[.int .i64 t, .string k, .string v], .string key, .string value] w fun e w' => e = .returned (.bool true) ∧ Below w.heap.size w w' := by
  go_enter Try.func8, Try.ntmps8
  go_wp2_with (first
    | (go_at_call 9; refine (fit_one w _ _ _).mono ?_; rintro e w1 ⟨rfl, T1⟩; obtain ⟨p11, p12, p13⟩ := T1.cells)
    | (go_at_call 10; (with_reducible refine (light_told true t k v w1 hl).mono ?_); rintro e w2 ⟨rfl, hb2⟩; have T2 := T1.below hb2; obtain ⟨p21, p22, p23⟩ := T2.cells)
    | (go_at_call 12; (with_reducible refine (lright_told false t k v w2 hr).mono ?_); rintro e w3 ⟨rfl, hb3⟩; have T3 := T2.below hb3; obtain ⟨p31, p32, p33⟩ := T3.cells))
  go_ret
  exact ⟨rfl, T3.le⟩
set_option maxHeartbeats 1000000 in
theorem values_key (t : Int) (k v key value : ByteArray) (w : World) (hl : lightB k v = true) (hr : rightB t k v = true) (hk : 15 < key.size) :
    Calls Try.prog 8 #[.agg #[.int .i64 t, .string k, .string v], .string key, .string value] w fun e w' => e = .returned (.bool true) ∧ Below w.heap.size w w' := by
  have q1 : decide ((key.size : Int) > 15) = true := by simp; omega
  go_enter Try.func8, Try.ntmps8
  go_wp2_with (first
    | (go_at_call 9; refine (fit_one w _ _ _).mono ?_; rintro e w1 ⟨rfl, T1⟩; obtain ⟨p11, p12, p13⟩ := T1.cells)
    | (go_at_call 10; (with_reducible refine (light_told true t k v w1 hl).mono ?_); rintro e w2 ⟨rfl, hb2⟩; have T2 := T1.below hb2; obtain ⟨p21, p22, p23⟩ := T2.cells)
    | (go_at_call 12; (with_reducible refine (lright_told true t k v w2 hr).mono ?_); rintro e w3 ⟨rfl, hb3⟩; have T3 := T2.below hb3; obtain ⟨p31, p32, p33⟩ := T3.cells))
  go_ret
  exact ⟨rfl, T3.le⟩
set_option maxHeartbeats 1000000 in
theorem values_value (t : Int) (k v key value : ByteArray) (w : World) (hl : lightB k v = true) (hr : rightB t k v = true) (hk : key.size ≤ 15) (hv : 21 < value.size) :
    Calls Try.prog 8 #[.agg #[.int .i64 t, .string k, .string v], .string key, .string value] w fun e w' => e = .returned (.bool true) ∧ Below w.heap.size w w' := by
  have q1 : decide ((key.size : Int) > 15) = false := by simp; omega
  have q2 : decide ((value.size : Int) > 21) = true := by simp; omega
  go_enter Try.func8, Try.ntmps8
  go_wp2_with (first
    | (go_at_call 9; refine (fit_one w _ _ _).mono ?_; rintro e w1 ⟨rfl, T1⟩; obtain ⟨p11, p12, p13⟩ := T1.cells)
    | (go_at_call 10; (with_reducible refine (light_told true t k v w1 hl).mono ?_); rintro e w2 ⟨rfl, hb2⟩; have T2 := T1.below hb2; obtain ⟨p21, p22, p23⟩ := T2.cells)
    | (go_at_call 12; (with_reducible refine (lright_told true t k v w2 hr).mono ?_); rintro e w3 ⟨rfl, hb3⟩; have T3 := T2.below hb3; obtain ⟨p31, p32, p33⟩ := T3.cells))
  go_ret
  exact ⟨rfl, T3.le⟩
set_option maxHeartbeats 4000000 in
theorem values_right (t : Int) (k v key value : ByteArray) (w : World) (hl : lightB k v = true) (hr : rightB t k v = true) (hk : key.size ≤ 15) (hv : value.size ≤ 21) :
    Calls Try.prog 8 #[.agg #[.int .i64 t, .string k, .string v], .string key, .string value] w fun e w' => e = .returned (.bool true) ∧ Below w.heap.size w w' := by
  have q1 : decide ((key.size : Int) > 15) = false := by simp; omega
  have q2 : decide ((value.size : Int) > 21) = false := by simp; omega
  obtain ⟨n1, n2, n3, n4⟩ := rightB_iff.1 hr
  have hrs : rightB t k value = true := rightB_iff.2 ⟨n1, n2, n3, hv⟩
  have hrt : rightB t key v = true := rightB_iff.2 ⟨n1, n2, hk, n4⟩
  have HL := hide (encB_length hr)
  have HLS := hide (encB_length hrs)
  have HLT := hide (encB_length hrt)
  have HQ1 := hide (encB_parts t k v key value n3 hk).1
  have HQ2 := hide (encB_parts t k v key value n3 hk).2.1
  have HQ3 := hide (encB_parts t k v key value n3 hk).2.2
  go_enter Try.func8, Try.ntmps8
  go_wp2_with (first
    | (go_at_call 9; refine (fit_one w _ _ _).mono ?_; rintro e w1 ⟨rfl, T1⟩; obtain ⟨p11, p12, p13⟩ := T1.cells)
    | (go_at_call 10; (with_reducible refine (light_told true t k v w1 hl).mono ?_); rintro e w2 ⟨rfl, hb2⟩; have T2 := T1.below hb2; obtain ⟨p21, p22, p23⟩ := T2.cells)
    | (go_at_call 12; (with_reducible refine (lright_told true t k v w2 hr).mono ?_); rintro e w3 ⟨rfl, hb3⟩; have T3 := T2.below hb3; obtain ⟨p31, p32, p33⟩ := T3.cells))
  have hz := T3.a.lt
  clear T1 T2 hb2 hb3 p11 p12 p13 p21 p22 p23
  go_region
  · go_wp2
    have T4 : One w (((w3.alloc (.cells #[.int .i64 t, .string k, .string value] 23)).alloc (.cells #[.int .i64 t, .string key, .string v] 23)).drew) (.int .i64 t) (.string k) (.string v) := ((T3.alloc _).alloc _).drew
    have BS : Blk (((w3.alloc (.cells #[.int .i64 t, .string k, .string value] 23)).alloc (.cells #[.int .i64 t, .string key, .string v] 23)).drew) (w3.heap.size) 23 #[.int .i64 t, .string k, .string value] := (Blk.alloc (heap_new w3 _) _)
    have BT : Blk (((w3.alloc (.cells #[.int .i64 t, .string k, .string value] 23)).alloc (.cells #[.int .i64 t, .string key, .string v] 23)).drew) (w3.heap.size + 1) 23 #[.int .i64 t, .string key, .string v] := (heap_at _ _ (by simp))
    generalize (((w3.alloc (.cells #[.int .i64 t, .string k, .string value] 23)).alloc (.cells #[.int .i64 t, .string key, .string v] 23)).drew) = w4 at *
    obtain ⟨p41, p42, p43⟩ := T4.cells
    obtain ⟨s1, s2, s3⟩ := BS.three
    obtain ⟨x1, x2, x3⟩ := BT.three
    have hlt := hide T4.a.lt
    have hls := hide BS.lt
    have hlx := hide BT.lt
    clear hz
    refine region_grows [Say.is (.agg #[.int .i64 t, .string k, .string v]), Say.rd 40 (encB t k v), Say.is (.agg #[.int .i64 t, .string k, .string value]), Say.rd 40 (encB t k value), Say.is (.agg #[.int .i64 t, .string key, .string v]), Say.rd 40 (encB t key v), Say.rd 40 (encB t k v), Say.rd 40 (encB t k value), Say.rd 40 (encB t key v)] (by kernel_rfl) (by kernel_rfl) (by kernel_rfl) (by kernel_rfl) ?_ ?_
    · intro i o ho a w2 hb hsz old dep
      match i, ho with
      | 0, ho =>
        obtain rfl := Option.some.inj ho
        have o3 : a.tmps.getD 3 undef = _ := old 3 (by kernel_rfl)
        rw [if_pos (wanted_none rfl)]
        have g0 := (hb.cell (p := ⟨w.heap.size, 0, none⟩) hlt.out).trans p41
        have g1 := (hb.cell (p := ⟨w.heap.size, 1, none⟩) hlt.out).trans p42
        have g2 := (hb.cell (p := ⟨w.heap.size, 2, none⟩) hlt.out).trans p43
        refine grow_same (v := .agg #[.int .i64 t, .string k, .string v]) ?_ rfl
        clear old dep ho hsz hb
        go_simp
      | 1, ho =>
        obtain rfl := Option.some.inj ho
        have d0 : a.tmps.getD 38 undef = .agg #[.int .i64 t, .string k, .string v] := dep 0 _ _ (by kernel_rfl) rfl rfl
        have e0 : a.tmps[38]?.getD undef = _ := (Array.getD_eq_getD_getElem? ..).symm.trans d0
        rw [if_pos (wanted_none rfl)]
        refine grow_enters (f := 14) (args := #[.agg #[.int .i64 t, .string k, .string v]]) ?_ (encode_grow t k v _ hr)
        clear old dep ho hsz hb
        go_simp
      | 2, ho =>
        obtain rfl := Option.some.inj ho
        have o7 : a.tmps.getD 7 undef = _ := old 7 (by kernel_rfl)
        rw [if_pos (wanted_none rfl)]
        have g0 := (hb.cell (p := ⟨w3.heap.size, 0, none⟩) hls.out).trans s1
        have g1 := (hb.cell (p := ⟨w3.heap.size, 1, none⟩) hls.out).trans s2
        have g2 := (hb.cell (p := ⟨w3.heap.size, 2, none⟩) hls.out).trans s3
        refine grow_same (v := .agg #[.int .i64 t, .string k, .string value]) ?_ rfl
        clear old dep ho hsz hb
        go_simp
      | 3, ho =>
        obtain rfl := Option.some.inj ho
        have d2 : a.tmps.getD 40 undef = .agg #[.int .i64 t, .string k, .string value] := dep 2 _ _ (by kernel_rfl) rfl rfl
        have e2 : a.tmps[40]?.getD undef = _ := (Array.getD_eq_getD_getElem? ..).symm.trans d2
        rw [if_pos (wanted_none rfl)]
        refine grow_enters (f := 14) (args := #[.agg #[.int .i64 t, .string k, .string value]]) ?_ (encode_grow t k value _ hrs)
        clear old dep ho hsz hb
        go_simp
      | 4, ho =>
        obtain rfl := Option.some.inj ho
        have o8 : a.tmps.getD 8 undef = _ := old 8 (by kernel_rfl)
        rw [if_pos (wanted_none rfl)]
        have g0 := (hb.cell (p := ⟨w3.heap.size + 1, 0, none⟩) hlx.out).trans x1
        have g1 := (hb.cell (p := ⟨w3.heap.size + 1, 1, none⟩) hlx.out).trans x2
        have g2 := (hb.cell (p := ⟨w3.heap.size + 1, 2, none⟩) hlx.out).trans x3
        refine grow_same (v := .agg #[.int .i64 t, .string key, .string v]) ?_ rfl
        clear old dep ho hsz hb
        go_simp
      | 5, ho =>
        obtain rfl := Option.some.inj ho
        have d4 : a.tmps.getD 42 undef = .agg #[.int .i64 t, .string key, .string v] := dep 4 _ _ (by kernel_rfl) rfl rfl
        have e4 : a.tmps[42]?.getD undef = _ := (Array.getD_eq_getD_getElem? ..).symm.trans d4
        rw [if_pos (wanted_none rfl)]
        refine grow_enters (f := 14) (args := #[.agg #[.int .i64 t, .string key, .string v]]) ?_ (encode_grow t key v _ hrt)
        clear old dep ho hsz hb
        go_simp
      | 6, ho =>
        obtain rfl := Option.some.inj ho
        obtain ⟨A1, C1, d1, r1⟩ : ∃ A c, a.tmps.getD 39 undef = .slice A 40 c ∧ Rd w2 (.slice A 40 c) (u8s (encB t k v)) := dep 1 _ _ (by kernel_rfl) rfl rfl
        have e1 : a.tmps[39]?.getD undef = _ := (Array.getD_eq_getD_getElem? ..).symm.trans d1
        rw [if_pos (wanted_none rfl)]
        refine grow_same (v := .slice A1 40 C1) ?_ ⟨_, _, rfl, r1⟩
        clear old dep ho hsz hb r1
        go_simp
      | 7, ho =>
        obtain rfl := Option.some.inj ho
        obtain ⟨A3, C3, d3, r3⟩ : ∃ A c, a.tmps.getD 41 undef = .slice A 40 c ∧ Rd w2 (.slice A 40 c) (u8s (encB t k value)) := dep 3 _ _ (by kernel_rfl) rfl rfl
        have e3 : a.tmps[41]?.getD undef = _ := (Array.getD_eq_getD_getElem? ..).symm.trans d3
        rw [if_pos (wanted_none rfl)]
        refine grow_same (v := .slice A3 40 C3) ?_ ⟨_, _, rfl, r3⟩
        clear old dep ho hsz hb r3
        go_simp
      | 8, ho =>
        obtain rfl := Option.some.inj ho
        obtain ⟨A5, C5, d5, r5⟩ : ∃ A c, a.tmps.getD 43 undef = .slice A 40 c ∧ Rd w2 (.slice A 40 c) (u8s (encB t key v)) := dep 5 _ _ (by kernel_rfl) rfl rfl
        have e5 : a.tmps[43]?.getD undef = _ := (Array.getD_eq_getD_getElem? ..).symm.trans d5
        rw [if_pos (wanted_none rfl)]
        refine grow_same (v := .slice A5 40 C5) ?_ ⟨_, _, rfl, r5⟩
        clear old dep ho hsz hb r5
        go_simp
      | i + 9, ho => exact absurd ho (by simp)
    · intro a w5 hb hsz hdf fin keep
      obtain ⟨tm, df⟩ := a
      have hx := frame_of [38, 39, 40, 41, 42, 43, 9, 10, 11] (by kernel_rfl) hsz keep
      dsimp only at hdf hx
      simp only [List.foldl_cons, List.foldl_nil] at hx
      subst hdf
      clear hsz keep
      have kn : tm.getD 38 undef = .agg #[.int .i64 t, .string k, .string v] := fin 0 _ _ rfl rfl
      rw [kn] at hx
      clear kn
      obtain ⟨A39, C39, kn, R39⟩ : ∃ A c, tm.getD 39 undef = .slice A 40 c ∧ Rd w5 (.slice A 40 c) (u8s (encB t k v)) := fin 1 _ _ rfl rfl
      rw [kn] at hx
      clear kn
      clear R39
      have kn : tm.getD 40 undef = .agg #[.int .i64 t, .string k, .string value] := fin 2 _ _ rfl rfl
      rw [kn] at hx
      clear kn
      obtain ⟨A41, C41, kn, R41⟩ : ∃ A c, tm.getD 41 undef = .slice A 40 c ∧ Rd w5 (.slice A 40 c) (u8s (encB t k value)) := fin 3 _ _ rfl rfl
      rw [kn] at hx
      clear kn
      clear R41
      have kn : tm.getD 42 undef = .agg #[.int .i64 t, .string key, .string v] := fin 4 _ _ rfl rfl
      rw [kn] at hx
      clear kn
      obtain ⟨A43, C43, kn, R43⟩ : ∃ A c, tm.getD 43 undef = .slice A 40 c ∧ Rd w5 (.slice A 40 c) (u8s (encB t key v)) := fin 5 _ _ rfl rfl
      rw [kn] at hx
      clear kn
      clear R43
      obtain ⟨A9, C9, kn, R9⟩ : ∃ A c, tm.getD 9 undef = .slice A 40 c ∧ Rd w5 (.slice A 40 c) (u8s (encB t k v)) := fin 6 _ _ rfl rfl
      rw [kn] at hx
      clear kn
      obtain ⟨A10, C10, kn, R10⟩ : ∃ A c, tm.getD 10 undef = .slice A 40 c ∧ Rd w5 (.slice A 40 c) (u8s (encB t k value)) := fin 7 _ _ rfl rfl
      rw [kn] at hx
      clear kn
      obtain ⟨A11, C11, kn, R11⟩ : ∃ A c, tm.getD 11 undef = .slice A 40 c ∧ Rd w5 (.slice A 40 c) (u8s (encB t key v)) := fin 8 _ _ rfl rfl
      rw [kn] at hx
      clear kn
      clear fin
      simp only [List.setIfInBounds_toArray, List.set_cons_succ, List.set_cons_zero] at hx
      subst hx
      have T5 := T4.below hb
      have HR9 := hide R9
      have HR10 := hide R10
      have HR11 := hide R11
      clear hb hlt hls hlx p41 p42 p43 s1 s2 s3 x1 x2 x3 BS BT R9 R10 R11
      go_wp2
      refine region_grows [Say.rd 40 (encB t k v), Say.is (.int .i64 40), Say.is (.bool true), Say.is (.bool true), Say.rd 40 (encB t k value), Say.is (.int .i64 40), Say.is (.bool true), Say.is (.bool true), Say.is (.bool true), Say.rd 40 (encB t key v), Say.is (.int .i64 40), Say.is (.bool true), Say.is (.bool true), Say.is (.bool true), Say.rd 40 (encB t k v), Say.rd 18 ((encB t k v).take 18), Say.is (.string ⟨((encB t k v).take 18).toArray⟩), Say.rd 40 (encB t k value), Say.rd 18 ((encB t k value).take 18), Say.is (.string ⟨((encB t k value).take 18).toArray⟩), Say.is (.bool true), Say.is (.bool true), Say.is (.bool true), Say.rd 40 (encB t k v), Say.rd 22 ((encB t k v).drop 18), Say.is (.string ⟨((encB t k v).drop 18).toArray⟩), Say.rd 40 (encB t key v), Say.rd 22 ((encB t key v).drop 18), Say.is (.string ⟨((encB t key v).drop 18).toArray⟩), Say.is (.bool true), Say.is (.bool true), Say.is (.bool true), Say.rd 40 (encB t k v), Say.rd 2 ((encB t k v).take 2), Say.is (.string ⟨((encB t k v).take 2).toArray⟩), Say.rd 40 (encB t key v), Say.rd 2 ((encB t key v).take 2), Say.is (.string ⟨((encB t key v).take 2).toArray⟩), Say.is (.bool true), Say.is (.bool true), Say.is (.bool true)] (by kernel_rfl) (by kernel_rfl) (by kernel_rfl) (by kernel_rfl) ?_ ?_
      · intro i o ho a w2 hb hsz old dep
        match i, ho with
        | 0, ho =>
          obtain rfl := Option.some.inj ho
          have o9 : a.tmps.getD 9 undef = _ := old 9 (by kernel_rfl)
          rw [if_pos (wanted_none rfl)]
          refine grow_same (v := .slice A9 40 C9) ?_ ⟨_, _, rfl, (HR9.out.below hb)⟩
          clear old dep ho hsz hb
          go_simp
        | 1, ho =>
          obtain rfl := Option.some.inj ho
          obtain ⟨A0, C0, d0, r0⟩ : ∃ A c, a.tmps.getD 44 undef = .slice A 40 c ∧ Rd w2 (.slice A 40 c) (u8s (encB t k v)) := dep 0 _ _ (by kernel_rfl) rfl rfl
          have e0 : a.tmps[44]?.getD undef = _ := (Array.getD_eq_getD_getElem? ..).symm.trans d0
          rw [if_pos (wanted_none rfl)]
          refine grow_same (v := .int .i64 40) ?_ rfl
          clear old dep ho hsz hb r0
          go_simp
        | 2, ho =>
          obtain rfl := Option.some.inj ho
          have d1 : a.tmps.getD 45 undef = .int .i64 40 := dep 1 _ _ (by kernel_rfl) rfl rfl
          have e1 : a.tmps[45]?.getD undef = _ := (Array.getD_eq_getD_getElem? ..).symm.trans d1
          rw [if_pos (wanted_none rfl)]
          refine grow_same (v := .bool true) ?_ rfl
          clear old dep ho hsz hb
          go_simp
        | 3, ho =>
          obtain rfl := Option.some.inj ho
          have d2 : a.tmps.getD 46 undef = .bool true := dep 2 _ _ (by kernel_rfl) rfl rfl
          have e2 : a.tmps[46]?.getD undef = _ := (Array.getD_eq_getD_getElem? ..).symm.trans d2
          rw [if_pos (wanted_none rfl)]
          refine grow_same (v := .bool true) ?_ rfl
          clear old dep ho hsz hb
          go_simp
        | 4, ho =>
          obtain rfl := Option.some.inj ho
          have o10 : a.tmps.getD 10 undef = _ := old 10 (by kernel_rfl)
          have d3 : a.tmps.getD 47 undef = .bool true := dep 3 _ _ (by kernel_rfl) rfl rfl
          have e3 : a.tmps[47]?.getD undef = _ := (Array.getD_eq_getD_getElem? ..).symm.trans d3
          rw [if_pos (wanted_some rfl rfl rfl (by rw [hsz]; exact of_decide_eq_true rfl) d3)]
          refine grow_same (v := .slice A10 40 C10) ?_ ⟨_, _, rfl, (HR10.out.below hb)⟩
          clear old dep ho hsz hb
          go_simp
        | 5, ho =>
          obtain rfl := Option.some.inj ho
          obtain ⟨A4, C4, d4, r4⟩ : ∃ A c, a.tmps.getD 48 undef = .slice A 40 c ∧ Rd w2 (.slice A 40 c) (u8s (encB t k value)) := dep 4 _ _ (by kernel_rfl) rfl rfl
          have e4 : a.tmps[48]?.getD undef = _ := (Array.getD_eq_getD_getElem? ..).symm.trans d4
          have d3 : a.tmps.getD 47 undef = .bool true := dep 3 _ _ (by kernel_rfl) rfl rfl
          have e3 : a.tmps[47]?.getD undef = _ := (Array.getD_eq_getD_getElem? ..).symm.trans d3
          rw [if_pos (wanted_some rfl rfl rfl (by rw [hsz]; exact of_decide_eq_true rfl) d3)]
          refine grow_same (v := .int .i64 40) ?_ rfl
          clear old dep ho hsz hb r4
          go_simp
        | 6, ho =>
          obtain rfl := Option.some.inj ho
          have d5 : a.tmps.getD 49 undef = .int .i64 40 := dep 5 _ _ (by kernel_rfl) rfl rfl
          have e5 : a.tmps[49]?.getD undef = _ := (Array.getD_eq_getD_getElem? ..).symm.trans d5
          have d3 : a.tmps.getD 47 undef = .bool true := dep 3 _ _ (by kernel_rfl) rfl rfl
          have e3 : a.tmps[47]?.getD undef = _ := (Array.getD_eq_getD_getElem? ..).symm.trans d3
          rw [if_pos (wanted_some rfl rfl rfl (by rw [hsz]; exact of_decide_eq_true rfl) d3)]
          refine grow_same (v := .bool true) ?_ rfl
          clear old dep ho hsz hb
          go_simp
        | 7, ho =>
          obtain rfl := Option.some.inj ho
          have d3 : a.tmps.getD 47 undef = .bool true := dep 3 _ _ (by kernel_rfl) rfl rfl
          have e3 : a.tmps[47]?.getD undef = _ := (Array.getD_eq_getD_getElem? ..).symm.trans d3
          have d6 : a.tmps.getD 50 undef = .bool true := dep 6 _ _ (by kernel_rfl) rfl rfl
          have e6 : a.tmps[50]?.getD undef = _ := (Array.getD_eq_getD_getElem? ..).symm.trans d6
          rw [if_pos (wanted_none rfl)]
          refine grow_same (v := .bool true) ?_ rfl
          clear old dep ho hsz hb
          go_simp
        | 8, ho =>
          obtain rfl := Option.some.inj ho
          have d7 : a.tmps.getD 51 undef = .bool true := dep 7 _ _ (by kernel_rfl) rfl rfl
          have e7 : a.tmps[51]?.getD undef = _ := (Array.getD_eq_getD_getElem? ..).symm.trans d7
          rw [if_pos (wanted_none rfl)]
          refine grow_same (v := .bool true) ?_ rfl
          clear old dep ho hsz hb
          go_simp
        | 9, ho =>
          obtain rfl := Option.some.inj ho
          have o11 : a.tmps.getD 11 undef = _ := old 11 (by kernel_rfl)
          have d8 : a.tmps.getD 52 undef = .bool true := dep 8 _ _ (by kernel_rfl) rfl rfl
          have e8 : a.tmps[52]?.getD undef = _ := (Array.getD_eq_getD_getElem? ..).symm.trans d8
          rw [if_pos (wanted_some rfl rfl rfl (by rw [hsz]; exact of_decide_eq_true rfl) d8)]
          refine grow_same (v := .slice A11 40 C11) ?_ ⟨_, _, rfl, (HR11.out.below hb)⟩
          clear old dep ho hsz hb
          go_simp
        | 10, ho =>
          obtain rfl := Option.some.inj ho
          obtain ⟨A9, C9, d9, r9⟩ : ∃ A c, a.tmps.getD 53 undef = .slice A 40 c ∧ Rd w2 (.slice A 40 c) (u8s (encB t key v)) := dep 9 _ _ (by kernel_rfl) rfl rfl
          have e9 : a.tmps[53]?.getD undef = _ := (Array.getD_eq_getD_getElem? ..).symm.trans d9
          have d8 : a.tmps.getD 52 undef = .bool true := dep 8 _ _ (by kernel_rfl) rfl rfl
          have e8 : a.tmps[52]?.getD undef = _ := (Array.getD_eq_getD_getElem? ..).symm.trans d8
          rw [if_pos (wanted_some rfl rfl rfl (by rw [hsz]; exact of_decide_eq_true rfl) d8)]
          refine grow_same (v := .int .i64 40) ?_ rfl
          clear old dep ho hsz hb r9
          go_simp
        | 11, ho =>
          obtain rfl := Option.some.inj ho
          have d10 : a.tmps.getD 54 undef = .int .i64 40 := dep 10 _ _ (by kernel_rfl) rfl rfl
          have e10 : a.tmps[54]?.getD undef = _ := (Array.getD_eq_getD_getElem? ..).symm.trans d10
          have d8 : a.tmps.getD 52 undef = .bool true := dep 8 _ _ (by kernel_rfl) rfl rfl
          have e8 : a.tmps[52]?.getD undef = _ := (Array.getD_eq_getD_getElem? ..).symm.trans d8
          rw [if_pos (wanted_some rfl rfl rfl (by rw [hsz]; exact of_decide_eq_true rfl) d8)]
          refine grow_same (v := .bool true) ?_ rfl
          clear old dep ho hsz hb
          go_simp
        | 12, ho =>
          obtain rfl := Option.some.inj ho
          have d8 : a.tmps.getD 52 undef = .bool true := dep 8 _ _ (by kernel_rfl) rfl rfl
          have e8 : a.tmps[52]?.getD undef = _ := (Array.getD_eq_getD_getElem? ..).symm.trans d8
          have d11 : a.tmps.getD 55 undef = .bool true := dep 11 _ _ (by kernel_rfl) rfl rfl
          have e11 : a.tmps[55]?.getD undef = _ := (Array.getD_eq_getD_getElem? ..).symm.trans d11
          rw [if_pos (wanted_none rfl)]
          refine grow_same (v := .bool true) ?_ rfl
          clear old dep ho hsz hb
          go_simp
        | 13, ho =>
          obtain rfl := Option.some.inj ho
          have d12 : a.tmps.getD 56 undef = .bool true := dep 12 _ _ (by kernel_rfl) rfl rfl
          have e12 : a.tmps[56]?.getD undef = _ := (Array.getD_eq_getD_getElem? ..).symm.trans d12
          rw [if_pos (wanted_none rfl)]
          refine grow_same (v := .bool true) ?_ rfl
          clear old dep ho hsz hb
          go_simp
        | 14, ho =>
          obtain rfl := Option.some.inj ho
          have o9 : a.tmps.getD 9 undef = _ := old 9 (by kernel_rfl)
          have d13 : a.tmps.getD 57 undef = .bool true := dep 13 _ _ (by kernel_rfl) rfl rfl
          have e13 : a.tmps[57]?.getD undef = _ := (Array.getD_eq_getD_getElem? ..).symm.trans d13
          rw [if_pos (wanted_some rfl rfl rfl (by rw [hsz]; exact of_decide_eq_true rfl) d13)]
          refine grow_same (v := .slice A9 40 C9) ?_ ⟨_, _, rfl, (HR9.out.below hb)⟩
          clear old dep ho hsz hb
          go_simp
        | 15, ho =>
          obtain rfl := Option.some.inj ho
          obtain ⟨A14, C14, d14, r14⟩ : ∃ A c, a.tmps.getD 58 undef = .slice A 40 c ∧ Rd w2 (.slice A 40 c) (u8s (encB t k v)) := dep 14 _ _ (by kernel_rfl) rfl rfl
          have e14 : a.tmps[58]?.getD undef = _ := (Array.getD_eq_getD_getElem? ..).symm.trans d14
          have d13 : a.tmps.getD 57 undef = .bool true := dep 13 _ _ (by kernel_rfl) rfl rfl
          have e13 : a.tmps[57]?.getD undef = _ := (Array.getD_eq_getD_getElem? ..).symm.trans d13
          rw [if_pos (wanted_some rfl rfl rfl (by rw [hsz]; exact of_decide_eq_true rfl) d13)]
          refine grow_same (v := .slice A14 18 C14) (exec_low (x := .tmp 58) 18 rfl d14 (Nat.le_trans (show 18 ≤ 40 by decide) (rd_cap r14))) ⟨_, _, rfl, Rd.low r14 (by decide)⟩
        | 16, ho =>
          obtain rfl := Option.some.inj ho
          obtain ⟨A15, C15, d15, r15⟩ : ∃ A c, a.tmps.getD 59 undef = .slice A 18 c ∧ Rd w2 (.slice A 18 c) (u8s ((encB t k v).take 18)) := dep 15 _ _ (by kernel_rfl) rfl rfl
          have e15 : a.tmps[59]?.getD undef = _ := (Array.getD_eq_getD_getElem? ..).symm.trans d15
          have d13 : a.tmps.getD 57 undef = .bool true := dep 13 _ _ (by kernel_rfl) rfl rfl
          have e13 : a.tmps[57]?.getD undef = _ := (Array.getD_eq_getD_getElem? ..).symm.trans d13
          rw [if_pos (wanted_some rfl rfl rfl (by rw [hsz]; exact of_decide_eq_true rfl) d13)]
          have hcv := conv_rdn (by rw [List.length_take, HL.out]; decide) r15
          refine grow_same (v := .string ⟨((encB t k v).take 18).toArray⟩) ?_ rfl
          clear old dep ho hsz hb r15
          go_simp
        | 17, ho =>
          obtain rfl := Option.some.inj ho
          have o10 : a.tmps.getD 10 undef = _ := old 10 (by kernel_rfl)
          have d13 : a.tmps.getD 57 undef = .bool true := dep 13 _ _ (by kernel_rfl) rfl rfl
          have e13 : a.tmps[57]?.getD undef = _ := (Array.getD_eq_getD_getElem? ..).symm.trans d13
          rw [if_pos (wanted_some rfl rfl rfl (by rw [hsz]; exact of_decide_eq_true rfl) d13)]
          refine grow_same (v := .slice A10 40 C10) ?_ ⟨_, _, rfl, (HR10.out.below hb)⟩
          clear old dep ho hsz hb
          go_simp
        | 18, ho =>
          obtain rfl := Option.some.inj ho
          obtain ⟨A17, C17, d17, r17⟩ : ∃ A c, a.tmps.getD 61 undef = .slice A 40 c ∧ Rd w2 (.slice A 40 c) (u8s (encB t k value)) := dep 17 _ _ (by kernel_rfl) rfl rfl
          have e17 : a.tmps[61]?.getD undef = _ := (Array.getD_eq_getD_getElem? ..).symm.trans d17
          have d13 : a.tmps.getD 57 undef = .bool true := dep 13 _ _ (by kernel_rfl) rfl rfl
          have e13 : a.tmps[57]?.getD undef = _ := (Array.getD_eq_getD_getElem? ..).symm.trans d13
          rw [if_pos (wanted_some rfl rfl rfl (by rw [hsz]; exact of_decide_eq_true rfl) d13)]
          refine grow_same (v := .slice A17 18 C17) (exec_low (x := .tmp 61) 18 rfl d17 (Nat.le_trans (show 18 ≤ 40 by decide) (rd_cap r17))) ⟨_, _, rfl, Rd.low r17 (by decide)⟩
        | 19, ho =>
          obtain rfl := Option.some.inj ho
          obtain ⟨A18, C18, d18, r18⟩ : ∃ A c, a.tmps.getD 62 undef = .slice A 18 c ∧ Rd w2 (.slice A 18 c) (u8s ((encB t k value).take 18)) := dep 18 _ _ (by kernel_rfl) rfl rfl
          have e18 : a.tmps[62]?.getD undef = _ := (Array.getD_eq_getD_getElem? ..).symm.trans d18
          have d13 : a.tmps.getD 57 undef = .bool true := dep 13 _ _ (by kernel_rfl) rfl rfl
          have e13 : a.tmps[57]?.getD undef = _ := (Array.getD_eq_getD_getElem? ..).symm.trans d13
          rw [if_pos (wanted_some rfl rfl rfl (by rw [hsz]; exact of_decide_eq_true rfl) d13)]
          have hcv := conv_rdn (by rw [List.length_take, HLS.out]; decide) r18
          refine grow_same (v := .string ⟨((encB t k value).take 18).toArray⟩) ?_ rfl
          clear old dep ho hsz hb r18
          go_simp
        | 20, ho =>
          obtain rfl := Option.some.inj ho
          have d16 : a.tmps.getD 60 undef = .string ⟨((encB t k v).take 18).toArray⟩ := dep 16 _ _ (by kernel_rfl) rfl rfl
          have e16 : a.tmps[60]?.getD undef = _ := (Array.getD_eq_getD_getElem? ..).symm.trans d16
          have d19 : a.tmps.getD 63 undef = .string ⟨((encB t k value).take 18).toArray⟩ := dep 19 _ _ (by kernel_rfl) rfl rfl
          have e19 : a.tmps[63]?.getD undef = _ := (Array.getD_eq_getD_getElem? ..).symm.trans d19
          have d13 : a.tmps.getD 57 undef = .bool true := dep 13 _ _ (by kernel_rfl) rfl rfl
          have e13 : a.tmps[57]?.getD undef = _ := (Array.getD_eq_getD_getElem? ..).symm.trans d13
          rw [if_pos (wanted_some rfl rfl rfl (by rw [hsz]; exact of_decide_eq_true rfl) d13)]
          have hq := HQ1.out
          refine grow_same (v := .bool true) ?_ rfl
          clear old dep ho hsz hb
          go_simp
        | 21, ho =>
          obtain rfl := Option.some.inj ho
          have d13 : a.tmps.getD 57 undef = .bool true := dep 13 _ _ (by kernel_rfl) rfl rfl
          have e13 : a.tmps[57]?.getD undef = _ := (Array.getD_eq_getD_getElem? ..).symm.trans d13
          have d20 : a.tmps.getD 64 undef = .bool true := dep 20 _ _ (by kernel_rfl) rfl rfl
          have e20 : a.tmps[64]?.getD undef = _ := (Array.getD_eq_getD_getElem? ..).symm.trans d20
          rw [if_pos (wanted_none rfl)]
          refine grow_same (v := .bool true) ?_ rfl
          clear old dep ho hsz hb
          go_simp
        | 22, ho =>
          obtain rfl := Option.some.inj ho
          have d21 : a.tmps.getD 65 undef = .bool true := dep 21 _ _ (by kernel_rfl) rfl rfl
          have e21 : a.tmps[65]?.getD undef = _ := (Array.getD_eq_getD_getElem? ..).symm.trans d21
          rw [if_pos (wanted_none rfl)]
          refine grow_same (v := .bool true) ?_ rfl
          clear old dep ho hsz hb
          go_simp
        | 23, ho =>
          obtain rfl := Option.some.inj ho
          have o9 : a.tmps.getD 9 undef = _ := old 9 (by kernel_rfl)
          have d22 : a.tmps.getD 66 undef = .bool true := dep 22 _ _ (by kernel_rfl) rfl rfl
          have e22 : a.tmps[66]?.getD undef = _ := (Array.getD_eq_getD_getElem? ..).symm.trans d22
          rw [if_pos (wanted_some rfl rfl rfl (by rw [hsz]; exact of_decide_eq_true rfl) d22)]
          refine grow_same (v := .slice A9 40 C9) ?_ ⟨_, _, rfl, (HR9.out.below hb)⟩
          clear old dep ho hsz hb
          go_simp
        | 24, ho =>
          obtain rfl := Option.some.inj ho
          obtain ⟨A23, C23, d23, r23⟩ : ∃ A c, a.tmps.getD 67 undef = .slice A 40 c ∧ Rd w2 (.slice A 40 c) (u8s (encB t k v)) := dep 23 _ _ (by kernel_rfl) rfl rfl
          have e23 : a.tmps[67]?.getD undef = _ := (Array.getD_eq_getD_getElem? ..).symm.trans d23
          have d22 : a.tmps.getD 66 undef = .bool true := dep 22 _ _ (by kernel_rfl) rfl rfl
          have e22 : a.tmps[66]?.getD undef = _ := (Array.getD_eq_getD_getElem? ..).symm.trans d22
          rw [if_pos (wanted_some rfl rfl rfl (by rw [hsz]; exact of_decide_eq_true rfl) d22)]
          refine grow_same (v := .slice (hiA A23 C23 18) 22 (C23 - 18)) (exec_high (x := .tmp 67) 18 rfl d23 (by decide)) ⟨_, _, rfl, Rd.high r23 (by decide)⟩
        | 25, ho =>
          obtain rfl := Option.some.inj ho
          obtain ⟨A24, C24, d24, r24⟩ : ∃ A c, a.tmps.getD 68 undef = .slice A 22 c ∧ Rd w2 (.slice A 22 c) (u8s ((encB t k v).drop 18)) := dep 24 _ _ (by kernel_rfl) rfl rfl
          have e24 : a.tmps[68]?.getD undef = _ := (Array.getD_eq_getD_getElem? ..).symm.trans d24
          have d22 : a.tmps.getD 66 undef = .bool true := dep 22 _ _ (by kernel_rfl) rfl rfl
          have e22 : a.tmps[66]?.getD undef = _ := (Array.getD_eq_getD_getElem? ..).symm.trans d22
          rw [if_pos (wanted_some rfl rfl rfl (by rw [hsz]; exact of_decide_eq_true rfl) d22)]
          have hcv := conv_rdn (by rw [List.length_drop, HL.out]) r24
          refine grow_same (v := .string ⟨((encB t k v).drop 18).toArray⟩) ?_ rfl
          clear old dep ho hsz hb r24
          go_simp
        | 26, ho =>
          obtain rfl := Option.some.inj ho
          have o11 : a.tmps.getD 11 undef = _ := old 11 (by kernel_rfl)
          have d22 : a.tmps.getD 66 undef = .bool true := dep 22 _ _ (by kernel_rfl) rfl rfl
          have e22 : a.tmps[66]?.getD undef = _ := (Array.getD_eq_getD_getElem? ..).symm.trans d22
          rw [if_pos (wanted_some rfl rfl rfl (by rw [hsz]; exact of_decide_eq_true rfl) d22)]
          refine grow_same (v := .slice A11 40 C11) ?_ ⟨_, _, rfl, (HR11.out.below hb)⟩
          clear old dep ho hsz hb
          go_simp
        | 27, ho =>
          obtain rfl := Option.some.inj ho
          obtain ⟨A26, C26, d26, r26⟩ : ∃ A c, a.tmps.getD 70 undef = .slice A 40 c ∧ Rd w2 (.slice A 40 c) (u8s (encB t key v)) := dep 26 _ _ (by kernel_rfl) rfl rfl
          have e26 : a.tmps[70]?.getD undef = _ := (Array.getD_eq_getD_getElem? ..).symm.trans d26
          have d22 : a.tmps.getD 66 undef = .bool true := dep 22 _ _ (by kernel_rfl) rfl rfl
          have e22 : a.tmps[66]?.getD undef = _ := (Array.getD_eq_getD_getElem? ..).symm.trans d22
          rw [if_pos (wanted_some rfl rfl rfl (by rw [hsz]; exact of_decide_eq_true rfl) d22)]
          refine grow_same (v := .slice (hiA A26 C26 18) 22 (C26 - 18)) (exec_high (x := .tmp 70) 18 rfl d26 (by decide)) ⟨_, _, rfl, Rd.high r26 (by decide)⟩
        | 28, ho =>
          obtain rfl := Option.some.inj ho
          obtain ⟨A27, C27, d27, r27⟩ : ∃ A c, a.tmps.getD 71 undef = .slice A 22 c ∧ Rd w2 (.slice A 22 c) (u8s ((encB t key v).drop 18)) := dep 27 _ _ (by kernel_rfl) rfl rfl
          have e27 : a.tmps[71]?.getD undef = _ := (Array.getD_eq_getD_getElem? ..).symm.trans d27
          have d22 : a.tmps.getD 66 undef = .bool true := dep 22 _ _ (by kernel_rfl) rfl rfl
          have e22 : a.tmps[66]?.getD undef = _ := (Array.getD_eq_getD_getElem? ..).symm.trans d22
          rw [if_pos (wanted_some rfl rfl rfl (by rw [hsz]; exact of_decide_eq_true rfl) d22)]
          have hcv := conv_rdn (by rw [List.length_drop, HLT.out]) r27
          refine grow_same (v := .string ⟨((encB t key v).drop 18).toArray⟩) ?_ rfl
          clear old dep ho hsz hb r27
          go_simp
        | 29, ho =>
          obtain rfl := Option.some.inj ho
          have d25 : a.tmps.getD 69 undef = .string ⟨((encB t k v).drop 18).toArray⟩ := dep 25 _ _ (by kernel_rfl) rfl rfl
          have e25 : a.tmps[69]?.getD undef = _ := (Array.getD_eq_getD_getElem? ..).symm.trans d25
          have d28 : a.tmps.getD 72 undef = .string ⟨((encB t key v).drop 18).toArray⟩ := dep 28 _ _ (by kernel_rfl) rfl rfl
          have e28 : a.tmps[72]?.getD undef = _ := (Array.getD_eq_getD_getElem? ..).symm.trans d28
          have d22 : a.tmps.getD 66 undef = .bool true := dep 22 _ _ (by kernel_rfl) rfl rfl
          have e22 : a.tmps[66]?.getD undef = _ := (Array.getD_eq_getD_getElem? ..).symm.trans d22
          rw [if_pos (wanted_some rfl rfl rfl (by rw [hsz]; exact of_decide_eq_true rfl) d22)]
          have hq := HQ2.out
          refine grow_same (v := .bool true) ?_ rfl
          clear old dep ho hsz hb
          go_simp
        | 30, ho =>
          obtain rfl := Option.some.inj ho
          have d22 : a.tmps.getD 66 undef = .bool true := dep 22 _ _ (by kernel_rfl) rfl rfl
          have e22 : a.tmps[66]?.getD undef = _ := (Array.getD_eq_getD_getElem? ..).symm.trans d22
          have d29 : a.tmps.getD 73 undef = .bool true := dep 29 _ _ (by kernel_rfl) rfl rfl
          have e29 : a.tmps[73]?.getD undef = _ := (Array.getD_eq_getD_getElem? ..).symm.trans d29
          rw [if_pos (wanted_none rfl)]
          refine grow_same (v := .bool true) ?_ rfl
          clear old dep ho hsz hb
          go_simp
        | 31, ho =>
          obtain rfl := Option.some.inj ho
          have d30 : a.tmps.getD 74 undef = .bool true := dep 30 _ _ (by kernel_rfl) rfl rfl
          have e30 : a.tmps[74]?.getD undef = _ := (Array.getD_eq_getD_getElem? ..).symm.trans d30
          rw [if_pos (wanted_none rfl)]
          refine grow_same (v := .bool true) ?_ rfl
          clear old dep ho hsz hb
          go_simp
        | 32, ho =>
          obtain rfl := Option.some.inj ho
          have o9 : a.tmps.getD 9 undef = _ := old 9 (by kernel_rfl)
          have d31 : a.tmps.getD 75 undef = .bool true := dep 31 _ _ (by kernel_rfl) rfl rfl
          have e31 : a.tmps[75]?.getD undef = _ := (Array.getD_eq_getD_getElem? ..).symm.trans d31
          rw [if_pos (wanted_some rfl rfl rfl (by rw [hsz]; exact of_decide_eq_true rfl) d31)]
          refine grow_same (v := .slice A9 40 C9) ?_ ⟨_, _, rfl, (HR9.out.below hb)⟩
          clear old dep ho hsz hb
          go_simp
        | 33, ho =>
          obtain rfl := Option.some.inj ho
          obtain ⟨A32, C32, d32, r32⟩ : ∃ A c, a.tmps.getD 76 undef = .slice A 40 c ∧ Rd w2 (.slice A 40 c) (u8s (encB t k v)) := dep 32 _ _ (by kernel_rfl) rfl rfl
          have e32 : a.tmps[76]?.getD undef = _ := (Array.getD_eq_getD_getElem? ..).symm.trans d32
          have d31 : a.tmps.getD 75 undef = .bool true := dep 31 _ _ (by kernel_rfl) rfl rfl
          have e31 : a.tmps[75]?.getD undef = _ := (Array.getD_eq_getD_getElem? ..).symm.trans d31
          rw [if_pos (wanted_some rfl rfl rfl (by rw [hsz]; exact of_decide_eq_true rfl) d31)]
          refine grow_same (v := .slice A32 2 C32) (exec_low (x := .tmp 76) 2 rfl d32 (Nat.le_trans (show 2 ≤ 40 by decide) (rd_cap r32))) ⟨_, _, rfl, Rd.low r32 (by decide)⟩
        | 34, ho =>
          obtain rfl := Option.some.inj ho
          obtain ⟨A33, C33, d33, r33⟩ : ∃ A c, a.tmps.getD 77 undef = .slice A 2 c ∧ Rd w2 (.slice A 2 c) (u8s ((encB t k v).take 2)) := dep 33 _ _ (by kernel_rfl) rfl rfl
          have e33 : a.tmps[77]?.getD undef = _ := (Array.getD_eq_getD_getElem? ..).symm.trans d33
          have d31 : a.tmps.getD 75 undef = .bool true := dep 31 _ _ (by kernel_rfl) rfl rfl
          have e31 : a.tmps[75]?.getD undef = _ := (Array.getD_eq_getD_getElem? ..).symm.trans d31
          rw [if_pos (wanted_some rfl rfl rfl (by rw [hsz]; exact of_decide_eq_true rfl) d31)]
          have hcv := conv_rdn (by rw [List.length_take, HL.out]; decide) r33
          refine grow_same (v := .string ⟨((encB t k v).take 2).toArray⟩) ?_ rfl
          clear old dep ho hsz hb r33
          go_simp
        | 35, ho =>
          obtain rfl := Option.some.inj ho
          have o11 : a.tmps.getD 11 undef = _ := old 11 (by kernel_rfl)
          have d31 : a.tmps.getD 75 undef = .bool true := dep 31 _ _ (by kernel_rfl) rfl rfl
          have e31 : a.tmps[75]?.getD undef = _ := (Array.getD_eq_getD_getElem? ..).symm.trans d31
          rw [if_pos (wanted_some rfl rfl rfl (by rw [hsz]; exact of_decide_eq_true rfl) d31)]
          refine grow_same (v := .slice A11 40 C11) ?_ ⟨_, _, rfl, (HR11.out.below hb)⟩
          clear old dep ho hsz hb
          go_simp
        | 36, ho =>
          obtain rfl := Option.some.inj ho
          obtain ⟨A35, C35, d35, r35⟩ : ∃ A c, a.tmps.getD 79 undef = .slice A 40 c ∧ Rd w2 (.slice A 40 c) (u8s (encB t key v)) := dep 35 _ _ (by kernel_rfl) rfl rfl
          have e35 : a.tmps[79]?.getD undef = _ := (Array.getD_eq_getD_getElem? ..).symm.trans d35
          have d31 : a.tmps.getD 75 undef = .bool true := dep 31 _ _ (by kernel_rfl) rfl rfl
          have e31 : a.tmps[75]?.getD undef = _ := (Array.getD_eq_getD_getElem? ..).symm.trans d31
          rw [if_pos (wanted_some rfl rfl rfl (by rw [hsz]; exact of_decide_eq_true rfl) d31)]
          refine grow_same (v := .slice A35 2 C35) (exec_low (x := .tmp 79) 2 rfl d35 (Nat.le_trans (show 2 ≤ 40 by decide) (rd_cap r35))) ⟨_, _, rfl, Rd.low r35 (by decide)⟩
        | 37, ho =>
          obtain rfl := Option.some.inj ho
          obtain ⟨A36, C36, d36, r36⟩ : ∃ A c, a.tmps.getD 80 undef = .slice A 2 c ∧ Rd w2 (.slice A 2 c) (u8s ((encB t key v).take 2)) := dep 36 _ _ (by kernel_rfl) rfl rfl
          have e36 : a.tmps[80]?.getD undef = _ := (Array.getD_eq_getD_getElem? ..).symm.trans d36
          have d31 : a.tmps.getD 75 undef = .bool true := dep 31 _ _ (by kernel_rfl) rfl rfl
          have e31 : a.tmps[75]?.getD undef = _ := (Array.getD_eq_getD_getElem? ..).symm.trans d31
          rw [if_pos (wanted_some rfl rfl rfl (by rw [hsz]; exact of_decide_eq_true rfl) d31)]
          have hcv := conv_rdn (by rw [List.length_take, HLT.out]; decide) r36
          refine grow_same (v := .string ⟨((encB t key v).take 2).toArray⟩) ?_ rfl
          clear old dep ho hsz hb r36
          go_simp
        | 38, ho =>
          obtain rfl := Option.some.inj ho
          have d34 : a.tmps.getD 78 undef = .string ⟨((encB t k v).take 2).toArray⟩ := dep 34 _ _ (by kernel_rfl) rfl rfl
          have e34 : a.tmps[78]?.getD undef = _ := (Array.getD_eq_getD_getElem? ..).symm.trans d34
          have d37 : a.tmps.getD 81 undef = .string ⟨((encB t key v).take 2).toArray⟩ := dep 37 _ _ (by kernel_rfl) rfl rfl
          have e37 : a.tmps[81]?.getD undef = _ := (Array.getD_eq_getD_getElem? ..).symm.trans d37
          have d31 : a.tmps.getD 75 undef = .bool true := dep 31 _ _ (by kernel_rfl) rfl rfl
          have e31 : a.tmps[75]?.getD undef = _ := (Array.getD_eq_getD_getElem? ..).symm.trans d31
          rw [if_pos (wanted_some rfl rfl rfl (by rw [hsz]; exact of_decide_eq_true rfl) d31)]
          have hq := HQ3.out
          refine grow_same (v := .bool true) ?_ rfl
          clear old dep ho hsz hb
          go_simp
        | 39, ho =>
          obtain rfl := Option.some.inj ho
          have d31 : a.tmps.getD 75 undef = .bool true := dep 31 _ _ (by kernel_rfl) rfl rfl
          have e31 : a.tmps[75]?.getD undef = _ := (Array.getD_eq_getD_getElem? ..).symm.trans d31
          have d38 : a.tmps.getD 82 undef = .bool true := dep 38 _ _ (by kernel_rfl) rfl rfl
          have e38 : a.tmps[82]?.getD undef = _ := (Array.getD_eq_getD_getElem? ..).symm.trans d38
          rw [if_pos (wanted_none rfl)]
          refine grow_same (v := .bool true) ?_ rfl
          clear old dep ho hsz hb
          go_simp
        | 40, ho =>
          obtain rfl := Option.some.inj ho
          have d39 : a.tmps.getD 83 undef = .bool true := dep 39 _ _ (by kernel_rfl) rfl rfl
          have e39 : a.tmps[83]?.getD undef = _ := (Array.getD_eq_getD_getElem? ..).symm.trans d39
          rw [if_pos (wanted_none rfl)]
          refine grow_same (v := .bool true) ?_ rfl
          clear old dep ho hsz hb
          go_simp
        | i + 41, ho => exact absurd ho (by simp)
      · intro a w6 hb hsz hdf fin keep
        obtain ⟨tm, df⟩ := a
        have hx := frame_of [44, 45, 46, 47, 48, 49, 50, 51, 52, 53, 54, 55, 56, 57, 58, 59, 60, 61, 62, 63, 64, 65, 66, 67, 68, 69, 70, 71, 72, 73, 74, 75, 76, 77, 78, 79, 80, 81, 82, 83, 6] (by kernel_rfl) hsz keep
        dsimp only at hdf hx
        simp only [List.foldl_cons, List.foldl_nil] at hx
        subst hdf
        clear hsz keep
        obtain ⟨A44, C44, kn, R44⟩ : ∃ A c, tm.getD 44 undef = .slice A 40 c ∧ Rd w6 (.slice A 40 c) (u8s (encB t k v)) := fin 0 _ _ rfl rfl
        rw [kn] at hx
        clear kn
        clear R44
        have kn : tm.getD 45 undef = .int .i64 40 := fin 1 _ _ rfl rfl
        rw [kn] at hx
        clear kn
        have kn : tm.getD 46 undef = .bool true := fin 2 _ _ rfl rfl
        rw [kn] at hx
        clear kn
        have kn : tm.getD 47 undef = .bool true := fin 3 _ _ rfl rfl
        rw [kn] at hx
        clear kn
        obtain ⟨A48, C48, kn, R48⟩ : ∃ A c, tm.getD 48 undef = .slice A 40 c ∧ Rd w6 (.slice A 40 c) (u8s (encB t k value)) := fin 4 _ _ rfl rfl
        rw [kn] at hx
        clear kn
        clear R48
        have kn : tm.getD 49 undef = .int .i64 40 := fin 5 _ _ rfl rfl
        rw [kn] at hx
        clear kn
        have kn : tm.getD 50 undef = .bool true := fin 6 _ _ rfl rfl
        rw [kn] at hx
        clear kn
        have kn : tm.getD 51 undef = .bool true := fin 7 _ _ rfl rfl
        rw [kn] at hx
        clear kn
        have kn : tm.getD 52 undef = .bool true := fin 8 _ _ rfl rfl
        rw [kn] at hx
        clear kn
        obtain ⟨A53, C53, kn, R53⟩ : ∃ A c, tm.getD 53 undef = .slice A 40 c ∧ Rd w6 (.slice A 40 c) (u8s (encB t key v)) := fin 9 _ _ rfl rfl
        rw [kn] at hx
        clear kn
        clear R53
        have kn : tm.getD 54 undef = .int .i64 40 := fin 10 _ _ rfl rfl
        rw [kn] at hx
        clear kn
        have kn : tm.getD 55 undef = .bool true := fin 11 _ _ rfl rfl
        rw [kn] at hx
        clear kn
        have kn : tm.getD 56 undef = .bool true := fin 12 _ _ rfl rfl
        rw [kn] at hx
        clear kn
        have kn : tm.getD 57 undef = .bool true := fin 13 _ _ rfl rfl
        rw [kn] at hx
        clear kn
        obtain ⟨A58, C58, kn, R58⟩ : ∃ A c, tm.getD 58 undef = .slice A 40 c ∧ Rd w6 (.slice A 40 c) (u8s (encB t k v)) := fin 14 _ _ rfl rfl
        rw [kn] at hx
        clear kn
        clear R58
        obtain ⟨A59, C59, kn, R59⟩ : ∃ A c, tm.getD 59 undef = .slice A 18 c ∧ Rd w6 (.slice A 18 c) (u8s ((encB t k v).take 18)) := fin 15 _ _ rfl rfl
        rw [kn] at hx
        clear kn
        clear R59
        have kn : tm.getD 60 undef = .string ⟨((encB t k v).take 18).toArray⟩ := fin 16 _ _ rfl rfl
        rw [kn] at hx
        clear kn
        obtain ⟨A61, C61, kn, R61⟩ : ∃ A c, tm.getD 61 undef = .slice A 40 c ∧ Rd w6 (.slice A 40 c) (u8s (encB t k value)) := fin 17 _ _ rfl rfl
        rw [kn] at hx
        clear kn
        clear R61
        obtain ⟨A62, C62, kn, R62⟩ : ∃ A c, tm.getD 62 undef = .slice A 18 c ∧ Rd w6 (.slice A 18 c) (u8s ((encB t k value).take 18)) := fin 18 _ _ rfl rfl
        rw [kn] at hx
        clear kn
        clear R62
        have kn : tm.getD 63 undef = .string ⟨((encB t k value).take 18).toArray⟩ := fin 19 _ _ rfl rfl
        rw [kn] at hx
        clear kn
        have kn : tm.getD 64 undef = .bool true := fin 20 _ _ rfl rfl
        rw [kn] at hx
        clear kn
        have kn : tm.getD 65 undef = .bool true := fin 21 _ _ rfl rfl
        rw [kn] at hx
        clear kn
        have kn : tm.getD 66 undef = .bool true := fin 22 _ _ rfl rfl
        rw [kn] at hx
        clear kn
        obtain ⟨A67, C67, kn, R67⟩ : ∃ A c, tm.getD 67 undef = .slice A 40 c ∧ Rd w6 (.slice A 40 c) (u8s (encB t k v)) := fin 23 _ _ rfl rfl
        rw [kn] at hx
        clear kn
        clear R67
        obtain ⟨A68, C68, kn, R68⟩ : ∃ A c, tm.getD 68 undef = .slice A 22 c ∧ Rd w6 (.slice A 22 c) (u8s ((encB t k v).drop 18)) := fin 24 _ _ rfl rfl
        rw [kn] at hx
        clear kn
        clear R68
        have kn : tm.getD 69 undef = .string ⟨((encB t k v).drop 18).toArray⟩ := fin 25 _ _ rfl rfl
        rw [kn] at hx
        clear kn
        obtain ⟨A70, C70, kn, R70⟩ : ∃ A c, tm.getD 70 undef = .slice A 40 c ∧ Rd w6 (.slice A 40 c) (u8s (encB t key v)) := fin 26 _ _ rfl rfl
        rw [kn] at hx
        clear kn
        clear R70
        obtain ⟨A71, C71, kn, R71⟩ : ∃ A c, tm.getD 71 undef = .slice A 22 c ∧ Rd w6 (.slice A 22 c) (u8s ((encB t key v).drop 18)) := fin 27 _ _ rfl rfl
        rw [kn] at hx
        clear kn
        clear R71
        have kn : tm.getD 72 undef = .string ⟨((encB t key v).drop 18).toArray⟩ := fin 28 _ _ rfl rfl
        rw [kn] at hx
        clear kn
        have kn : tm.getD 73 undef = .bool true := fin 29 _ _ rfl rfl
        rw [kn] at hx
        clear kn
        have kn : tm.getD 74 undef = .bool true := fin 30 _ _ rfl rfl
        rw [kn] at hx
        clear kn
        have kn : tm.getD 75 undef = .bool true := fin 31 _ _ rfl rfl
        rw [kn] at hx
        clear kn
        obtain ⟨A76, C76, kn, R76⟩ : ∃ A c, tm.getD 76 undef = .slice A 40 c ∧ Rd w6 (.slice A 40 c) (u8s (encB t k v)) := fin 32 _ _ rfl rfl
        rw [kn] at hx
        clear kn
        clear R76
        obtain ⟨A77, C77, kn, R77⟩ : ∃ A c, tm.getD 77 undef = .slice A 2 c ∧ Rd w6 (.slice A 2 c) (u8s ((encB t k v).take 2)) := fin 33 _ _ rfl rfl
        rw [kn] at hx
        clear kn
        clear R77
        have kn : tm.getD 78 undef = .string ⟨((encB t k v).take 2).toArray⟩ := fin 34 _ _ rfl rfl
        rw [kn] at hx
        clear kn
        obtain ⟨A79, C79, kn, R79⟩ : ∃ A c, tm.getD 79 undef = .slice A 40 c ∧ Rd w6 (.slice A 40 c) (u8s (encB t key v)) := fin 35 _ _ rfl rfl
        rw [kn] at hx
        clear kn
        clear R79
        obtain ⟨A80, C80, kn, R80⟩ : ∃ A c, tm.getD 80 undef = .slice A 2 c ∧ Rd w6 (.slice A 2 c) (u8s ((encB t key v).take 2)) := fin 36 _ _ rfl rfl
        rw [kn] at hx
        clear kn
        clear R80
        have kn : tm.getD 81 undef = .string ⟨((encB t key v).take 2).toArray⟩ := fin 37 _ _ rfl rfl
        rw [kn] at hx
        clear kn
        have kn : tm.getD 82 undef = .bool true := fin 38 _ _ rfl rfl
        rw [kn] at hx
        clear kn
        have kn : tm.getD 83 undef = .bool true := fin 39 _ _ rfl rfl
        rw [kn] at hx
        clear kn
        have kn : tm.getD 6 undef = .bool true := fin 40 _ _ rfl rfl
        rw [kn] at hx
        clear kn
        clear fin
        simp only [List.setIfInBounds_toArray, List.set_cons_succ, List.set_cons_zero] at hx
        subst hx
        have T6 := T5.below hb
        go_wp2
        go_ret
        exact ⟨rfl, T6.le⟩
  · go_wp2
    have T4 : One w (((w3.alloc (.cells #[.int .i64 t, .string key, .string v] 23)).alloc (.cells #[.int .i64 t, .string k, .string value] 23)).drew) (.int .i64 t) (.string k) (.string v) := ((T3.alloc _).alloc _).drew
    have BS : Blk (((w3.alloc (.cells #[.int .i64 t, .string key, .string v] 23)).alloc (.cells #[.int .i64 t, .string k, .string value] 23)).drew) (w3.heap.size + 1) 23 #[.int .i64 t, .string k, .string value] := (heap_at _ _ (by simp))
    have BT : Blk (((w3.alloc (.cells #[.int .i64 t, .string key, .string v] 23)).alloc (.cells #[.int .i64 t, .string k, .string value] 23)).drew) (w3.heap.size) 23 #[.int .i64 t, .string key, .string v] := (Blk.alloc (heap_new w3 _) _)
    generalize (((w3.alloc (.cells #[.int .i64 t, .string key, .string v] 23)).alloc (.cells #[.int .i64 t, .string k, .string value] 23)).drew) = w4 at *
    obtain ⟨p41, p42, p43⟩ := T4.cells
    obtain ⟨s1, s2, s3⟩ := BS.three
    obtain ⟨x1, x2, x3⟩ := BT.three
    have hlt := hide T4.a.lt
    have hls := hide BS.lt
    have hlx := hide BT.lt
    clear hz
    refine region_grows [Say.is (.agg #[.int .i64 t, .string k, .string v]), Say.rd 40 (encB t k v), Say.is (.agg #[.int .i64 t, .string k, .string value]), Say.rd 40 (encB t k value), Say.is (.agg #[.int .i64 t, .string key, .string v]), Say.rd 40 (encB t key v), Say.rd 40 (encB t k v), Say.rd 40 (encB t k value), Say.rd 40 (encB t key v)] (by kernel_rfl) (by kernel_rfl) (by kernel_rfl) (by kernel_rfl) ?_ ?_
    · intro i o ho a w2 hb hsz old dep
      match i, ho with
      | 0, ho =>
        obtain rfl := Option.some.inj ho
        have o3 : a.tmps.getD 3 undef = _ := old 3 (by kernel_rfl)
        rw [if_pos (wanted_none rfl)]
        have g0 := (hb.cell (p := ⟨w.heap.size, 0, none⟩) hlt.out).trans p41
        have g1 := (hb.cell (p := ⟨w.heap.size, 1, none⟩) hlt.out).trans p42
        have g2 := (hb.cell (p := ⟨w.heap.size, 2, none⟩) hlt.out).trans p43
        refine grow_same (v := .agg #[.int .i64 t, .string k, .string v]) ?_ rfl
        clear old dep ho hsz hb
        go_simp
      | 1, ho =>
        obtain rfl := Option.some.inj ho
        have d0 : a.tmps.getD 38 undef = .agg #[.int .i64 t, .string k, .string v] := dep 0 _ _ (by kernel_rfl) rfl rfl
        have e0 : a.tmps[38]?.getD undef = _ := (Array.getD_eq_getD_getElem? ..).symm.trans d0
        rw [if_pos (wanted_none rfl)]
        refine grow_enters (f := 14) (args := #[.agg #[.int .i64 t, .string k, .string v]]) ?_ (encode_grow t k v _ hr)
        clear old dep ho hsz hb
        go_simp
      | 2, ho =>
        obtain rfl := Option.some.inj ho
        have o7 : a.tmps.getD 7 undef = _ := old 7 (by kernel_rfl)
        rw [if_pos (wanted_none rfl)]
        have g0 := (hb.cell (p := ⟨w3.heap.size + 1, 0, none⟩) hls.out).trans s1
        have g1 := (hb.cell (p := ⟨w3.heap.size + 1, 1, none⟩) hls.out).trans s2
        have g2 := (hb.cell (p := ⟨w3.heap.size + 1, 2, none⟩) hls.out).trans s3
        refine grow_same (v := .agg #[.int .i64 t, .string k, .string value]) ?_ rfl
        clear old dep ho hsz hb
        go_simp
      | 3, ho =>
        obtain rfl := Option.some.inj ho
        have d2 : a.tmps.getD 40 undef = .agg #[.int .i64 t, .string k, .string value] := dep 2 _ _ (by kernel_rfl) rfl rfl
        have e2 : a.tmps[40]?.getD undef = _ := (Array.getD_eq_getD_getElem? ..).symm.trans d2
        rw [if_pos (wanted_none rfl)]
        refine grow_enters (f := 14) (args := #[.agg #[.int .i64 t, .string k, .string value]]) ?_ (encode_grow t k value _ hrs)
        clear old dep ho hsz hb
        go_simp
      | 4, ho =>
        obtain rfl := Option.some.inj ho
        have o8 : a.tmps.getD 8 undef = _ := old 8 (by kernel_rfl)
        rw [if_pos (wanted_none rfl)]
        have g0 := (hb.cell (p := ⟨w3.heap.size, 0, none⟩) hlx.out).trans x1
        have g1 := (hb.cell (p := ⟨w3.heap.size, 1, none⟩) hlx.out).trans x2
        have g2 := (hb.cell (p := ⟨w3.heap.size, 2, none⟩) hlx.out).trans x3
        refine grow_same (v := .agg #[.int .i64 t, .string key, .string v]) ?_ rfl
        clear old dep ho hsz hb
        go_simp
      | 5, ho =>
        obtain rfl := Option.some.inj ho
        have d4 : a.tmps.getD 42 undef = .agg #[.int .i64 t, .string key, .string v] := dep 4 _ _ (by kernel_rfl) rfl rfl
        have e4 : a.tmps[42]?.getD undef = _ := (Array.getD_eq_getD_getElem? ..).symm.trans d4
        rw [if_pos (wanted_none rfl)]
        refine grow_enters (f := 14) (args := #[.agg #[.int .i64 t, .string key, .string v]]) ?_ (encode_grow t key v _ hrt)
        clear old dep ho hsz hb
        go_simp
      | 6, ho =>
        obtain rfl := Option.some.inj ho
        obtain ⟨A1, C1, d1, r1⟩ : ∃ A c, a.tmps.getD 39 undef = .slice A 40 c ∧ Rd w2 (.slice A 40 c) (u8s (encB t k v)) := dep 1 _ _ (by kernel_rfl) rfl rfl
        have e1 : a.tmps[39]?.getD undef = _ := (Array.getD_eq_getD_getElem? ..).symm.trans d1
        rw [if_pos (wanted_none rfl)]
        refine grow_same (v := .slice A1 40 C1) ?_ ⟨_, _, rfl, r1⟩
        clear old dep ho hsz hb r1
        go_simp
      | 7, ho =>
        obtain rfl := Option.some.inj ho
        obtain ⟨A3, C3, d3, r3⟩ : ∃ A c, a.tmps.getD 41 undef = .slice A 40 c ∧ Rd w2 (.slice A 40 c) (u8s (encB t k value)) := dep 3 _ _ (by kernel_rfl) rfl rfl
        have e3 : a.tmps[41]?.getD undef = _ := (Array.getD_eq_getD_getElem? ..).symm.trans d3
        rw [if_pos (wanted_none rfl)]
        refine grow_same (v := .slice A3 40 C3) ?_ ⟨_, _, rfl, r3⟩
        clear old dep ho hsz hb r3
        go_simp
      | 8, ho =>
        obtain rfl := Option.some.inj ho
        obtain ⟨A5, C5, d5, r5⟩ : ∃ A c, a.tmps.getD 43 undef = .slice A 40 c ∧ Rd w2 (.slice A 40 c) (u8s (encB t key v)) := dep 5 _ _ (by kernel_rfl) rfl rfl
        have e5 : a.tmps[43]?.getD undef = _ := (Array.getD_eq_getD_getElem? ..).symm.trans d5
        rw [if_pos (wanted_none rfl)]
        refine grow_same (v := .slice A5 40 C5) ?_ ⟨_, _, rfl, r5⟩
        clear old dep ho hsz hb r5
        go_simp
      | i + 9, ho => exact absurd ho (by simp)
    · intro a w5 hb hsz hdf fin keep
      obtain ⟨tm, df⟩ := a
      have hx := frame_of [38, 39, 40, 41, 42, 43, 9, 10, 11] (by kernel_rfl) hsz keep
      dsimp only at hdf hx
      simp only [List.foldl_cons, List.foldl_nil] at hx
      subst hdf
      clear hsz keep
      have kn : tm.getD 38 undef = .agg #[.int .i64 t, .string k, .string v] := fin 0 _ _ rfl rfl
      rw [kn] at hx
      clear kn
      obtain ⟨A39, C39, kn, R39⟩ : ∃ A c, tm.getD 39 undef = .slice A 40 c ∧ Rd w5 (.slice A 40 c) (u8s (encB t k v)) := fin 1 _ _ rfl rfl
      rw [kn] at hx
      clear kn
      clear R39
      have kn : tm.getD 40 undef = .agg #[.int .i64 t, .string k, .string value] := fin 2 _ _ rfl rfl
      rw [kn] at hx
      clear kn
      obtain ⟨A41, C41, kn, R41⟩ : ∃ A c, tm.getD 41 undef = .slice A 40 c ∧ Rd w5 (.slice A 40 c) (u8s (encB t k value)) := fin 3 _ _ rfl rfl
      rw [kn] at hx
      clear kn
      clear R41
      have kn : tm.getD 42 undef = .agg #[.int .i64 t, .string key, .string v] := fin 4 _ _ rfl rfl
      rw [kn] at hx
      clear kn
      obtain ⟨A43, C43, kn, R43⟩ : ∃ A c, tm.getD 43 undef = .slice A 40 c ∧ Rd w5 (.slice A 40 c) (u8s (encB t key v)) := fin 5 _ _ rfl rfl
      rw [kn] at hx
      clear kn
      clear R43
      obtain ⟨A9, C9, kn, R9⟩ : ∃ A c, tm.getD 9 undef = .slice A 40 c ∧ Rd w5 (.slice A 40 c) (u8s (encB t k v)) := fin 6 _ _ rfl rfl
      rw [kn] at hx
      clear kn
      obtain ⟨A10, C10, kn, R10⟩ : ∃ A c, tm.getD 10 undef = .slice A 40 c ∧ Rd w5 (.slice A 40 c) (u8s (encB t k value)) := fin 7 _ _ rfl rfl
      rw [kn] at hx
      clear kn
      obtain ⟨A11, C11, kn, R11⟩ : ∃ A c, tm.getD 11 undef = .slice A 40 c ∧ Rd w5 (.slice A 40 c) (u8s (encB t key v)) := fin 8 _ _ rfl rfl
      rw [kn] at hx
      clear kn
      clear fin
      simp only [List.setIfInBounds_toArray, List.set_cons_succ, List.set_cons_zero] at hx
      subst hx
      have T5 := T4.below hb
      have HR9 := hide R9
      have HR10 := hide R10
      have HR11 := hide R11
      clear hb hlt hls hlx p41 p42 p43 s1 s2 s3 x1 x2 x3 BS BT R9 R10 R11
      go_wp2
      refine region_grows [Say.rd 40 (encB t k v), Say.is (.int .i64 40), Say.is (.bool true), Say.is (.bool true), Say.rd 40 (encB t k value), Say.is (.int .i64 40), Say.is (.bool true), Say.is (.bool true), Say.is (.bool true), Say.rd 40 (encB t key v), Say.is (.int .i64 40), Say.is (.bool true), Say.is (.bool true), Say.is (.bool true), Say.rd 40 (encB t k v), Say.rd 18 ((encB t k v).take 18), Say.is (.string ⟨((encB t k v).take 18).toArray⟩), Say.rd 40 (encB t k value), Say.rd 18 ((encB t k value).take 18), Say.is (.string ⟨((encB t k value).take 18).toArray⟩), Say.is (.bool true), Say.is (.bool true), Say.is (.bool true), Say.rd 40 (encB t k v), Say.rd 22 ((encB t k v).drop 18), Say.is (.string ⟨((encB t k v).drop 18).toArray⟩), Say.rd 40 (encB t key v), Say.rd 22 ((encB t key v).drop 18), Say.is (.string ⟨((encB t key v).drop 18).toArray⟩), Say.is (.bool true), Say.is (.bool true), Say.is (.bool true), Say.rd 40 (encB t k v), Say.rd 2 ((encB t k v).take 2), Say.is (.string ⟨((encB t k v).take 2).toArray⟩), Say.rd 40 (encB t key v), Say.rd 2 ((encB t key v).take 2), Say.is (.string ⟨((encB t key v).take 2).toArray⟩), Say.is (.bool true), Say.is (.bool true), Say.is (.bool true)] (by kernel_rfl) (by kernel_rfl) (by kernel_rfl) (by kernel_rfl) ?_ ?_
      · intro i o ho a w2 hb hsz old dep
        match i, ho with
        | 0, ho =>
          obtain rfl := Option.some.inj ho
          have o9 : a.tmps.getD 9 undef = _ := old 9 (by kernel_rfl)
          rw [if_pos (wanted_none rfl)]
          refine grow_same (v := .slice A9 40 C9) ?_ ⟨_, _, rfl, (HR9.out.below hb)⟩
          clear old dep ho hsz hb
          go_simp
        | 1, ho =>
          obtain rfl := Option.some.inj ho
          obtain ⟨A0, C0, d0, r0⟩ : ∃ A c, a.tmps.getD 44 undef = .slice A 40 c ∧ Rd w2 (.slice A 40 c) (u8s (encB t k v)) := dep 0 _ _ (by kernel_rfl) rfl rfl
          have e0 : a.tmps[44]?.getD undef = _ := (Array.getD_eq_getD_getElem? ..).symm.trans d0
          rw [if_pos (wanted_none rfl)]
          refine grow_same (v := .int .i64 40) ?_ rfl
          clear old dep ho hsz hb r0
          go_simp
        | 2, ho =>
          obtain rfl := Option.some.inj ho
          have d1 : a.tmps.getD 45 undef = .int .i64 40 := dep 1 _ _ (by kernel_rfl) rfl rfl
          have e1 : a.tmps[45]?.getD undef = _ := (Array.getD_eq_getD_getElem? ..).symm.trans d1
          rw [if_pos (wanted_none rfl)]
          refine grow_same (v := .bool true) ?_ rfl
          clear old dep ho hsz hb
          go_simp
        | 3, ho =>
          obtain rfl := Option.some.inj ho
          have d2 : a.tmps.getD 46 undef = .bool true := dep 2 _ _ (by kernel_rfl) rfl rfl
          have e2 : a.tmps[46]?.getD undef = _ := (Array.getD_eq_getD_getElem? ..).symm.trans d2
          rw [if_pos (wanted_none rfl)]
          refine grow_same (v := .bool true) ?_ rfl
          clear old dep ho hsz hb
          go_simp
        | 4, ho =>
          obtain rfl := Option.some.inj ho
          have o10 : a.tmps.getD 10 undef = _ := old 10 (by kernel_rfl)
          have d3 : a.tmps.getD 47 undef = .bool true := dep 3 _ _ (by kernel_rfl) rfl rfl
          have e3 : a.tmps[47]?.getD undef = _ := (Array.getD_eq_getD_getElem? ..).symm.trans d3
          rw [if_pos (wanted_some rfl rfl rfl (by rw [hsz]; exact of_decide_eq_true rfl) d3)]
          refine grow_same (v := .slice A10 40 C10) ?_ ⟨_, _, rfl, (HR10.out.below hb)⟩
          clear old dep ho hsz hb
          go_simp
        | 5, ho =>
          obtain rfl := Option.some.inj ho
          obtain ⟨A4, C4, d4, r4⟩ : ∃ A c, a.tmps.getD 48 undef = .slice A 40 c ∧ Rd w2 (.slice A 40 c) (u8s (encB t k value)) := dep 4 _ _ (by kernel_rfl) rfl rfl
          have e4 : a.tmps[48]?.getD undef = _ := (Array.getD_eq_getD_getElem? ..).symm.trans d4
          have d3 : a.tmps.getD 47 undef = .bool true := dep 3 _ _ (by kernel_rfl) rfl rfl
          have e3 : a.tmps[47]?.getD undef = _ := (Array.getD_eq_getD_getElem? ..).symm.trans d3
          rw [if_pos (wanted_some rfl rfl rfl (by rw [hsz]; exact of_decide_eq_true rfl) d3)]
          refine grow_same (v := .int .i64 40) ?_ rfl
          clear old dep ho hsz hb r4
          go_simp
        | 6, ho =>
          obtain rfl := Option.some.inj ho
          have d5 : a.tmps.getD 49 undef = .int .i64 40 := dep 5 _ _ (by kernel_rfl) rfl rfl
          have e5 : a.tmps[49]?.getD undef = _ := (Array.getD_eq_getD_getElem? ..).symm.trans d5
          have d3 : a.tmps.getD 47 undef = .bool true := dep 3 _ _ (by kernel_rfl) rfl rfl
          have e3 : a.tmps[47]?.getD undef = _ := (Array.getD_eq_getD_getElem? ..).symm.trans d3
          rw [if_pos (wanted_some rfl rfl rfl (by rw [hsz]; exact of_decide_eq_true rfl) d3)]
          refine grow_same (v := .bool true) ?_ rfl
          clear old dep ho hsz hb
          go_simp
        | 7, ho =>
          obtain rfl := Option.some.inj ho
          have d3 : a.tmps.getD 47 undef = .bool true := dep 3 _ _ (by kernel_rfl) rfl rfl
          have e3 : a.tmps[47]?.getD undef = _ := (Array.getD_eq_getD_getElem? ..).symm.trans d3
          have d6 : a.tmps.getD 50 undef = .bool true := dep 6 _ _ (by kernel_rfl) rfl rfl
          have e6 : a.tmps[50]?.getD undef = _ := (Array.getD_eq_getD_getElem? ..).symm.trans d6
          rw [if_pos (wanted_none rfl)]
          refine grow_same (v := .bool true) ?_ rfl
          clear old dep ho hsz hb
          go_simp
        | 8, ho =>
          obtain rfl := Option.some.inj ho
          have d7 : a.tmps.getD 51 undef = .bool true := dep 7 _ _ (by kernel_rfl) rfl rfl
          have e7 : a.tmps[51]?.getD undef = _ := (Array.getD_eq_getD_getElem? ..).symm.trans d7
          rw [if_pos (wanted_none rfl)]
          refine grow_same (v := .bool true) ?_ rfl
          clear old dep ho hsz hb
          go_simp
        | 9, ho =>
          obtain rfl := Option.some.inj ho
          have o11 : a.tmps.getD 11 undef = _ := old 11 (by kernel_rfl)
          have d8 : a.tmps.getD 52 undef = .bool true := dep 8 _ _ (by kernel_rfl) rfl rfl
          have e8 : a.tmps[52]?.getD undef = _ := (Array.getD_eq_getD_getElem? ..).symm.trans d8
          rw [if_pos (wanted_some rfl rfl rfl (by rw [hsz]; exact of_decide_eq_true rfl) d8)]
          refine grow_same (v := .slice A11 40 C11) ?_ ⟨_, _, rfl, (HR11.out.below hb)⟩
          clear old dep ho hsz hb
          go_simp
        | 10, ho =>
          obtain rfl := Option.some.inj ho
          obtain ⟨A9, C9, d9, r9⟩ : ∃ A c, a.tmps.getD 53 undef = .slice A 40 c ∧ Rd w2 (.slice A 40 c) (u8s (encB t key v)) := dep 9 _ _ (by kernel_rfl) rfl rfl
          have e9 : a.tmps[53]?.getD undef = _ := (Array.getD_eq_getD_getElem? ..).symm.trans d9
          have d8 : a.tmps.getD 52 undef = .bool true := dep 8 _ _ (by kernel_rfl) rfl rfl
          have e8 : a.tmps[52]?.getD undef = _ := (Array.getD_eq_getD_getElem? ..).symm.trans d8
          rw [if_pos (wanted_some rfl rfl rfl (by rw [hsz]; exact of_decide_eq_true rfl) d8)]
          refine grow_same (v := .int .i64 40) ?_ rfl
          clear old dep ho hsz hb r9
          go_simp
        | 11, ho =>
          obtain rfl := Option.some.inj ho
          have d10 : a.tmps.getD 54 undef = .int .i64 40 := dep 10 _ _ (by kernel_rfl) rfl rfl
          have e10 : a.tmps[54]?.getD undef = _ := (Array.getD_eq_getD_getElem? ..).symm.trans d10
          have d8 : a.tmps.getD 52 undef = .bool true := dep 8 _ _ (by kernel_rfl) rfl rfl
          have e8 : a.tmps[52]?.getD undef = _ := (Array.getD_eq_getD_getElem? ..).symm.trans d8
          rw [if_pos (wanted_some rfl rfl rfl (by rw [hsz]; exact of_decide_eq_true rfl) d8)]
          refine grow_same (v := .bool true) ?_ rfl
          clear old dep ho hsz hb
          go_simp
        | 12, ho =>
          obtain rfl := Option.some.inj ho
          have d8 : a.tmps.getD 52 undef = .bool true := dep 8 _ _ (by kernel_rfl) rfl rfl
          have e8 : a.tmps[52]?.getD undef = _ := (Array.getD_eq_getD_getElem? ..).symm.trans d8
          have d11 : a.tmps.getD 55 undef = .bool true := dep 11 _ _ (by kernel_rfl) rfl rfl
          have e11 : a.tmps[55]?.getD undef = _ := (Array.getD_eq_getD_getElem? ..).symm.trans d11
          rw [if_pos (wanted_none rfl)]
          refine grow_same (v := .bool true) ?_ rfl
          clear old dep ho hsz hb
          go_simp
        | 13, ho =>
          obtain rfl := Option.some.inj ho
          have d12 : a.tmps.getD 56 undef = .bool true := dep 12 _ _ (by kernel_rfl) rfl rfl
          have e12 : a.tmps[56]?.getD undef = _ := (Array.getD_eq_getD_getElem? ..).symm.trans d12
          rw [if_pos (wanted_none rfl)]
          refine grow_same (v := .bool true) ?_ rfl
          clear old dep ho hsz hb
          go_simp
        | 14, ho =>
          obtain rfl := Option.some.inj ho
          have o9 : a.tmps.getD 9 undef = _ := old 9 (by kernel_rfl)
          have d13 : a.tmps.getD 57 undef = .bool true := dep 13 _ _ (by kernel_rfl) rfl rfl
          have e13 : a.tmps[57]?.getD undef = _ := (Array.getD_eq_getD_getElem? ..).symm.trans d13
          rw [if_pos (wanted_some rfl rfl rfl (by rw [hsz]; exact of_decide_eq_true rfl) d13)]
          refine grow_same (v := .slice A9 40 C9) ?_ ⟨_, _, rfl, (HR9.out.below hb)⟩
          clear old dep ho hsz hb
          go_simp
        | 15, ho =>
          obtain rfl := Option.some.inj ho
          obtain ⟨A14, C14, d14, r14⟩ : ∃ A c, a.tmps.getD 58 undef = .slice A 40 c ∧ Rd w2 (.slice A 40 c) (u8s (encB t k v)) := dep 14 _ _ (by kernel_rfl) rfl rfl
          have e14 : a.tmps[58]?.getD undef = _ := (Array.getD_eq_getD_getElem? ..).symm.trans d14
          have d13 : a.tmps.getD 57 undef = .bool true := dep 13 _ _ (by kernel_rfl) rfl rfl
          have e13 : a.tmps[57]?.getD undef = _ := (Array.getD_eq_getD_getElem? ..).symm.trans d13
          rw [if_pos (wanted_some rfl rfl rfl (by rw [hsz]; exact of_decide_eq_true rfl) d13)]
          refine grow_same (v := .slice A14 18 C14) (exec_low (x := .tmp 58) 18 rfl d14 (Nat.le_trans (show 18 ≤ 40 by decide) (rd_cap r14))) ⟨_, _, rfl, Rd.low r14 (by decide)⟩
        | 16, ho =>
          obtain rfl := Option.some.inj ho
          obtain ⟨A15, C15, d15, r15⟩ : ∃ A c, a.tmps.getD 59 undef = .slice A 18 c ∧ Rd w2 (.slice A 18 c) (u8s ((encB t k v).take 18)) := dep 15 _ _ (by kernel_rfl) rfl rfl
          have e15 : a.tmps[59]?.getD undef = _ := (Array.getD_eq_getD_getElem? ..).symm.trans d15
          have d13 : a.tmps.getD 57 undef = .bool true := dep 13 _ _ (by kernel_rfl) rfl rfl
          have e13 : a.tmps[57]?.getD undef = _ := (Array.getD_eq_getD_getElem? ..).symm.trans d13
          rw [if_pos (wanted_some rfl rfl rfl (by rw [hsz]; exact of_decide_eq_true rfl) d13)]
          have hcv := conv_rdn (by rw [List.length_take, HL.out]; decide) r15
          refine grow_same (v := .string ⟨((encB t k v).take 18).toArray⟩) ?_ rfl
          clear old dep ho hsz hb r15
          go_simp
        | 17, ho =>
          obtain rfl := Option.some.inj ho
          have o10 : a.tmps.getD 10 undef = _ := old 10 (by kernel_rfl)
          have d13 : a.tmps.getD 57 undef = .bool true := dep 13 _ _ (by kernel_rfl) rfl rfl
          have e13 : a.tmps[57]?.getD undef = _ := (Array.getD_eq_getD_getElem? ..).symm.trans d13
          rw [if_pos (wanted_some rfl rfl rfl (by rw [hsz]; exact of_decide_eq_true rfl) d13)]
          refine grow_same (v := .slice A10 40 C10) ?_ ⟨_, _, rfl, (HR10.out.below hb)⟩
          clear old dep ho hsz hb
          go_simp
        | 18, ho =>
          obtain rfl := Option.some.inj ho
          obtain ⟨A17, C17, d17, r17⟩ : ∃ A c, a.tmps.getD 61 undef = .slice A 40 c ∧ Rd w2 (.slice A 40 c) (u8s (encB t k value)) := dep 17 _ _ (by kernel_rfl) rfl rfl
          have e17 : a.tmps[61]?.getD undef = _ := (Array.getD_eq_getD_getElem? ..).symm.trans d17
          have d13 : a.tmps.getD 57 undef = .bool true := dep 13 _ _ (by kernel_rfl) rfl rfl
          have e13 : a.tmps[57]?.getD undef = _ := (Array.getD_eq_getD_getElem? ..).symm.trans d13
          rw [if_pos (wanted_some rfl rfl rfl (by rw [hsz]; exact of_decide_eq_true rfl) d13)]
          refine grow_same (v := .slice A17 18 C17) (exec_low (x := .tmp 61) 18 rfl d17 (Nat.le_trans (show 18 ≤ 40 by decide) (rd_cap r17))) ⟨_, _, rfl, Rd.low r17 (by decide)⟩
        | 19, ho =>
          obtain rfl := Option.some.inj ho
          obtain ⟨A18, C18, d18, r18⟩ : ∃ A c, a.tmps.getD 62 undef = .slice A 18 c ∧ Rd w2 (.slice A 18 c) (u8s ((encB t k value).take 18)) := dep 18 _ _ (by kernel_rfl) rfl rfl
          have e18 : a.tmps[62]?.getD undef = _ := (Array.getD_eq_getD_getElem? ..).symm.trans d18
          have d13 : a.tmps.getD 57 undef = .bool true := dep 13 _ _ (by kernel_rfl) rfl rfl
          have e13 : a.tmps[57]?.getD undef = _ := (Array.getD_eq_getD_getElem? ..).symm.trans d13
          rw [if_pos (wanted_some rfl rfl rfl (by rw [hsz]; exact of_decide_eq_true rfl) d13)]
          have hcv := conv_rdn (by rw [List.length_take, HLS.out]; decide) r18
          refine grow_same (v := .string ⟨((encB t k value).take 18).toArray⟩) ?_ rfl
          clear old dep ho hsz hb r18
          go_simp
        | 20, ho =>
          obtain rfl := Option.some.inj ho
          have d16 : a.tmps.getD 60 undef = .string ⟨((encB t k v).take 18).toArray⟩ := dep 16 _ _ (by kernel_rfl) rfl rfl
          have e16 : a.tmps[60]?.getD undef = _ := (Array.getD_eq_getD_getElem? ..).symm.trans d16
          have d19 : a.tmps.getD 63 undef = .string ⟨((encB t k value).take 18).toArray⟩ := dep 19 _ _ (by kernel_rfl) rfl rfl
          have e19 : a.tmps[63]?.getD undef = _ := (Array.getD_eq_getD_getElem? ..).symm.trans d19
          have d13 : a.tmps.getD 57 undef = .bool true := dep 13 _ _ (by kernel_rfl) rfl rfl
          have e13 : a.tmps[57]?.getD undef = _ := (Array.getD_eq_getD_getElem? ..).symm.trans d13
          rw [if_pos (wanted_some rfl rfl rfl (by rw [hsz]; exact of_decide_eq_true rfl) d13)]
          have hq := HQ1.out
          refine grow_same (v := .bool true) ?_ rfl
          clear old dep ho hsz hb
          go_simp
        | 21, ho =>
          obtain rfl := Option.some.inj ho
          have d13 : a.tmps.getD 57 undef = .bool true := dep 13 _ _ (by kernel_rfl) rfl rfl
          have e13 : a.tmps[57]?.getD undef = _ := (Array.getD_eq_getD_getElem? ..).symm.trans d13
          have d20 : a.tmps.getD 64 undef = .bool true := dep 20 _ _ (by kernel_rfl) rfl rfl
          have e20 : a.tmps[64]?.getD undef = _ := (Array.getD_eq_getD_getElem? ..).symm.trans d20
          rw [if_pos (wanted_none rfl)]
          refine grow_same (v := .bool true) ?_ rfl
          clear old dep ho hsz hb
          go_simp
        | 22, ho =>
          obtain rfl := Option.some.inj ho
          have d21 : a.tmps.getD 65 undef = .bool true := dep 21 _ _ (by kernel_rfl) rfl rfl
          have e21 : a.tmps[65]?.getD undef = _ := (Array.getD_eq_getD_getElem? ..).symm.trans d21
          rw [if_pos (wanted_none rfl)]
          refine grow_same (v := .bool true) ?_ rfl
          clear old dep ho hsz hb
          go_simp
        | 23, ho =>
          obtain rfl := Option.some.inj ho
          have o9 : a.tmps.getD 9 undef = _ := old 9 (by kernel_rfl)
          have d22 : a.tmps.getD 66 undef = .bool true := dep 22 _ _ (by kernel_rfl) rfl rfl
          have e22 : a.tmps[66]?.getD undef = _ := (Array.getD_eq_getD_getElem? ..).symm.trans d22
          rw [if_pos (wanted_some rfl rfl rfl (by rw [hsz]; exact of_decide_eq_true rfl) d22)]
          refine grow_same (v := .slice A9 40 C9) ?_ ⟨_, _, rfl, (HR9.out.below hb)⟩
          clear old dep ho hsz hb
          go_simp
        | 24, ho =>
          obtain rfl := Option.some.inj ho
          obtain ⟨A23, C23, d23, r23⟩ : ∃ A c, a.tmps.getD 67 undef = .slice A 40 c ∧ Rd w2 (.slice A 40 c) (u8s (encB t k v)) := dep 23 _ _ (by kernel_rfl) rfl rfl
          have e23 : a.tmps[67]?.getD undef = _ := (Array.getD_eq_getD_getElem? ..).symm.trans d23
          have d22 : a.tmps.getD 66 undef = .bool true := dep 22 _ _ (by kernel_rfl) rfl rfl
          have e22 : a.tmps[66]?.getD undef = _ := (Array.getD_eq_getD_getElem? ..).symm.trans d22
          rw [if_pos (wanted_some rfl rfl rfl (by rw [hsz]; exact of_decide_eq_true rfl) d22)]
          refine grow_same (v := .slice (hiA A23 C23 18) 22 (C23 - 18)) (exec_high (x := .tmp 67) 18 rfl d23 (by decide)) ⟨_, _, rfl, Rd.high r23 (by decide)⟩
        | 25, ho =>
          obtain rfl := Option.some.inj ho
          obtain ⟨A24, C24, d24, r24⟩ : ∃ A c, a.tmps.getD 68 undef = .slice A 22 c ∧ Rd w2 (.slice A 22 c) (u8s ((encB t k v).drop 18)) := dep 24 _ _ (by kernel_rfl) rfl rfl
          have e24 : a.tmps[68]?.getD undef = _ := (Array.getD_eq_getD_getElem? ..).symm.trans d24
          have d22 : a.tmps.getD 66 undef = .bool true := dep 22 _ _ (by kernel_rfl) rfl rfl
          have e22 : a.tmps[66]?.getD undef = _ := (Array.getD_eq_getD_getElem? ..).symm.trans d22
          rw [if_pos (wanted_some rfl rfl rfl (by rw [hsz]; exact of_decide_eq_true rfl) d22)]
          have hcv := conv_rdn (by rw [List.length_drop, HL.out]) r24
          refine grow_same (v := .string ⟨((encB t k v).drop 18).toArray⟩) ?_ rfl
          clear old dep ho hsz hb r24
          go_simp
        | 26, ho =>
          obtain rfl := Option.some.inj ho
          have o11 : a.tmps.getD 11 undef = _ := old 11 (by kernel_rfl)
          have d22 : a.tmps.getD 66 undef = .bool true := dep 22 _ _ (by kernel_rfl) rfl rfl
          have e22 : a.tmps[66]?.getD undef = _ := (Array.getD_eq_getD_getElem? ..).symm.trans d22
          rw [if_pos (wanted_some rfl rfl rfl (by rw [hsz]; exact of_decide_eq_true rfl) d22)]
          refine grow_same (v := .slice A11 40 C11) ?_ ⟨_, _, rfl, (HR11.out.below hb)⟩
          clear old dep ho hsz hb
          go_simp
        | 27, ho =>
          obtain rfl := Option.some.inj ho
          obtain ⟨A26, C26, d26, r26⟩ : ∃ A c, a.tmps.getD 70 undef = .slice A 40 c ∧ Rd w2 (.slice A 40 c) (u8s (encB t key v)) := dep 26 _ _ (by kernel_rfl) rfl rfl
          have e26 : a.tmps[70]?.getD undef = _ := (Array.getD_eq_getD_getElem? ..).symm.trans d26
          have d22 : a.tmps.getD 66 undef = .bool true := dep 22 _ _ (by kernel_rfl) rfl rfl
          have e22 : a.tmps[66]?.getD undef = _ := (Array.getD_eq_getD_getElem? ..).symm.trans d22
          rw [if_pos (wanted_some rfl rfl rfl (by rw [hsz]; exact of_decide_eq_true rfl) d22)]
          refine grow_same (v := .slice (hiA A26 C26 18) 22 (C26 - 18)) (exec_high (x := .tmp 70) 18 rfl d26 (by decide)) ⟨_, _, rfl, Rd.high r26 (by decide)⟩
        | 28, ho =>
          obtain rfl := Option.some.inj ho
          obtain ⟨A27, C27, d27, r27⟩ : ∃ A c, a.tmps.getD 71 undef = .slice A 22 c ∧ Rd w2 (.slice A 22 c) (u8s ((encB t key v).drop 18)) := dep 27 _ _ (by kernel_rfl) rfl rfl
          have e27 : a.tmps[71]?.getD undef = _ := (Array.getD_eq_getD_getElem? ..).symm.trans d27
          have d22 : a.tmps.getD 66 undef = .bool true := dep 22 _ _ (by kernel_rfl) rfl rfl
          have e22 : a.tmps[66]?.getD undef = _ := (Array.getD_eq_getD_getElem? ..).symm.trans d22
          rw [if_pos (wanted_some rfl rfl rfl (by rw [hsz]; exact of_decide_eq_true rfl) d22)]
          have hcv := conv_rdn (by rw [List.length_drop, HLT.out]) r27
          refine grow_same (v := .string ⟨((encB t key v).drop 18).toArray⟩) ?_ rfl
          clear old dep ho hsz hb r27
          go_simp
        | 29, ho =>
          obtain rfl := Option.some.inj ho
          have d25 : a.tmps.getD 69 undef = .string ⟨((encB t k v).drop 18).toArray⟩ := dep 25 _ _ (by kernel_rfl) rfl rfl
          have e25 : a.tmps[69]?.getD undef = _ := (Array.getD_eq_getD_getElem? ..).symm.trans d25
          have d28 : a.tmps.getD 72 undef = .string ⟨((encB t key v).drop 18).toArray⟩ := dep 28 _ _ (by kernel_rfl) rfl rfl
          have e28 : a.tmps[72]?.getD undef = _ := (Array.getD_eq_getD_getElem? ..).symm.trans d28
          have d22 : a.tmps.getD 66 undef = .bool true := dep 22 _ _ (by kernel_rfl) rfl rfl
          have e22 : a.tmps[66]?.getD undef = _ := (Array.getD_eq_getD_getElem? ..).symm.trans d22
          rw [if_pos (wanted_some rfl rfl rfl (by rw [hsz]; exact of_decide_eq_true rfl) d22)]
          have hq := HQ2.out
          refine grow_same (v := .bool true) ?_ rfl
          clear old dep ho hsz hb
          go_simp
        | 30, ho =>
          obtain rfl := Option.some.inj ho
          have d22 : a.tmps.getD 66 undef = .bool true := dep 22 _ _ (by kernel_rfl) rfl rfl
          have e22 : a.tmps[66]?.getD undef = _ := (Array.getD_eq_getD_getElem? ..).symm.trans d22
          have d29 : a.tmps.getD 73 undef = .bool true := dep 29 _ _ (by kernel_rfl) rfl rfl
          have e29 : a.tmps[73]?.getD undef = _ := (Array.getD_eq_getD_getElem? ..).symm.trans d29
          rw [if_pos (wanted_none rfl)]
          refine grow_same (v := .bool true) ?_ rfl
          clear old dep ho hsz hb
          go_simp
        | 31, ho =>
          obtain rfl := Option.some.inj ho
          have d30 : a.tmps.getD 74 undef = .bool true := dep 30 _ _ (by kernel_rfl) rfl rfl
          have e30 : a.tmps[74]?.getD undef = _ := (Array.getD_eq_getD_getElem? ..).symm.trans d30
          rw [if_pos (wanted_none rfl)]
          refine grow_same (v := .bool true) ?_ rfl
          clear old dep ho hsz hb
          go_simp
        | 32, ho =>
          obtain rfl := Option.some.inj ho
          have o9 : a.tmps.getD 9 undef = _ := old 9 (by kernel_rfl)
          have d31 : a.tmps.getD 75 undef = .bool true := dep 31 _ _ (by kernel_rfl) rfl rfl
          have e31 : a.tmps[75]?.getD undef = _ := (Array.getD_eq_getD_getElem? ..).symm.trans d31
          rw [if_pos (wanted_some rfl rfl rfl (by rw [hsz]; exact of_decide_eq_true rfl) d31)]
          refine grow_same (v := .slice A9 40 C9) ?_ ⟨_, _, rfl, (HR9.out.below hb)⟩
          clear old dep ho hsz hb
          go_simp
        | 33, ho =>
          obtain rfl := Option.some.inj ho
          obtain ⟨A32, C32, d32, r32⟩ : ∃ A c, a.tmps.getD 76 undef = .slice A 40 c ∧ Rd w2 (.slice A 40 c) (u8s (encB t k v)) := dep 32 _ _ (by kernel_rfl) rfl rfl
          have e32 : a.tmps[76]?.getD undef = _ := (Array.getD_eq_getD_getElem? ..).symm.trans d32
          have d31 : a.tmps.getD 75 undef = .bool true := dep 31 _ _ (by kernel_rfl) rfl rfl
          have e31 : a.tmps[75]?.getD undef = _ := (Array.getD_eq_getD_getElem? ..).symm.trans d31
          rw [if_pos (wanted_some rfl rfl rfl (by rw [hsz]; exact of_decide_eq_true rfl) d31)]
          refine grow_same (v := .slice A32 2 C32) (exec_low (x := .tmp 76) 2 rfl d32 (Nat.le_trans (show 2 ≤ 40 by decide) (rd_cap r32))) ⟨_, _, rfl, Rd.low r32 (by decide)⟩
        | 34, ho =>
          obtain rfl := Option.some.inj ho
          obtain ⟨A33, C33, d33, r33⟩ : ∃ A c, a.tmps.getD 77 undef = .slice A 2 c ∧ Rd w2 (.slice A 2 c) (u8s ((encB t k v).take 2)) := dep 33 _ _ (by kernel_rfl) rfl rfl
          have e33 : a.tmps[77]?.getD undef = _ := (Array.getD_eq_getD_getElem? ..).symm.trans d33
          have d31 : a.tmps.getD 75 undef = .bool true := dep 31 _ _ (by kernel_rfl) rfl rfl
          have e31 : a.tmps[75]?.getD undef = _ := (Array.getD_eq_getD_getElem? ..).symm.trans d31
          rw [if_pos (wanted_some rfl rfl rfl (by rw [hsz]; exact of_decide_eq_true rfl) d31)]
          have hcv := conv_rdn (by rw [List.length_take, HL.out]; decide) r33
          refine grow_same (v := .string ⟨((encB t k v).take 2).toArray⟩) ?_ rfl
          clear old dep ho hsz hb r33
          go_simp
        | 35, ho =>
          obtain rfl := Option.some.inj ho
          have o11 : a.tmps.getD 11 undef = _ := old 11 (by kernel_rfl)
          have d31 : a.tmps.getD 75 undef = .bool true := dep 31 _ _ (by kernel_rfl) rfl rfl
          have e31 : a.tmps[75]?.getD undef = _ := (Array.getD_eq_getD_getElem? ..).symm.trans d31
          rw [if_pos (wanted_some rfl rfl rfl (by rw [hsz]; exact of_decide_eq_true rfl) d31)]
          refine grow_same (v := .slice A11 40 C11) ?_ ⟨_, _, rfl, (HR11.out.below hb)⟩
          clear old dep ho hsz hb
          go_simp
        | 36, ho =>
          obtain rfl := Option.some.inj ho
          obtain ⟨A35, C35, d35, r35⟩ : ∃ A c, a.tmps.getD 79 undef = .slice A 40 c ∧ Rd w2 (.slice A 40 c) (u8s (encB t key v)) := dep 35 _ _ (by kernel_rfl) rfl rfl
          have e35 : a.tmps[79]?.getD undef = _ := (Array.getD_eq_getD_getElem? ..).symm.trans d35
          have d31 : a.tmps.getD 75 undef = .bool true := dep 31 _ _ (by kernel_rfl) rfl rfl
          have e31 : a.tmps[75]?.getD undef = _ := (Array.getD_eq_getD_getElem? ..).symm.trans d31
          rw [if_pos (wanted_some rfl rfl rfl (by rw [hsz]; exact of_decide_eq_true rfl) d31)]
          refine grow_same (v := .slice A35 2 C35) (exec_low (x := .tmp 79) 2 rfl d35 (Nat.le_trans (show 2 ≤ 40 by decide) (rd_cap r35))) ⟨_, _, rfl, Rd.low r35 (by decide)⟩
        | 37, ho =>
          obtain rfl := Option.some.inj ho
          obtain ⟨A36, C36, d36, r36⟩ : ∃ A c, a.tmps.getD 80 undef = .slice A 2 c ∧ Rd w2 (.slice A 2 c) (u8s ((encB t key v).take 2)) := dep 36 _ _ (by kernel_rfl) rfl rfl
          have e36 : a.tmps[80]?.getD undef = _ := (Array.getD_eq_getD_getElem? ..).symm.trans d36
          have d31 : a.tmps.getD 75 undef = .bool true := dep 31 _ _ (by kernel_rfl) rfl rfl
          have e31 : a.tmps[75]?.getD undef = _ := (Array.getD_eq_getD_getElem? ..).symm.trans d31
          rw [if_pos (wanted_some rfl rfl rfl (by rw [hsz]; exact of_decide_eq_true rfl) d31)]
          have hcv := conv_rdn (by rw [List.length_take, HLT.out]; decide) r36
          refine grow_same (v := .string ⟨((encB t key v).take 2).toArray⟩) ?_ rfl
          clear old dep ho hsz hb r36
          go_simp
        | 38, ho =>
          obtain rfl := Option.some.inj ho
          have d34 : a.tmps.getD 78 undef = .string ⟨((encB t k v).take 2).toArray⟩ := dep 34 _ _ (by kernel_rfl) rfl rfl
          have e34 : a.tmps[78]?.getD undef = _ := (Array.getD_eq_getD_getElem? ..).symm.trans d34
          have d37 : a.tmps.getD 81 undef = .string ⟨((encB t key v).take 2).toArray⟩ := dep 37 _ _ (by kernel_rfl) rfl rfl
          have e37 : a.tmps[81]?.getD undef = _ := (Array.getD_eq_getD_getElem? ..).symm.trans d37
          have d31 : a.tmps.getD 75 undef = .bool true := dep 31 _ _ (by kernel_rfl) rfl rfl
          have e31 : a.tmps[75]?.getD undef = _ := (Array.getD_eq_getD_getElem? ..).symm.trans d31
          rw [if_pos (wanted_some rfl rfl rfl (by rw [hsz]; exact of_decide_eq_true rfl) d31)]
          have hq := HQ3.out
          refine grow_same (v := .bool true) ?_ rfl
          clear old dep ho hsz hb
          go_simp
        | 39, ho =>
          obtain rfl := Option.some.inj ho
          have d31 : a.tmps.getD 75 undef = .bool true := dep 31 _ _ (by kernel_rfl) rfl rfl
          have e31 : a.tmps[75]?.getD undef = _ := (Array.getD_eq_getD_getElem? ..).symm.trans d31
          have d38 : a.tmps.getD 82 undef = .bool true := dep 38 _ _ (by kernel_rfl) rfl rfl
          have e38 : a.tmps[82]?.getD undef = _ := (Array.getD_eq_getD_getElem? ..).symm.trans d38
          rw [if_pos (wanted_none rfl)]
          refine grow_same (v := .bool true) ?_ rfl
          clear old dep ho hsz hb
          go_simp
        | 40, ho =>
          obtain rfl := Option.some.inj ho
          have d39 : a.tmps.getD 83 undef = .bool true := dep 39 _ _ (by kernel_rfl) rfl rfl
          have e39 : a.tmps[83]?.getD undef = _ := (Array.getD_eq_getD_getElem? ..).symm.trans d39
          rw [if_pos (wanted_none rfl)]
          refine grow_same (v := .bool true) ?_ rfl
          clear old dep ho hsz hb
          go_simp
        | i + 41, ho => exact absurd ho (by simp)
      · intro a w6 hb hsz hdf fin keep
        obtain ⟨tm, df⟩ := a
        have hx := frame_of [44, 45, 46, 47, 48, 49, 50, 51, 52, 53, 54, 55, 56, 57, 58, 59, 60, 61, 62, 63, 64, 65, 66, 67, 68, 69, 70, 71, 72, 73, 74, 75, 76, 77, 78, 79, 80, 81, 82, 83, 6] (by kernel_rfl) hsz keep
        dsimp only at hdf hx
        simp only [List.foldl_cons, List.foldl_nil] at hx
        subst hdf
        clear hsz keep
        obtain ⟨A44, C44, kn, R44⟩ : ∃ A c, tm.getD 44 undef = .slice A 40 c ∧ Rd w6 (.slice A 40 c) (u8s (encB t k v)) := fin 0 _ _ rfl rfl
        rw [kn] at hx
        clear kn
        clear R44
        have kn : tm.getD 45 undef = .int .i64 40 := fin 1 _ _ rfl rfl
        rw [kn] at hx
        clear kn
        have kn : tm.getD 46 undef = .bool true := fin 2 _ _ rfl rfl
        rw [kn] at hx
        clear kn
        have kn : tm.getD 47 undef = .bool true := fin 3 _ _ rfl rfl
        rw [kn] at hx
        clear kn
        obtain ⟨A48, C48, kn, R48⟩ : ∃ A c, tm.getD 48 undef = .slice A 40 c ∧ Rd w6 (.slice A 40 c) (u8s (encB t k value)) := fin 4 _ _ rfl rfl
        rw [kn] at hx
        clear kn
        clear R48
        have kn : tm.getD 49 undef = .int .i64 40 := fin 5 _ _ rfl rfl
        rw [kn] at hx
        clear kn
        have kn : tm.getD 50 undef = .bool true := fin 6 _ _ rfl rfl
        rw [kn] at hx
        clear kn
        have kn : tm.getD 51 undef = .bool true := fin 7 _ _ rfl rfl
        rw [kn] at hx
        clear kn
        have kn : tm.getD 52 undef = .bool true := fin 8 _ _ rfl rfl
        rw [kn] at hx
        clear kn
        obtain ⟨A53, C53, kn, R53⟩ : ∃ A c, tm.getD 53 undef = .slice A 40 c ∧ Rd w6 (.slice A 40 c) (u8s (encB t key v)) := fin 9 _ _ rfl rfl
        rw [kn] at hx
        clear kn
        clear R53
        have kn : tm.getD 54 undef = .int .i64 40 := fin 10 _ _ rfl rfl
        rw [kn] at hx
        clear kn
        have kn : tm.getD 55 undef = .bool true := fin 11 _ _ rfl rfl
        rw [kn] at hx
        clear kn
        have kn : tm.getD 56 undef = .bool true := fin 12 _ _ rfl rfl
        rw [kn] at hx
        clear kn
        have kn : tm.getD 57 undef = .bool true := fin 13 _ _ rfl rfl
        rw [kn] at hx
        clear kn
        obtain ⟨A58, C58, kn, R58⟩ : ∃ A c, tm.getD 58 undef = .slice A 40 c ∧ Rd w6 (.slice A 40 c) (u8s (encB t k v)) := fin 14 _ _ rfl rfl
        rw [kn] at hx
        clear kn
        clear R58
        obtain ⟨A59, C59, kn, R59⟩ : ∃ A c, tm.getD 59 undef = .slice A 18 c ∧ Rd w6 (.slice A 18 c) (u8s ((encB t k v).take 18)) := fin 15 _ _ rfl rfl
        rw [kn] at hx
        clear kn
        clear R59
        have kn : tm.getD 60 undef = .string ⟨((encB t k v).take 18).toArray⟩ := fin 16 _ _ rfl rfl
        rw [kn] at hx
        clear kn
        obtain ⟨A61, C61, kn, R61⟩ : ∃ A c, tm.getD 61 undef = .slice A 40 c ∧ Rd w6 (.slice A 40 c) (u8s (encB t k value)) := fin 17 _ _ rfl rfl
        rw [kn] at hx
        clear kn
        clear R61
        obtain ⟨A62, C62, kn, R62⟩ : ∃ A c, tm.getD 62 undef = .slice A 18 c ∧ Rd w6 (.slice A 18 c) (u8s ((encB t k value).take 18)) := fin 18 _ _ rfl rfl
        rw [kn] at hx
        clear kn
        clear R62
        have kn : tm.getD 63 undef = .string ⟨((encB t k value).take 18).toArray⟩ := fin 19 _ _ rfl rfl
        rw [kn] at hx
        clear kn
        have kn : tm.getD 64 undef = .bool true := fin 20 _ _ rfl rfl
        rw [kn] at hx
        clear kn
        have kn : tm.getD 65 undef = .bool true := fin 21 _ _ rfl rfl
        rw [kn] at hx
        clear kn
        have kn : tm.getD 66 undef = .bool true := fin 22 _ _ rfl rfl
        rw [kn] at hx
        clear kn
        obtain ⟨A67, C67, kn, R67⟩ : ∃ A c, tm.getD 67 undef = .slice A 40 c ∧ Rd w6 (.slice A 40 c) (u8s (encB t k v)) := fin 23 _ _ rfl rfl
        rw [kn] at hx
        clear kn
        clear R67
        obtain ⟨A68, C68, kn, R68⟩ : ∃ A c, tm.getD 68 undef = .slice A 22 c ∧ Rd w6 (.slice A 22 c) (u8s ((encB t k v).drop 18)) := fin 24 _ _ rfl rfl
        rw [kn] at hx
        clear kn
        clear R68
        have kn : tm.getD 69 undef = .string ⟨((encB t k v).drop 18).toArray⟩ := fin 25 _ _ rfl rfl
        rw [kn] at hx
        clear kn
        obtain ⟨A70, C70, kn, R70⟩ : ∃ A c, tm.getD 70 undef = .slice A 40 c ∧ Rd w6 (.slice A 40 c) (u8s (encB t key v)) := fin 26 _ _ rfl rfl
        rw [kn] at hx
        clear kn
        clear R70
        obtain ⟨A71, C71, kn, R71⟩ : ∃ A c, tm.getD 71 undef = .slice A 22 c ∧ Rd w6 (.slice A 22 c) (u8s ((encB t key v).drop 18)) := fin 27 _ _ rfl rfl
        rw [kn] at hx
        clear kn
        clear R71
        have kn : tm.getD 72 undef = .string ⟨((encB t key v).drop 18).toArray⟩ := fin 28 _ _ rfl rfl
        rw [kn] at hx
        clear kn
        have kn : tm.getD 73 undef = .bool true := fin 29 _ _ rfl rfl
        rw [kn] at hx
        clear kn
        have kn : tm.getD 74 undef = .bool true := fin 30 _ _ rfl rfl
        rw [kn] at hx
        clear kn
        have kn : tm.getD 75 undef = .bool true := fin 31 _ _ rfl rfl
        rw [kn] at hx
        clear kn
        obtain ⟨A76, C76, kn, R76⟩ : ∃ A c, tm.getD 76 undef = .slice A 40 c ∧ Rd w6 (.slice A 40 c) (u8s (encB t k v)) := fin 32 _ _ rfl rfl
        rw [kn] at hx
        clear kn
        clear R76
        obtain ⟨A77, C77, kn, R77⟩ : ∃ A c, tm.getD 77 undef = .slice A 2 c ∧ Rd w6 (.slice A 2 c) (u8s ((encB t k v).take 2)) := fin 33 _ _ rfl rfl
        rw [kn] at hx
        clear kn
        clear R77
        have kn : tm.getD 78 undef = .string ⟨((encB t k v).take 2).toArray⟩ := fin 34 _ _ rfl rfl
        rw [kn] at hx
        clear kn
        obtain ⟨A79, C79, kn, R79⟩ : ∃ A c, tm.getD 79 undef = .slice A 40 c ∧ Rd w6 (.slice A 40 c) (u8s (encB t key v)) := fin 35 _ _ rfl rfl
        rw [kn] at hx
        clear kn
        clear R79
        obtain ⟨A80, C80, kn, R80⟩ : ∃ A c, tm.getD 80 undef = .slice A 2 c ∧ Rd w6 (.slice A 2 c) (u8s ((encB t key v).take 2)) := fin 36 _ _ rfl rfl
        rw [kn] at hx
        clear kn
        clear R80
        have kn : tm.getD 81 undef = .string ⟨((encB t key v).take 2).toArray⟩ := fin 37 _ _ rfl rfl
        rw [kn] at hx
        clear kn
        have kn : tm.getD 82 undef = .bool true := fin 38 _ _ rfl rfl
        rw [kn] at hx
        clear kn
        have kn : tm.getD 83 undef = .bool true := fin 39 _ _ rfl rfl
        rw [kn] at hx
        clear kn
        have kn : tm.getD 6 undef = .bool true := fin 40 _ _ rfl rfl
        rw [kn] at hx
        clear kn
        clear fin
        simp only [List.setIfInBounds_toArray, List.set_cons_succ, List.set_cons_zero] at hx
        subst hx
        have T6 := T5.below hb
        go_wp2
        go_ret
        exact ⟨rfl, T6.le⟩
theorem values_walk (t : Int) (k v : ByteArray) (key value : ByteArray) (w : World) (_ : (Lit.int .i64 t).wf = true) (_ : k.size ≤ maxLen) (_ : v.size ≤ maxLen) (_ : key.size ≤ maxLen) (_ : value.size ≤ maxLen) :
    Calls Try.prog 8 #[.agg #[.int .i64 t, .string k, .string v], .string key, .string value] w fun e w' => e = .returned (.bool true) ∧ Below w.heap.size w w' := by
  cases hl : lightB k v
  · exact values_long t k v key value w hl
  · cases hr : rightB t k v
    · exact values_wrong t k v key value w hl hr
    · by_cases hk : 15 < key.size
      · exact values_key t k v key value w hl hr hk
      · by_cases hv : 21 < value.size
        · exact values_value t k v key value w hl hr (by omega) hv
        · exact values_right t k v key value w hl hr (by omega) (by omega)
end Go.Proofs.Ytkjngpiblbkccaa
