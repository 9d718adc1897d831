/-
  The walk of RowBack.
-/
import Derived.Test.YtkjngpiblbkccaaOne
namespace Go.Proofs.Ytkjngpiblbkccaa
open Go.RowKit

set_option maxHeartbeats 1000000 in
theorem back_long (t : Int) (k v : ByteArray) (w : World) (_ : (Lit.int .i64 t).wf = true) (_ : k.size ≤ maxLen) (_ : v.size ≤ maxLen) (hl : lightB k v = false) :
    Calls Try.prog 3 #[.agg #[.int .i64 t, .string k, .string v]] w fun e w' => e = .returned (.bool true) ∧ Below w.heap.size w w' := by
  go_enter Try.func3, Try.ntmps3
  go_wp2_with (first
    | (go_at_call 9; refine (fit_one w _ _ _).mono ?_; rintro e w1 ⟨rfl, T1⟩; obtain ⟨p11, p12, p13⟩ := T1.cells)
    | (go_at_call 10; (with_reducible refine (light_told false t k v w1 hl).mono ?_); rintro e w2 ⟨rfl, hb2⟩; have T2 := T1.below hb2; obtain ⟨p21, p22, p23⟩ := T2.cells))
  go_ret
  exact ⟨rfl, T2.le⟩
set_option maxHeartbeats 2000000 in
theorem back_wrong (t : Int) (k v : ByteArray) (w : World) (_ : (Lit.int .i64 t).wf = true) (_ : k.size ≤ maxLen) (_ : v.size ≤ maxLen) (hl : lightB k v = true) (hr : rightB t k v = false) :
    Calls Try.prog 3 #[.agg #[.int .i64 t, .string k, .string v]] w fun e w' => e = .returned (.bool true) ∧ Below w.heap.size w w' := by
  go_enter Try.func3, Try.ntmps3
  go_wp2_with (first
    | (go_at_call 9; refine (fit_one w _ _ _).mono ?_; rintro e w1 ⟨rfl, T1⟩; obtain ⟨p11, p12, p13⟩ := T1.cells)
    | (go_at_call 10; (with_reducible refine (light_told true t k v w1 hl).mono ?_); rintro e w2 ⟨rfl, hb2⟩; have T2 := T1.below hb2; obtain ⟨p21, p22, p23⟩ := T2.cells))
  have hlt := hide T2.a.lt
  refine region_grows [Say.is (.agg #[.int .i64 t, .string k, .string v]), Say.is (.bool false), Say.is (.agg #[.int .i64 t, .string k, .string v]), Say.is (.bool false), Say.is (.bool false)] (by kernel_rfl) (by kernel_rfl) (by kernel_rfl) (by kernel_rfl) ?_ ?_
  · intro i o ho a w2 hb hsz old dep
    match i, ho with
    | 0, ho =>
      obtain rfl := Option.some.inj ho
      have o1 : a.tmps.getD 1 undef = _ := old 1 (by kernel_rfl)
      rw [if_pos (wanted_none rfl)]
      have g0 := (hb.cell (p := ⟨w.heap.size, 0, none⟩) hlt.out).trans p21
      have g1 := (hb.cell (p := ⟨w.heap.size, 1, none⟩) hlt.out).trans p22
      have g2 := (hb.cell (p := ⟨w.heap.size, 2, none⟩) hlt.out).trans p23
      refine grow_same (v := .agg #[.int .i64 t, .string k, .string v]) ?_ rfl
      clear old dep ho hsz hb
      go_simp
    | 1, ho =>
      obtain rfl := Option.some.inj ho
      have d0 : a.tmps.getD 11 undef = .agg #[.int .i64 t, .string k, .string v] := dep 0 _ _ (by kernel_rfl) rfl rfl
      have e0 : a.tmps[11]?.getD undef = _ := (Array.getD_eq_getD_getElem? ..).symm.trans d0
      rw [if_pos (wanted_none rfl)]
      refine grow_enters (f := 11) (args := #[.agg #[.int .i64 t, .string k, .string v]]) ?_ (right_grow false t k v _ hr)
      clear old dep ho hsz hb
      go_simp
    | 2, ho =>
      obtain rfl := Option.some.inj ho
      have o1 : a.tmps.getD 1 undef = _ := old 1 (by kernel_rfl)
      rw [if_pos (wanted_none rfl)]
      have g0 := (hb.cell (p := ⟨w.heap.size, 0, none⟩) hlt.out).trans p21
      have g1 := (hb.cell (p := ⟨w.heap.size, 1, none⟩) hlt.out).trans p22
      have g2 := (hb.cell (p := ⟨w.heap.size, 2, none⟩) hlt.out).trans p23
      refine grow_same (v := .agg #[.int .i64 t, .string k, .string v]) ?_ rfl
      clear old dep ho hsz hb
      go_simp
    | 3, ho =>
      obtain rfl := Option.some.inj ho
      have d2 : a.tmps.getD 13 undef = .agg #[.int .i64 t, .string k, .string v] := dep 2 _ _ (by kernel_rfl) rfl rfl
      have e2 : a.tmps[13]?.getD undef = _ := (Array.getD_eq_getD_getElem? ..).symm.trans d2
      rw [if_pos (wanted_none rfl)]
      refine grow_enters (f := 12) (args := #[.agg #[.int .i64 t, .string k, .string v]]) ?_ (lright_grow false t k v _ hr)
      clear old dep ho hsz hb
      go_simp
    | 4, ho =>
      obtain rfl := Option.some.inj ho
      have d1 : a.tmps.getD 12 undef = .bool false := dep 1 _ _ (by kernel_rfl) rfl rfl
      have e1 : a.tmps[12]?.getD undef = _ := (Array.getD_eq_getD_getElem? ..).symm.trans d1
      have d3 : a.tmps.getD 14 undef = .bool false := dep 3 _ _ (by kernel_rfl) rfl rfl
      have e3 : a.tmps[14]?.getD undef = _ := (Array.getD_eq_getD_getElem? ..).symm.trans d3
      rw [if_pos (wanted_none rfl)]
      refine grow_same (v := .bool false) ?_ rfl
      clear old dep ho hsz hb
      go_simp
    | i + 5, ho => exact absurd ho (by simp)
  · intro a w3 hb hsz hdf fin keep
    obtain ⟨tm, df⟩ := a
    have hx := frame_of [11, 12, 13, 14, 15] (by kernel_rfl) hsz keep
    dsimp only at hdf hx
    simp only [List.foldl_cons, List.foldl_nil] at hx
    subst hdf
    clear hsz keep
    have kn : tm.getD 11 undef = .agg #[.int .i64 t, .string k, .string v] := fin 0 _ _ rfl rfl
    rw [kn] at hx
    clear kn
    have kn : tm.getD 12 undef = .bool false := fin 1 _ _ rfl rfl
    rw [kn] at hx
    clear kn
    have kn : tm.getD 13 undef = .agg #[.int .i64 t, .string k, .string v] := fin 2 _ _ rfl rfl
    rw [kn] at hx
    clear kn
    have kn : tm.getD 14 undef = .bool false := fin 3 _ _ rfl rfl
    rw [kn] at hx
    clear kn
    have kn : tm.getD 15 undef = .bool false := fin 4 _ _ rfl rfl
    rw [kn] at hx
    clear kn
    clear fin
    simp only [List.setIfInBounds_toArray, List.set_cons_succ, List.set_cons_zero] at hx
    subst hx
    have T3 := T2.below hb
    obtain ⟨p31, p32, p33⟩ := T3.cells
    clear hb hlt
    go_wp2_with (first
      | (go_at_call 12; (with_reducible refine (lright_told false t k v w3 hr).mono ?_); rintro e w4 ⟨rfl, hb4⟩; have T4 := T3.below hb4; obtain ⟨p41, p42, p43⟩ := T4.cells))
    go_ret
    exact ⟨rfl, T4.le⟩
set_option maxHeartbeats 4000000 in
theorem back_right (t : Int) (k v : ByteArray) (w : World) (_ : (Lit.int .i64 t).wf = true) (_ : k.size ≤ maxLen) (_ : v.size ≤ maxLen) (hl : lightB k v = true) (hr : rightB t k v = true) :
    Calls Try.prog 3 #[.agg #[.int .i64 t, .string k, .string v]] w fun e w' => e = .returned (.bool true) ∧ Below w.heap.size w w' := by
  go_enter Try.func3, Try.ntmps3
  go_wp2_with (first
    | (go_at_call 9; refine (fit_one w _ _ _).mono ?_; rintro e w1 ⟨rfl, T1⟩; obtain ⟨p11, p12, p13⟩ := T1.cells)
    | (go_at_call 10; (with_reducible refine (light_told true t k v w1 hl).mono ?_); rintro e w2 ⟨rfl, hb2⟩; have T2 := T1.below hb2; obtain ⟨p21, p22, p23⟩ := T2.cells))
  have hlt := hide T2.a.lt
  refine region_grows [Say.is (.agg #[.int .i64 t, .string k, .string v]), Say.is (.bool true), Say.is (.agg #[.int .i64 t, .string k, .string v]), Say.is (.bool true), Say.is (.bool false)] (by kernel_rfl) (by kernel_rfl) (by kernel_rfl) (by kernel_rfl) ?_ ?_
  · intro i o ho a w2 hb hsz old dep
    match i, ho with
    | 0, ho =>
      obtain rfl := Option.some.inj ho
      have o1 : a.tmps.getD 1 undef = _ := old 1 (by kernel_rfl)
      rw [if_pos (wanted_none rfl)]
      have g0 := (hb.cell (p := ⟨w.heap.size, 0, none⟩) hlt.out).trans p21
      have g1 := (hb.cell (p := ⟨w.heap.size, 1, none⟩) hlt.out).trans p22
      have g2 := (hb.cell (p := ⟨w.heap.size, 2, none⟩) hlt.out).trans p23
      refine grow_same (v := .agg #[.int .i64 t, .string k, .string v]) ?_ rfl
      clear old dep ho hsz hb
      go_simp
    | 1, ho =>
      obtain rfl := Option.some.inj ho
      have d0 : a.tmps.getD 11 undef = .agg #[.int .i64 t, .string k, .string v] := dep 0 _ _ (by kernel_rfl) rfl rfl
      have e0 : a.tmps[11]?.getD undef = _ := (Array.getD_eq_getD_getElem? ..).symm.trans d0
      rw [if_pos (wanted_none rfl)]
      refine grow_enters (f := 11) (args := #[.agg #[.int .i64 t, .string k, .string v]]) ?_ (right_grow true t k v _ hr)
      clear old dep ho hsz hb
      go_simp
    | 2, ho =>
      obtain rfl := Option.some.inj ho
      have o1 : a.tmps.getD 1 undef = _ := old 1 (by kernel_rfl)
      rw [if_pos (wanted_none rfl)]
      have g0 := (hb.cell (p := ⟨w.heap.size, 0, none⟩) hlt.out).trans p21
      have g1 := (hb.cell (p := ⟨w.heap.size, 1, none⟩) hlt.out).trans p22
      have g2 := (hb.cell (p := ⟨w.heap.size, 2, none⟩) hlt.out).trans p23
      refine grow_same (v := .agg #[.int .i64 t, .string k, .string v]) ?_ rfl
      clear old dep ho hsz hb
      go_simp
    | 3, ho =>
      obtain rfl := Option.some.inj ho
      have d2 : a.tmps.getD 13 undef = .agg #[.int .i64 t, .string k, .string v] := dep 2 _ _ (by kernel_rfl) rfl rfl
      have e2 : a.tmps[13]?.getD undef = _ := (Array.getD_eq_getD_getElem? ..).symm.trans d2
      rw [if_pos (wanted_none rfl)]
      refine grow_enters (f := 12) (args := #[.agg #[.int .i64 t, .string k, .string v]]) ?_ (lright_grow true t k v _ hr)
      clear old dep ho hsz hb
      go_simp
    | 4, ho =>
      obtain rfl := Option.some.inj ho
      have d1 : a.tmps.getD 12 undef = .bool true := dep 1 _ _ (by kernel_rfl) rfl rfl
      have e1 : a.tmps[12]?.getD undef = _ := (Array.getD_eq_getD_getElem? ..).symm.trans d1
      have d3 : a.tmps.getD 14 undef = .bool true := dep 3 _ _ (by kernel_rfl) rfl rfl
      have e3 : a.tmps[14]?.getD undef = _ := (Array.getD_eq_getD_getElem? ..).symm.trans d3
      rw [if_pos (wanted_none rfl)]
      refine grow_same (v := .bool false) ?_ rfl
      clear old dep ho hsz hb
      go_simp
    | i + 5, ho => exact absurd ho (by simp)
  · intro a w3 hb hsz hdf fin keep
    obtain ⟨tm, df⟩ := a
    have hx := frame_of [11, 12, 13, 14, 15] (by kernel_rfl) hsz keep
    dsimp only at hdf hx
    simp only [List.foldl_cons, List.foldl_nil] at hx
    subst hdf
    clear hsz keep
    have kn : tm.getD 11 undef = .agg #[.int .i64 t, .string k, .string v] := fin 0 _ _ rfl rfl
    rw [kn] at hx
    clear kn
    have kn : tm.getD 12 undef = .bool true := fin 1 _ _ rfl rfl
    rw [kn] at hx
    clear kn
    have kn : tm.getD 13 undef = .agg #[.int .i64 t, .string k, .string v] := fin 2 _ _ rfl rfl
    rw [kn] at hx
    clear kn
    have kn : tm.getD 14 undef = .bool true := fin 3 _ _ rfl rfl
    rw [kn] at hx
    clear kn
    have kn : tm.getD 15 undef = .bool false := fin 4 _ _ rfl rfl
    rw [kn] at hx
    clear kn
    clear fin
    simp only [List.setIfInBounds_toArray, List.set_cons_succ, List.set_cons_zero] at hx
    subst hx
    have T3 := T2.below hb
    obtain ⟨p31, p32, p33⟩ := T3.cells
    clear hb hlt
    have hmk := run_make40
    go_wp2_with (first
      | (go_at_call 12; (with_reducible refine (lright_told true t k v w3 hr).mono ?_); rintro e w4 ⟨rfl, hb4⟩; have T4 := T3.below hb4; obtain ⟨p41, p42, p43⟩ := T4.cells))
    
    have hlt4 := hide T4.a.lt
    have T5 := T4.alloc (.cells (blk8 z40) 5)
    have hlt := hide T5.a.lt
    obtain ⟨q1, q2, q3⟩ := T5.cells
    obtain ⟨n1, n2, n3, n4⟩ := rightB_iff.1 hr
    have HT := hide (show IntKind.u8.wrap t = ((UInt8.ofNat t.toNat).toNat : Int) by rw [UInt8.toNat_ofNat']; simp [IntKind.wrap, IntKind.bits, IntKind.signed]; omega)
    have HK := hide (show IntKind.u8.wrap (k.size : Int) = ((UInt8.ofNat k.data.toList.length).toNat : Int) by rw [UInt8.toNat_ofNat', size_data]; simp [IntKind.wrap, IntKind.bits, IntKind.signed])
    have HV := hide (show IntKind.u8.wrap (v.size : Int) = ((UInt8.ofNat v.data.toList.length).toNat : Int) by rw [UInt8.toNat_ofNat', size_data]; simp [IntKind.wrap, IntKind.bits, IntKind.signed])
    clear hmk
    refine region_turns (G := Turns (· = w4.heap.size)) [Word.is _ (.slice (some ⟨w4.heap.size, 0, none⟩) 40 40), Word.is _ (.slice (some ⟨w4.heap.size, 0, none⟩) 40 40), Word.is _ (.slice (some ⟨w4.heap.size, 0, none⟩) 40 40), Word.is _ (.slice (some ⟨w4.heap.size, 0, none⟩) 40 40), Word.is _ (.pointer (some ⟨w.heap.size, 0, none⟩)), Word.is _ (.int .i64 t), Word.is _ (.int .u8 ((UInt8.ofNat t.toNat).toNat : Int)), Word.is _ (.pointer (some ⟨w.heap.size, 1, none⟩)), Word.is _ (.string k), Word.is _ (.int .i64 (k.size : Int)), Word.is _ (.int .u8 ((UInt8.ofNat k.data.toList.length).toNat : Int)), Word.is _ (.pointer (some ⟨w.heap.size, 2, none⟩)), Word.is _ (.string v), Word.is _ (.int .i64 (v.size : Int)), Word.is _ (.int .u8 ((UInt8.ofNat v.data.toList.length).toNat : Int)), Word.is _ (.pointer (some ⟨w4.heap.size, 0, none⟩)), Word.any _, Word.is _ (.pointer (some ⟨w4.heap.size, 1, none⟩)), Word.any _, Word.is _ (.pointer (some ⟨w4.heap.size, 2, none⟩)), Word.any _, Word.is _ (.pointer (some ⟨w4.heap.size, 18, none⟩)), Word.any _] (Stored w4.heap.size 5 [(16, 0, .int .u8 ((1 : UInt8).toNat : Int)), (18, 1, .int .u8 ((UInt8.ofNat t.toNat).toNat : Int)), (20, 2, .int .u8 ((UInt8.ofNat k.data.toList.length).toNat : Int)), (22, 18, .int .u8 ((UInt8.ofNat v.data.toList.length).toNat : Int))] (blk8 z40)) (Turns.refl _) Turns.trans (Turns.drew _) (by kernel_rfl) (by kernel_rfl) (by kernel_rfl) (by kernel_rfl) (fun L L' w h hS => Stored.ext (by kernel_rfl) h hS) (Stored.start _ (heap_new w4 _)) ?_ ?_
    · intro i o ho L a w2 hb hS hLi hnot hyes hsz old dep
      match i, ho with
      | 0, ho =>
        obtain rfl := Option.some.inj ho
        have o3 : a.tmps.getD 3 undef = _ := old 3 (by kernel_rfl)
        rw [if_pos (wanted_none rfl)]
        refine turn_same (Turns.refl _) (v := .slice (some ⟨w4.heap.size, 0, none⟩) 40 40) ?_ rfl (hS.other (by rfl))
        clear old dep ho hsz hb hS hLi hnot hyes
        go_simp
      | 1, ho =>
        obtain rfl := Option.some.inj ho
        have o3 : a.tmps.getD 3 undef = _ := old 3 (by kernel_rfl)
        rw [if_pos (wanted_none rfl)]
        refine turn_same (Turns.refl _) (v := .slice (some ⟨w4.heap.size, 0, none⟩) 40 40) ?_ rfl (hS.other (by rfl))
        clear old dep ho hsz hb hS hLi hnot hyes
        go_simp
      | 2, ho =>
        obtain rfl := Option.some.inj ho
        have o3 : a.tmps.getD 3 undef = _ := old 3 (by kernel_rfl)
        rw [if_pos (wanted_none rfl)]
        refine turn_same (Turns.refl _) (v := .slice (some ⟨w4.heap.size, 0, none⟩) 40 40) ?_ rfl (hS.other (by rfl))
        clear old dep ho hsz hb hS hLi hnot hyes
        go_simp
      | 3, ho =>
        obtain rfl := Option.some.inj ho
        have o3 : a.tmps.getD 3 undef = _ := old 3 (by kernel_rfl)
        rw [if_pos (wanted_none rfl)]
        refine turn_same (Turns.refl _) (v := .slice (some ⟨w4.heap.size, 0, none⟩) 40 40) ?_ rfl (hS.other (by rfl))
        clear old dep ho hsz hb hS hLi hnot hyes
        go_simp
      | 4, ho =>
        obtain rfl := Option.some.inj ho
        have o1 : a.tmps.getD 1 undef = _ := old 1 (by kernel_rfl)
        rw [if_pos (wanted_none rfl)]
        refine turn_same (Turns.refl _) (v := .pointer (some ⟨w.heap.size, 0, none⟩)) ?_ rfl (hS.other (by rfl))
        clear old dep ho hsz hb hS hLi hnot hyes
        go_simp
      | 5, ho =>
        obtain rfl := Option.some.inj ho
        have d4 : a.tmps.getD 24 undef = .pointer (some ⟨w.heap.size, 0, none⟩) := dep 4 _ _ (by kernel_rfl) rfl rfl
        have e4 : a.tmps[24]?.getD undef = _ := (Array.getD_eq_getD_getElem? ..).symm.trans d4
        rw [if_pos (wanted_none rfl)]
        have g0 := (hb.cell (q := ⟨w.heap.size, 0, none⟩) (by simpa using hlt.out) (Nat.ne_of_lt hlt4.out)).trans q1
        refine turn_same (Turns.refl _) (v := .int .i64 t) ?_ rfl (hS.other (by rfl))
        clear old dep ho hsz hb hS hLi hnot hyes
        go_simp
      | 6, ho =>
        obtain rfl := Option.some.inj ho
        have d5 : a.tmps.getD 25 undef = .int .i64 t := dep 5 _ _ (by kernel_rfl) rfl rfl
        have e5 : a.tmps[25]?.getD undef = _ := (Array.getD_eq_getD_getElem? ..).symm.trans d5
        rw [if_pos (wanted_none rfl)]
        have hw := HT.out
        refine turn_same (Turns.refl _) (v := .int .u8 ((UInt8.ofNat t.toNat).toNat : Int)) ?_ rfl (hS.other (by rfl))
        clear old dep ho hsz hb hS hLi hnot hyes
        go_simp
      | 7, ho =>
        obtain rfl := Option.some.inj ho
        have o1 : a.tmps.getD 1 undef = _ := old 1 (by kernel_rfl)
        rw [if_pos (wanted_none rfl)]
        refine turn_same (Turns.refl _) (v := .pointer (some ⟨w.heap.size, 1, none⟩)) ?_ rfl (hS.other (by rfl))
        clear old dep ho hsz hb hS hLi hnot hyes
        go_simp
      | 8, ho =>
        obtain rfl := Option.some.inj ho
        have d7 : a.tmps.getD 27 undef = .pointer (some ⟨w.heap.size, 1, none⟩) := dep 7 _ _ (by kernel_rfl) rfl rfl
        have e7 : a.tmps[27]?.getD undef = _ := (Array.getD_eq_getD_getElem? ..).symm.trans d7
        rw [if_pos (wanted_none rfl)]
        have g0 := (hb.cell (q := ⟨w.heap.size, 1, none⟩) (by simpa using hlt.out) (Nat.ne_of_lt hlt4.out)).trans q2
        refine turn_same (Turns.refl _) (v := .string k) ?_ rfl (hS.other (by rfl))
        clear old dep ho hsz hb hS hLi hnot hyes
        go_simp
      | 9, ho =>
        obtain rfl := Option.some.inj ho
        have d8 : a.tmps.getD 28 undef = .string k := dep 8 _ _ (by kernel_rfl) rfl rfl
        have e8 : a.tmps[28]?.getD undef = _ := (Array.getD_eq_getD_getElem? ..).symm.trans d8
        rw [if_pos (wanted_none rfl)]
        refine turn_same (Turns.refl _) (v := .int .i64 (k.size : Int)) ?_ rfl (hS.other (by rfl))
        clear old dep ho hsz hb hS hLi hnot hyes
        go_simp
      | 10, ho =>
        obtain rfl := Option.some.inj ho
        have d9 : a.tmps.getD 29 undef = .int .i64 (k.size : Int) := dep 9 _ _ (by kernel_rfl) rfl rfl
        have e9 : a.tmps[29]?.getD undef = _ := (Array.getD_eq_getD_getElem? ..).symm.trans d9
        rw [if_pos (wanted_none rfl)]
        have hw := HK.out
        refine turn_same (Turns.refl _) (v := .int .u8 ((UInt8.ofNat k.data.toList.length).toNat : Int)) ?_ rfl (hS.other (by rfl))
        clear old dep ho hsz hb hS hLi hnot hyes
        go_simp
      | 11, ho =>
        obtain rfl := Option.some.inj ho
        have o1 : a.tmps.getD 1 undef = _ := old 1 (by kernel_rfl)
        rw [if_pos (wanted_none rfl)]
        refine turn_same (Turns.refl _) (v := .pointer (some ⟨w.heap.size, 2, none⟩)) ?_ rfl (hS.other (by rfl))
        clear old dep ho hsz hb hS hLi hnot hyes
        go_simp
      | 12, ho =>
        obtain rfl := Option.some.inj ho
        have d11 : a.tmps.getD 31 undef = .pointer (some ⟨w.heap.size, 2, none⟩) := dep 11 _ _ (by kernel_rfl) rfl rfl
        have e11 : a.tmps[31]?.getD undef = _ := (Array.getD_eq_getD_getElem? ..).symm.trans d11
        rw [if_pos (wanted_none rfl)]
        have g0 := (hb.cell (q := ⟨w.heap.size, 2, none⟩) (by simpa using hlt.out) (Nat.ne_of_lt hlt4.out)).trans q3
        refine turn_same (Turns.refl _) (v := .string v) ?_ rfl (hS.other (by rfl))
        clear old dep ho hsz hb hS hLi hnot hyes
        go_simp
      | 13, ho =>
        obtain rfl := Option.some.inj ho
        have d12 : a.tmps.getD 32 undef = .string v := dep 12 _ _ (by kernel_rfl) rfl rfl
        have e12 : a.tmps[32]?.getD undef = _ := (Array.getD_eq_getD_getElem? ..).symm.trans d12
        rw [if_pos (wanted_none rfl)]
        refine turn_same (Turns.refl _) (v := .int .i64 (v.size : Int)) ?_ rfl (hS.other (by rfl))
        clear old dep ho hsz hb hS hLi hnot hyes
        go_simp
      | 14, ho =>
        obtain rfl := Option.some.inj ho
        have d13 : a.tmps.getD 33 undef = .int .i64 (v.size : Int) := dep 13 _ _ (by kernel_rfl) rfl rfl
        have e13 : a.tmps[33]?.getD undef = _ := (Array.getD_eq_getD_getElem? ..).symm.trans d13
        rw [if_pos (wanted_none rfl)]
        have hw := HV.out
        refine turn_same (Turns.refl _) (v := .int .u8 ((UInt8.ofNat v.data.toList.length).toNat : Int)) ?_ rfl (hS.other (by rfl))
        clear old dep ho hsz hb hS hLi hnot hyes
        go_simp
      | 15, ho =>
        obtain rfl := Option.some.inj ho
        have d0 : a.tmps.getD 20 undef = .slice (some ⟨w4.heap.size, 0, none⟩) 40 40 := dep 0 _ _ (by kernel_rfl) rfl rfl
        have e0 : a.tmps[20]?.getD undef = _ := (Array.getD_eq_getD_getElem? ..).symm.trans d0
        rw [if_pos (wanted_none rfl)]
        refine turn_same (Turns.refl _) (v := .pointer (some ⟨w4.heap.size, 0, none⟩)) ?_ rfl (hS.other (by rfl))
        clear old dep ho hsz hb hS hLi hnot hyes
        go_simp
      | 16, ho =>
        obtain rfl := Option.some.inj ho
        have d15 : a.tmps.getD 35 undef = .pointer (some ⟨w4.heap.size, 0, none⟩) := dep 15 _ _ (by kernel_rfl) rfl rfl
        have e15 : a.tmps[35]?.getD undef = _ := (Array.getD_eq_getD_getElem? ..).symm.trans d15
        rw [if_pos (wanted_none rfl)]
        obtain ⟨⟨u0, hu0⟩, hf0⟩ := hS.cell 0 (by decide)
        refine turn_skips (w' := w2.setCell ⟨w4.heap.size, 0, none⟩ (.int .u8 ((1 : UInt8).toNat : Int))) ?_ trivial (hS.at_ 0 rfl rfl hLi) (Turns.own w2 _ _ _)
        clear old dep ho hsz hb hS hLi hnot hyes
        go_simp
      | 17, ho =>
        obtain rfl := Option.some.inj ho
        have d1 : a.tmps.getD 21 undef = .slice (some ⟨w4.heap.size, 0, none⟩) 40 40 := dep 1 _ _ (by kernel_rfl) rfl rfl
        have e1 : a.tmps[21]?.getD undef = _ := (Array.getD_eq_getD_getElem? ..).symm.trans d1
        rw [if_pos (wanted_none rfl)]
        refine turn_same (Turns.refl _) (v := .pointer (some ⟨w4.heap.size, 1, none⟩)) ?_ rfl (hS.other (by rfl))
        clear old dep ho hsz hb hS hLi hnot hyes
        go_simp
      | 18, ho =>
        obtain rfl := Option.some.inj ho
        have d6 : a.tmps.getD 26 undef = .int .u8 ((UInt8.ofNat t.toNat).toNat : Int) := dep 6 _ _ (by kernel_rfl) rfl rfl
        have e6 : a.tmps[26]?.getD undef = _ := (Array.getD_eq_getD_getElem? ..).symm.trans d6
        have d17 : a.tmps.getD 36 undef = .pointer (some ⟨w4.heap.size, 1, none⟩) := dep 17 _ _ (by kernel_rfl) rfl rfl
        have e17 : a.tmps[36]?.getD undef = _ := (Array.getD_eq_getD_getElem? ..).symm.trans d17
        rw [if_pos (wanted_none rfl)]
        obtain ⟨⟨u0, hu0⟩, hf0⟩ := hS.cell 1 (by decide)
        refine turn_skips (w' := w2.setCell ⟨w4.heap.size, 1, none⟩ (.int .u8 ((UInt8.ofNat t.toNat).toNat : Int))) ?_ trivial (hS.at_ 1 rfl rfl hLi) (Turns.own w2 _ _ _)
        clear old dep ho hsz hb hS hLi hnot hyes
        go_simp
      | 19, ho =>
        obtain rfl := Option.some.inj ho
        have d2 : a.tmps.getD 22 undef = .slice (some ⟨w4.heap.size, 0, none⟩) 40 40 := dep 2 _ _ (by kernel_rfl) rfl rfl
        have e2 : a.tmps[22]?.getD undef = _ := (Array.getD_eq_getD_getElem? ..).symm.trans d2
        rw [if_pos (wanted_none rfl)]
        refine turn_same (Turns.refl _) (v := .pointer (some ⟨w4.heap.size, 2, none⟩)) ?_ rfl (hS.other (by rfl))
        clear old dep ho hsz hb hS hLi hnot hyes
        go_simp
      | 20, ho =>
        obtain rfl := Option.some.inj ho
        have d10 : a.tmps.getD 30 undef = .int .u8 ((UInt8.ofNat k.data.toList.length).toNat : Int) := dep 10 _ _ (by kernel_rfl) rfl rfl
        have e10 : a.tmps[30]?.getD undef = _ := (Array.getD_eq_getD_getElem? ..).symm.trans d10
        have d19 : a.tmps.getD 37 undef = .pointer (some ⟨w4.heap.size, 2, none⟩) := dep 19 _ _ (by kernel_rfl) rfl rfl
        have e19 : a.tmps[37]?.getD undef = _ := (Array.getD_eq_getD_getElem? ..).symm.trans d19
        rw [if_pos (wanted_none rfl)]
        obtain ⟨⟨u0, hu0⟩, hf0⟩ := hS.cell 2 (by decide)
        refine turn_skips (w' := w2.setCell ⟨w4.heap.size, 2, none⟩ (.int .u8 ((UInt8.ofNat k.data.toList.length).toNat : Int))) ?_ trivial (hS.at_ 2 rfl rfl hLi) (Turns.own w2 _ _ _)
        clear old dep ho hsz hb hS hLi hnot hyes
        go_simp
      | 21, ho =>
        obtain rfl := Option.some.inj ho
        have d3 : a.tmps.getD 23 undef = .slice (some ⟨w4.heap.size, 0, none⟩) 40 40 := dep 3 _ _ (by kernel_rfl) rfl rfl
        have e3 : a.tmps[23]?.getD undef = _ := (Array.getD_eq_getD_getElem? ..).symm.trans d3
        rw [if_pos (wanted_none rfl)]
        refine turn_same (Turns.refl _) (v := .pointer (some ⟨w4.heap.size, 18, none⟩)) ?_ rfl (hS.other (by rfl))
        clear old dep ho hsz hb hS hLi hnot hyes
        go_simp
      | 22, ho =>
        obtain rfl := Option.some.inj ho
        have d14 : a.tmps.getD 34 undef = .int .u8 ((UInt8.ofNat v.data.toList.length).toNat : Int) := dep 14 _ _ (by kernel_rfl) rfl rfl
        have e14 : a.tmps[34]?.getD undef = _ := (Array.getD_eq_getD_getElem? ..).symm.trans d14
        have d21 : a.tmps.getD 38 undef = .pointer (some ⟨w4.heap.size, 18, none⟩) := dep 21 _ _ (by kernel_rfl) rfl rfl
        have e21 : a.tmps[38]?.getD undef = _ := (Array.getD_eq_getD_getElem? ..).symm.trans d21
        rw [if_pos (wanted_none rfl)]
        obtain ⟨⟨u0, hu0⟩, hf0⟩ := hS.cell 18 (by decide)
        refine turn_skips (w' := w2.setCell ⟨w4.heap.size, 18, none⟩ (.int .u8 ((UInt8.ofNat v.data.toList.length).toNat : Int))) ?_ trivial (hS.at_ 3 rfl rfl hLi) (Turns.own w2 _ _ _)
        clear old dep ho hsz hb hS hLi hnot hyes
        go_simp
      | i + 23, ho => exact absurd ho (by simp)
    · intro a w6 hb hS hsz hdf fin keep
      obtain ⟨tm, df⟩ := a
      have hx := frame_of [20, 21, 22, 23, 24, 25, 26, 27, 28, 29, 30, 31, 32, 33, 34, 35, 36, 37, 38] (by kernel_rfl) hsz keep
      dsimp only at hdf hx
      simp only [List.foldl_cons, List.foldl_nil] at hx
      subst hdf
      clear hsz keep
      have kn : tm.getD 20 undef = .slice (some ⟨w4.heap.size, 0, none⟩) 40 40 := fin 0 _ _ rfl rfl
      rw [kn] at hx
      clear kn
      have kn : tm.getD 21 undef = .slice (some ⟨w4.heap.size, 0, none⟩) 40 40 := fin 1 _ _ rfl rfl
      rw [kn] at hx
      clear kn
      have kn : tm.getD 22 undef = .slice (some ⟨w4.heap.size, 0, none⟩) 40 40 := fin 2 _ _ rfl rfl
      rw [kn] at hx
      clear kn
      have kn : tm.getD 23 undef = .slice (some ⟨w4.heap.size, 0, none⟩) 40 40 := fin 3 _ _ rfl rfl
      rw [kn] at hx
      clear kn
      have kn : tm.getD 24 undef = .pointer (some ⟨w.heap.size, 0, none⟩) := fin 4 _ _ rfl rfl
      rw [kn] at hx
      clear kn
      have kn : tm.getD 25 undef = .int .i64 t := fin 5 _ _ rfl rfl
      rw [kn] at hx
      clear kn
      have kn : tm.getD 26 undef = .int .u8 ((UInt8.ofNat t.toNat).toNat : Int) := fin 6 _ _ rfl rfl
      rw [kn] at hx
      clear kn
      have kn : tm.getD 27 undef = .pointer (some ⟨w.heap.size, 1, none⟩) := fin 7 _ _ rfl rfl
      rw [kn] at hx
      clear kn
      have kn : tm.getD 28 undef = .string k := fin 8 _ _ rfl rfl
      rw [kn] at hx
      clear kn
      have kn : tm.getD 29 undef = .int .i64 (k.size : Int) := fin 9 _ _ rfl rfl
      rw [kn] at hx
      clear kn
      have kn : tm.getD 30 undef = .int .u8 ((UInt8.ofNat k.data.toList.length).toNat : Int) := fin 10 _ _ rfl rfl
      rw [kn] at hx
      clear kn
      have kn : tm.getD 31 undef = .pointer (some ⟨w.heap.size, 2, none⟩) := fin 11 _ _ rfl rfl
      rw [kn] at hx
      clear kn
      have kn : tm.getD 32 undef = .string v := fin 12 _ _ rfl rfl
      rw [kn] at hx
      clear kn
      have kn : tm.getD 33 undef = .int .i64 (v.size : Int) := fin 13 _ _ rfl rfl
      rw [kn] at hx
      clear kn
      have kn : tm.getD 34 undef = .int .u8 ((UInt8.ofNat v.data.toList.length).toNat : Int) := fin 14 _ _ rfl rfl
      rw [kn] at hx
      clear kn
      have kn : tm.getD 35 undef = .pointer (some ⟨w4.heap.size, 0, none⟩) := fin 15 _ _ rfl rfl
      rw [kn] at hx
      clear kn
      have kn : tm.getD 36 undef = .pointer (some ⟨w4.heap.size, 1, none⟩) := fin 17 _ _ rfl rfl
      rw [kn] at hx
      clear kn
      have kn : tm.getD 37 undef = .pointer (some ⟨w4.heap.size, 2, none⟩) := fin 19 _ _ rfl rfl
      rw [kn] at hx
      clear kn
      have kn : tm.getD 38 undef = .pointer (some ⟨w4.heap.size, 18, none⟩) := fin 21 _ _ rfl rfl
      rw [kn] at hx
      clear kn
      clear fin
      simp only [List.setIfInBounds_toArray, List.set_cons_succ, List.set_cons_zero] at hx
      subst hx
      have B6 : Blk w6 w4.heap.size 5 (blk8 (laid4 1 (UInt8.ofNat t.toNat) (UInt8.ofNat k.data.toList.length) (UInt8.ofNat v.data.toList.length))) := (filled4 _ _ _ _) ▸ hS
      have T6 := T5.turns hb (by rintro k rfl; exact hlt4.out)
      obtain ⟨p61, p62, p63⟩ := T6.cells
      have hsz6 := hide hb.size
      have HE := hide (laid_row t.toNat k.data.toList v.data.toList (by rw [size_data]; exact n3) (by rw [size_data]; exact n4))
      generalize hl1 : laid4 1 (UInt8.ofNat t.toNat) (UInt8.ofNat k.data.toList.length) (UInt8.ofNat v.data.toList.length) = l1 at *
      have hll1 := hide (show l1.length = 40 by rw [← hl1]; simp [laid4, z40])
      clear hS hb hl1
      obtain ⟨i0, hi, hz0, hz1, hz2⟩ := info_parts info8
      go_wp2
      go_still_tail 4, (by kernel_rfl)
      change wpList _ _ _ _ _ w6.drew
      refine wpList_copy_str rfl (.tmp 40) (.tmp 42) 26 9 5 i0 rfl Try.underlying26 hi hz1 rfl (B6.drew) k rfl (by omega) (by rw [hll1.out]; omega) ?_
      intro w7 B7 hb7
      have T7 := T6.turns ((Turns.drew _ _).trans hb7) (by rintro k rfl; exact hlt4.out)
      obtain ⟨p71, p72, p73⟩ := T7.cells
      have hll2 := hide (show (over l1 3 k.data.toList).length = 40 by rw [over_length _ _ _ (by rw [size_data, hll1.out]; omega), hll1.out])
      generalize over l1 3 k.data.toList = l2 at *
      clear B6 hb7 hll1
      go_wp2
      go_still_tail 4, (by kernel_rfl)
      change wpList _ _ _ _ _ w7.drew
      refine wpList_copy_str rfl (.tmp 45) (.tmp 47) 26 9 5 i0 rfl Try.underlying26 hi hz1 rfl (B7.drew) v rfl (by omega) (by rw [hll2.out]; omega) ?_
      intro w8 B8 hb8
      have T8 := T7.turns ((Turns.drew _ _).trans hb8) (by rintro k rfl; exact hlt4.out)
      rw [HE.out] at B8
      have R8 := B8.rd8 (n := 40) (c := 40) (encB_length hr).symm (Nat.le_refl _)
      clear B7 B8 hb8 hll2 HE
      go_wp2_with (go_at_call 13; refine (decode_enc _ t k v w8 hr R8).mono ?_; rintro e w9 ⟨rfl, hb9⟩; have T9 := T8.below hb9; have R9 := R8.below hb9; have X9 : Blk (w9.alloc (.cells #[.int .i64 t, .string k, .string v] 23)) w9.heap.size 23 #[.int .i64 t, .string k, .string v] := heap_new w9 _)
      have TA := T9.alloc (.cells #[.int .i64 t, .string k, .string v] 23)
      have RA := hide (R9.alloc (.cells #[.int .i64 t, .string k, .string v] 23))
      obtain ⟨pA1, pA2, pA3⟩ := TA.cells
      obtain ⟨x1, x2, x3⟩ := X9.three
      have hlt := hide TA.a.lt
      have hltx := hide X9.lt
      have HLE := hide (encB_length hr)
      clear R9 R8 X9 T8 T9 hb9
      refine region_grows [Say.is (.agg #[.int .i64 t, .string k, .string v]), Say.rd 40 (encB t k v), Say.is (.string ⟨(encB t k v).toArray⟩), Say.is (.slice (some ⟨w4.heap.size, 0, none⟩) 40 40), Say.is (.string ⟨(encB t k v).toArray⟩), Say.is (.bool true), Say.is (.bool true), Say.is (.int .i64 0), Say.is (.bool true), Say.is (.bool true), Say.is (.bool true), Say.is (.agg #[.int .i64 t, .string k, .string v]), Say.is (.agg #[.int .i64 t, .string k, .string v]), Say.is (.bool true), Say.is (.bool true), Say.is (.bool true)] (by kernel_rfl) (by kernel_rfl) (by kernel_rfl) (by kernel_rfl) ?_ ?_
      · intro i o ho a w2 hb hsz old dep
        match i, ho with
        | 0, ho =>
          obtain rfl := Option.some.inj ho
          have o1 : a.tmps.getD 1 undef = _ := old 1 (by kernel_rfl)
          rw [if_pos (wanted_none rfl)]
          have g0 := (hb.cell (p := ⟨w.heap.size, 0, none⟩) hlt.out).trans pA1
          have g1 := (hb.cell (p := ⟨w.heap.size, 1, none⟩) hlt.out).trans pA2
          have g2 := (hb.cell (p := ⟨w.heap.size, 2, none⟩) hlt.out).trans pA3
          refine grow_same (v := .agg #[.int .i64 t, .string k, .string v]) ?_ rfl
          clear old dep ho hsz hb
          go_simp
        | 1, ho =>
          obtain rfl := Option.some.inj ho
          have d0 : a.tmps.getD 54 undef = .agg #[.int .i64 t, .string k, .string v] := dep 0 _ _ (by kernel_rfl) rfl rfl
          have e0 : a.tmps[54]?.getD undef = _ := (Array.getD_eq_getD_getElem? ..).symm.trans d0
          rw [if_pos (wanted_none rfl)]
          refine grow_enters (f := 14) (args := #[.agg #[.int .i64 t, .string k, .string v]]) ?_ (encode_grow t k v _ hr)
          clear old dep ho hsz hb
          go_simp
        | 2, ho =>
          obtain rfl := Option.some.inj ho
          obtain ⟨A1, C1, d1, r1⟩ : ∃ A c, a.tmps.getD 55 undef = .slice A 40 c ∧ Rd w2 (.slice A 40 c) (u8s (encB t k v)) := dep 1 _ _ (by kernel_rfl) rfl rfl
          have e1 : a.tmps[55]?.getD undef = _ := (Array.getD_eq_getD_getElem? ..).symm.trans d1
          rw [if_pos (wanted_none rfl)]
          have hcv := conv_rdn HLE.out r1
          refine grow_same (v := .string ⟨(encB t k v).toArray⟩) ?_ rfl
          clear old dep ho hsz hb r1
          go_simp
        | 3, ho =>
          obtain rfl := Option.some.inj ho
          have o3 : a.tmps.getD 3 undef = _ := old 3 (by kernel_rfl)
          rw [if_pos (wanted_none rfl)]
          refine grow_same (v := .slice (some ⟨w4.heap.size, 0, none⟩) 40 40) ?_ rfl
          clear old dep ho hsz hb
          go_simp
        | 4, ho =>
          obtain rfl := Option.some.inj ho
          have d3 : a.tmps.getD 57 undef = .slice (some ⟨w4.heap.size, 0, none⟩) 40 40 := dep 3 _ _ (by kernel_rfl) rfl rfl
          have e3 : a.tmps[57]?.getD undef = _ := (Array.getD_eq_getD_getElem? ..).symm.trans d3
          rw [if_pos (wanted_none rfl)]
          have hcv := conv_rdn HLE.out (RA.out.below hb)
          refine grow_same (v := .string ⟨(encB t k v).toArray⟩) ?_ rfl
          clear old dep ho hsz hb
          go_simp
        | 5, ho =>
          obtain rfl := Option.some.inj ho
          have d2 : a.tmps.getD 56 undef = .string ⟨(encB t k v).toArray⟩ := dep 2 _ _ (by kernel_rfl) rfl rfl
          have e2 : a.tmps[56]?.getD undef = _ := (Array.getD_eq_getD_getElem? ..).symm.trans d2
          have d4 : a.tmps.getD 58 undef = .string ⟨(encB t k v).toArray⟩ := dep 4 _ _ (by kernel_rfl) rfl rfl
          have e4 : a.tmps[58]?.getD undef = _ := (Array.getD_eq_getD_getElem? ..).symm.trans d4
          rw [if_pos (wanted_none rfl)]
          refine grow_same (v := .bool true) ?_ rfl
          clear old dep ho hsz hb
          go_simp
        | 6, ho =>
          obtain rfl := Option.some.inj ho
          have d5 : a.tmps.getD 59 undef = .bool true := dep 5 _ _ (by kernel_rfl) rfl rfl
          have e5 : a.tmps[59]?.getD undef = _ := (Array.getD_eq_getD_getElem? ..).symm.trans d5
          rw [if_pos (wanted_none rfl)]
          refine grow_same (v := .bool true) ?_ rfl
          clear old dep ho hsz hb
          go_simp
        | 7, ho =>
          obtain rfl := Option.some.inj ho
          have o5 : a.tmps.getD 5 undef = _ := old 5 (by kernel_rfl)
          have d6 : a.tmps.getD 60 undef = .bool true := dep 6 _ _ (by kernel_rfl) rfl rfl
          have e6 : a.tmps[60]?.getD undef = _ := (Array.getD_eq_getD_getElem? ..).symm.trans d6
          rw [if_pos (wanted_some rfl rfl rfl (by rw [hsz]; exact of_decide_eq_true rfl) d6)]
          refine grow_same (v := .int .i64 0) ?_ rfl
          clear old dep ho hsz hb
          go_simp
        | 8, ho =>
          obtain rfl := Option.some.inj ho
          have d7 : a.tmps.getD 61 undef = .int .i64 0 := dep 7 _ _ (by kernel_rfl) rfl rfl
          have e7 : a.tmps[61]?.getD undef = _ := (Array.getD_eq_getD_getElem? ..).symm.trans d7
          have d6 : a.tmps.getD 60 undef = .bool true := dep 6 _ _ (by kernel_rfl) rfl rfl
          have e6 : a.tmps[60]?.getD undef = _ := (Array.getD_eq_getD_getElem? ..).symm.trans d6
          rw [if_pos (wanted_some rfl rfl rfl (by rw [hsz]; exact of_decide_eq_true rfl) d6)]
          refine grow_same (v := .bool true) ?_ rfl
          clear old dep ho hsz hb
          go_simp
        | 9, ho =>
          obtain rfl := Option.some.inj ho
          have d6 : a.tmps.getD 60 undef = .bool true := dep 6 _ _ (by kernel_rfl) rfl rfl
          have e6 : a.tmps[60]?.getD undef = _ := (Array.getD_eq_getD_getElem? ..).symm.trans d6
          have d8 : a.tmps.getD 62 undef = .bool true := dep 8 _ _ (by kernel_rfl) rfl rfl
          have e8 : a.tmps[62]?.getD undef = _ := (Array.getD_eq_getD_getElem? ..).symm.trans d8
          rw [if_pos (wanted_none rfl)]
          refine grow_same (v := .bool true) ?_ rfl
          clear old dep ho hsz hb
          go_simp
        | 10, ho =>
          obtain rfl := Option.some.inj ho
          have d9 : a.tmps.getD 63 undef = .bool true := dep 9 _ _ (by kernel_rfl) rfl rfl
          have e9 : a.tmps[63]?.getD undef = _ := (Array.getD_eq_getD_getElem? ..).symm.trans d9
          rw [if_pos (wanted_none rfl)]
          refine grow_same (v := .bool true) ?_ rfl
          clear old dep ho hsz hb
          go_simp
        | 11, ho =>
          obtain rfl := Option.some.inj ho
          have o4 : a.tmps.getD 4 undef = _ := old 4 (by kernel_rfl)
          have d10 : a.tmps.getD 64 undef = .bool true := dep 10 _ _ (by kernel_rfl) rfl rfl
          have e10 : a.tmps[64]?.getD undef = _ := (Array.getD_eq_getD_getElem? ..).symm.trans d10
          rw [if_pos (wanted_some rfl rfl rfl (by rw [hsz]; exact of_decide_eq_true rfl) d10)]
          have g0 := (hb.cell (p := ⟨w9.heap.size, 0, none⟩) hltx.out).trans x1
          have g1 := (hb.cell (p := ⟨w9.heap.size, 1, none⟩) hltx.out).trans x2
          have g2 := (hb.cell (p := ⟨w9.heap.size, 2, none⟩) hltx.out).trans x3
          refine grow_same (v := .agg #[.int .i64 t, .string k, .string v]) ?_ rfl
          clear old dep ho hsz hb
          go_simp
        | 12, ho =>
          obtain rfl := Option.some.inj ho
          have o1 : a.tmps.getD 1 undef = _ := old 1 (by kernel_rfl)
          have d10 : a.tmps.getD 64 undef = .bool true := dep 10 _ _ (by kernel_rfl) rfl rfl
          have e10 : a.tmps[64]?.getD undef = _ := (Array.getD_eq_getD_getElem? ..).symm.trans d10
          rw [if_pos (wanted_some rfl rfl rfl (by rw [hsz]; exact of_decide_eq_true rfl) d10)]
          have g0 := (hb.cell (p := ⟨w.heap.size, 0, none⟩) hlt.out).trans pA1
          have g1 := (hb.cell (p := ⟨w.heap.size, 1, none⟩) hlt.out).trans pA2
          have g2 := (hb.cell (p := ⟨w.heap.size, 2, none⟩) hlt.out).trans pA3
          refine grow_same (v := .agg #[.int .i64 t, .string k, .string v]) ?_ rfl
          clear old dep ho hsz hb
          go_simp
        | 13, ho =>
          obtain rfl := Option.some.inj ho
          have d11 : a.tmps.getD 65 undef = .agg #[.int .i64 t, .string k, .string v] := dep 11 _ _ (by kernel_rfl) rfl rfl
          have e11 : a.tmps[65]?.getD undef = _ := (Array.getD_eq_getD_getElem? ..).symm.trans d11
          have d12 : a.tmps.getD 66 undef = .agg #[.int .i64 t, .string k, .string v] := dep 12 _ _ (by kernel_rfl) rfl rfl
          have e12 : a.tmps[66]?.getD undef = _ := (Array.getD_eq_getD_getElem? ..).symm.trans d12
          have d10 : a.tmps.getD 64 undef = .bool true := dep 10 _ _ (by kernel_rfl) rfl rfl
          have e10 : a.tmps[64]?.getD undef = _ := (Array.getD_eq_getD_getElem? ..).symm.trans d10
          rw [if_pos (wanted_some rfl rfl rfl (by rw [hsz]; exact of_decide_eq_true rfl) d10)]
          refine grow_same (v := .bool true) ?_ rfl
          clear old dep ho hsz hb
          go_simp
        | 14, ho =>
          obtain rfl := Option.some.inj ho
          have d10 : a.tmps.getD 64 undef = .bool true := dep 10 _ _ (by kernel_rfl) rfl rfl
          have e10 : a.tmps[64]?.getD undef = _ := (Array.getD_eq_getD_getElem? ..).symm.trans d10
          have d13 : a.tmps.getD 67 undef = .bool true := dep 13 _ _ (by kernel_rfl) rfl rfl
          have e13 : a.tmps[67]?.getD undef = _ := (Array.getD_eq_getD_getElem? ..).symm.trans d13
          rw [if_pos (wanted_none rfl)]
          refine grow_same (v := .bool true) ?_ rfl
          clear old dep ho hsz hb
          go_simp
        | 15, ho =>
          obtain rfl := Option.some.inj ho
          have d14 : a.tmps.getD 68 undef = .bool true := dep 14 _ _ (by kernel_rfl) rfl rfl
          have e14 : a.tmps[68]?.getD undef = _ := (Array.getD_eq_getD_getElem? ..).symm.trans d14
          rw [if_pos (wanted_none rfl)]
          refine grow_same (v := .bool true) ?_ rfl
          clear old dep ho hsz hb
          go_simp
        | i + 16, ho => exact absurd ho (by simp)
      · intro a wZ hb hsz hdf fin keep
        obtain ⟨tm, df⟩ := a
        have hx := frame_of [54, 55, 56, 57, 58, 59, 60, 61, 62, 63, 64, 65, 66, 67, 68, 2] (by kernel_rfl) hsz keep
        dsimp only at hdf hx
        simp only [List.foldl_cons, List.foldl_nil] at hx
        subst hdf
        clear hsz keep
        have kn : tm.getD 54 undef = .agg #[.int .i64 t, .string k, .string v] := fin 0 _ _ rfl rfl
        rw [kn] at hx
        clear kn
        obtain ⟨A55, C55, kn, R55⟩ : ∃ A c, tm.getD 55 undef = .slice A 40 c ∧ Rd wZ (.slice A 40 c) (u8s (encB t k v)) := fin 1 _ _ rfl rfl
        rw [kn] at hx
        clear kn
        clear R55
        have kn : tm.getD 56 undef = .string ⟨(encB t k v).toArray⟩ := fin 2 _ _ rfl rfl
        rw [kn] at hx
        clear kn
        have kn : tm.getD 57 undef = .slice (some ⟨w4.heap.size, 0, none⟩) 40 40 := fin 3 _ _ rfl rfl
        rw [kn] at hx
        clear kn
        have kn : tm.getD 58 undef = .string ⟨(encB t k v).toArray⟩ := fin 4 _ _ rfl rfl
        rw [kn] at hx
        clear kn
        have kn : tm.getD 59 undef = .bool true := fin 5 _ _ rfl rfl
        rw [kn] at hx
        clear kn
        have kn : tm.getD 60 undef = .bool true := fin 6 _ _ rfl rfl
        rw [kn] at hx
        clear kn
        have kn : tm.getD 61 undef = .int .i64 0 := fin 7 _ _ rfl rfl
        rw [kn] at hx
        clear kn
        have kn : tm.getD 62 undef = .bool true := fin 8 _ _ rfl rfl
        rw [kn] at hx
        clear kn
        have kn : tm.getD 63 undef = .bool true := fin 9 _ _ rfl rfl
        rw [kn] at hx
        clear kn
        have kn : tm.getD 64 undef = .bool true := fin 10 _ _ rfl rfl
        rw [kn] at hx
        clear kn
        have kn : tm.getD 65 undef = .agg #[.int .i64 t, .string k, .string v] := fin 11 _ _ rfl rfl
        rw [kn] at hx
        clear kn
        have kn : tm.getD 66 undef = .agg #[.int .i64 t, .string k, .string v] := fin 12 _ _ rfl rfl
        rw [kn] at hx
        clear kn
        have kn : tm.getD 67 undef = .bool true := fin 13 _ _ rfl rfl
        rw [kn] at hx
        clear kn
        have kn : tm.getD 68 undef = .bool true := fin 14 _ _ rfl rfl
        rw [kn] at hx
        clear kn
        have kn : tm.getD 2 undef = .bool true := fin 15 _ _ rfl rfl
        rw [kn] at hx
        clear kn
        clear fin
        simp only [List.setIfInBounds_toArray, List.set_cons_succ, List.set_cons_zero] at hx
        subst hx
        have TZ := TA.below hb
        go_wp2
        go_ret
        exact ⟨rfl, TZ.le⟩
theorem back_walk (t : Int) (k v : ByteArray) (w : World) (wt : (Lit.int .i64 t).wf = true) (wk : k.size ≤ maxLen) (wv : v.size ≤ maxLen) :
    Calls Try.prog 3 #[.agg #[.int .i64 t, .string k, .string v]] w fun e w' => e = .returned (.bool true) ∧ Below w.heap.size w w' := by
  cases hl : lightB k v
  · exact back_long t k v w wt wk wv hl
  · cases hr : rightB t k v
    · exact back_wrong t k v w wt wk wv hl hr
    · exact back_right t k v w wt wk wv hl hr
end Go.Proofs.Ytkjngpiblbkccaa
