/-
  The walk of RowApart.
-/
import Derived.Test.YtkjngpiblbkccaaOrder
import Derived.Test.YtkjngpiblbkccaaGrow
namespace Go.Proofs.Ytkjngpiblbkccaa
open Go.RowKit

theorem lright_told (b : Bool) (t : Int) (k v : ByteArray) (w : World) (h : rightB t k v = b) :
    Calls Try.prog 12 #[.agg #[.int .i64 t, .string k, .string v]] w fun e w' => e = .returned (.bool b) ∧ Below w.heap.size w w' := by
  subst h
  exact lright_any t k v w
/-- A row's bytes, of what a row may be. -/
def encB (t : Int) (k v : ByteArray) : List UInt8 := encL t.toNat k.data.toList v.data.toList
theorem encB_length {t : Int} {k v : ByteArray} (h : rightB t k v = true) : (encB t k v).length = 40 := by
  obtain ⟨_, _, h3, h4⟩ := rightB_iff.1 h
  exact encL_length _ _ _ (by rw [size_data]; exact h3) (by rw [size_data]; exact h4)
theorem encB_inj {t t' : Int} {k v k' v' : ByteArray} (h : rightB t k v = true) (h' : rightB t' k' v' = true) (e : encB t k v = encB t' k' v') : t = t' ∧ k = k' ∧ v = v' := by
  obtain ⟨h1, h2, h3, h4⟩ := rightB_iff.1 h
  obtain ⟨h1', h2', h3', h4'⟩ := rightB_iff.1 h'
  obtain ⟨a1, a2, a3⟩ := row_enc t.toNat k.data.toList v.data.toList (by omega) (by rw [size_data]; exact h3) (by rw [size_data]; exact h4)
  obtain ⟨b1, b2, b3⟩ := row_enc t'.toNat k'.data.toList v'.data.toList (by omega) (by rw [size_data]; exact h3') (by rw [size_data]; exact h4')
  unfold encB at e
  rw [e] at a1 a2 a3
  exact ⟨by omega, WideShapes.bytes_inj (a2.symm.trans b2), WideShapes.bytes_inj (a3.symm.trans b3)⟩
/-- Encode, as a walk takes it. -/
theorem encode_grow (t : Int) (k v : ByteArray) (w : World) (h : rightB t k v = true) :
    Calls Try.prog 14 #[.agg #[.int .i64 t, .string k, .string v]] w fun e w' => ∃ u, e = .returned u ∧ (Say.rd 40 (encB t k v)).p w' u ∧ Below w.heap.size w w' := by
  obtain ⟨h1, h2, h3, h4⟩ := rightB_iff.1 h
  obtain ⟨n, rfl⟩ : ∃ n : Nat, t = (n : Int) := ⟨t.toNat, by omega⟩
  refine (encode_yes n k v w h).mono ?_
  rintro e w' ⟨u, rfl, hm, hb⟩
  obtain ⟨A, c, rfl⟩ := hm.form
  have hl : (encL n k.data.toList v.data.toList).length = 40 := encB_length h
  rw [hl]
  exact ⟨_, rfl, ⟨A, c, rfl, by have := hm.rd; rwa [hl] at this⟩, hb⟩

set_option maxHeartbeats 4000000 in
theorem apart_walk (t : Int) (k v : ByteArray) (t' : Int) (k' v' : ByteArray) (w : World) (_ : (Lit.int .i64 t).wf = true) (_ : k.size ≤ maxLen) (_ : v.size ≤ maxLen) (_ : (Lit.int .i64 t').wf = true) (_ : k'.size ≤ maxLen) (_ : v'.size ≤ maxLen) :
    Calls Try.prog 6 #[.agg #[.int .i64 t, .string k, .string v], .agg #[.int .i64 t', .string k', .string v']] w fun e w' => e = .returned (.bool true) ∧ Below w.heap.size w w' := by
  rcases hc0 : lightB k v with _ | _
  · have hl1 := hc0
    clear hc0
    go_enter Try.func6, Try.ntmps6
    go_wp2_with (first
      | (go_at_call 9; refine (fit_two w _ _ _ _ _ _).mono ?_; rintro e w1 ⟨rfl, T1⟩; obtain ⟨p11, p12, p13, p14, p15, p16⟩ := T1.cells)
      | (go_at_call 10; (with_reducible refine (light_told false t k v w1 hl1).mono ?_); rintro e w2 ⟨rfl, hb2⟩; have T2 := T1.below hb2; obtain ⟨p21, p22, p23, p24, p25, p26⟩ := T2.cells))
    go_ret
    exact ⟨rfl, T2.le⟩
  have hl1 := hc0
  clear hc0
  rcases hc1 : lightB k' v' with _ | _
  · have hl2 := hc1
    clear hc1
    go_enter Try.func6, Try.ntmps6
    go_wp2_with (first
      | (go_at_call 9; refine (fit_two w _ _ _ _ _ _).mono ?_; rintro e w1 ⟨rfl, T1⟩; obtain ⟨p11, p12, p13, p14, p15, p16⟩ := T1.cells)
      | (go_at_call 10; (with_reducible refine (light_told true t k v w1 hl1).mono ?_); rintro e w2 ⟨rfl, hb2⟩; have T2 := T1.below hb2; obtain ⟨p21, p22, p23, p24, p25, p26⟩ := T2.cells)
      | (go_at_call 10; (with_reducible refine (light_told false t' k' v' w2 hl2).mono ?_); rintro e w3 ⟨rfl, hb3⟩; have T3 := T2.below hb3; obtain ⟨p31, p32, p33, p34, p35, p36⟩ := T3.cells))
    go_ret
    exact ⟨rfl, T3.le⟩
  have hl2 := hc1
  clear hc1
  rcases hc2 : rightB t k v with _ | _
  · have hr1 := hc2
    clear hc2
    go_enter Try.func6, Try.ntmps6
    go_wp2_with (first
      | (go_at_call 9; refine (fit_two w _ _ _ _ _ _).mono ?_; rintro e w1 ⟨rfl, T1⟩; obtain ⟨p11, p12, p13, p14, p15, p16⟩ := T1.cells)
      | (go_at_call 10; (with_reducible refine (light_told true t k v w1 hl1).mono ?_); rintro e w2 ⟨rfl, hb2⟩; have T2 := T1.below hb2; obtain ⟨p21, p22, p23, p24, p25, p26⟩ := T2.cells)
      | (go_at_call 10; (with_reducible refine (light_told true t' k' v' w2 hl2).mono ?_); rintro e w3 ⟨rfl, hb3⟩; have T3 := T2.below hb3; obtain ⟨p31, p32, p33, p34, p35, p36⟩ := T3.cells)
      | (go_at_call 12; (with_reducible refine (lright_told false t k v w3 hr1).mono ?_); rintro e w4 ⟨rfl, hb4⟩; have T4 := T3.below hb4; obtain ⟨p41, p42, p43, p44, p45, p46⟩ := T4.cells))
    go_ret
    exact ⟨rfl, T4.le⟩
  have hr1 := hc2
  clear hc2
  rcases hc3 : rightB t' k' v' with _ | _
  · have hr2 := hc3
    clear hc3
    go_enter Try.func6, Try.ntmps6
    go_wp2_with (first
      | (go_at_call 9; refine (fit_two w _ _ _ _ _ _).mono ?_; rintro e w1 ⟨rfl, T1⟩; obtain ⟨p11, p12, p13, p14, p15, p16⟩ := T1.cells)
      | (go_at_call 10; (with_reducible refine (light_told true t k v w1 hl1).mono ?_); rintro e w2 ⟨rfl, hb2⟩; have T2 := T1.below hb2; obtain ⟨p21, p22, p23, p24, p25, p26⟩ := T2.cells)
      | (go_at_call 10; (with_reducible refine (light_told true t' k' v' w2 hl2).mono ?_); rintro e w3 ⟨rfl, hb3⟩; have T3 := T2.below hb3; obtain ⟨p31, p32, p33, p34, p35, p36⟩ := T3.cells)
      | (go_at_call 12; (with_reducible refine (lright_told true t k v w3 hr1).mono ?_); rintro e w4 ⟨rfl, hb4⟩; have T4 := T3.below hb4; obtain ⟨p41, p42, p43, p44, p45, p46⟩ := T4.cells)
      | (go_at_call 12; (with_reducible refine (lright_told false t' k' v' w4 hr2).mono ?_); rintro e w5 ⟨rfl, hb5⟩; have T5 := T4.below hb5; obtain ⟨p51, p52, p53, p54, p55, p56⟩ := T5.cells))
    go_ret
    exact ⟨rfl, T5.le⟩
  have hr2 := hc3
  clear hc3
  go_enter Try.func6, Try.ntmps6
  go_wp2_with (first
    | (go_at_call 9; refine (fit_two w _ _ _ _ _ _).mono ?_; rintro e w1 ⟨rfl, T1⟩; obtain ⟨p11, p12, p13, p14, p15, p16⟩ := T1.cells)
    | (go_at_call 10; (with_reducible refine (light_told true t k v w1 hl1).mono ?_); rintro e w2 ⟨rfl, hb2⟩; have T2 := T1.below hb2; obtain ⟨p21, p22, p23, p24, p25, p26⟩ := T2.cells)
    | (go_at_call 10; (with_reducible refine (light_told true t' k' v' w2 hl2).mono ?_); rintro e w3 ⟨rfl, hb3⟩; have T3 := T2.below hb3; obtain ⟨p31, p32, p33, p34, p35, p36⟩ := T3.cells)
    | (go_at_call 12; (with_reducible refine (lright_told true t k v w3 hr1).mono ?_); rintro e w4 ⟨rfl, hb4⟩; have T4 := T3.below hb4; obtain ⟨p41, p42, p43, p44, p45, p46⟩ := T4.cells)
    | (go_at_call 12; (with_reducible refine (lright_told true t' k' v' w4 hr2).mono ?_); rintro e w5 ⟨rfl, hb5⟩; have T5 := T4.below hb5; obtain ⟨p51, p52, p53, p54, p55, p56⟩ := T5.cells))
  have hlt0 := hide (T5.a.lt)
  have hlt1 := hide (T5.b.lt)
  have HLA := hide (encB_length hr1)
  have HLB := hide (encB_length hr2)
  refine region_grows [Say.is (.agg #[.int .i64 t, .string k, .string v]), Say.rd 40 (encB t k v), Say.is (.agg #[.int .i64 t', .string k', .string v']), Say.rd 40 (encB t' k' v'), Say.rd 40 (encB t k v), Say.rd 40 (encB t' k' v')] (by kernel_rfl) (by kernel_rfl) (by kernel_rfl) (by kernel_rfl) ?_ ?_
  · intro i o ho a w2 hb hsz old dep
    match i, ho with
    | 0, ho =>
      obtain rfl := Option.some.inj ho
      have o2 : a.tmps.getD 2 undef = _ := old 2 (by kernel_rfl)
      rw [if_pos (wanted_none rfl)]
      have g0 := (hb.cell (p := ⟨w.heap.size, 0, none⟩) hlt0.out).trans p51
      have g1 := (hb.cell (p := ⟨w.heap.size, 1, none⟩) hlt0.out).trans p52
      have g2 := (hb.cell (p := ⟨w.heap.size, 2, none⟩) hlt0.out).trans p53
      refine grow_same (v := .agg #[.int .i64 t, .string k, .string v]) ?_ rfl
      clear old dep ho hsz hb
      go_simp
    | 1, ho =>
      obtain rfl := Option.some.inj ho
      have d0 : a.tmps.getD 27 undef = .agg #[.int .i64 t, .string k, .string v] := dep 0 _ _ (by kernel_rfl) rfl rfl
      have e0 : a.tmps[27]?.getD undef = _ := (Array.getD_eq_getD_getElem? ..).symm.trans d0
      rw [if_pos (wanted_none rfl)]
      refine grow_enters (f := 14) (args := #[.agg #[.int .i64 t, .string k, .string v]]) ?_ (encode_grow t k v _ hr1)
      clear old dep ho hsz hb
      go_simp
    | 2, ho =>
      obtain rfl := Option.some.inj ho
      have o3 : a.tmps.getD 3 undef = _ := old 3 (by kernel_rfl)
      rw [if_pos (wanted_none rfl)]
      have g0 := (hb.cell (p := ⟨w.heap.size + 1, 0, none⟩) hlt1.out).trans p54
      have g1 := (hb.cell (p := ⟨w.heap.size + 1, 1, none⟩) hlt1.out).trans p55
      have g2 := (hb.cell (p := ⟨w.heap.size + 1, 2, none⟩) hlt1.out).trans p56
      refine grow_same (v := .agg #[.int .i64 t', .string k', .string v']) ?_ rfl
      clear old dep ho hsz hb
      go_simp
    | 3, ho =>
      obtain rfl := Option.some.inj ho
      have d2 : a.tmps.getD 29 undef = .agg #[.int .i64 t', .string k', .string v'] := dep 2 _ _ (by kernel_rfl) rfl rfl
      have e2 : a.tmps[29]?.getD undef = _ := (Array.getD_eq_getD_getElem? ..).symm.trans d2
      rw [if_pos (wanted_none rfl)]
      refine grow_enters (f := 14) (args := #[.agg #[.int .i64 t', .string k', .string v']]) ?_ (encode_grow t' k' v' _ hr2)
      clear old dep ho hsz hb
      go_simp
    | 4, ho =>
      obtain rfl := Option.some.inj ho
      obtain ⟨A1, C1, d1, r1⟩ : ∃ A c, a.tmps.getD 28 undef = .slice A 40 c ∧ Rd w2 (.slice A 40 c) (u8s (encB t k v)) := dep 1 _ _ (by kernel_rfl) rfl rfl
      have e1 : a.tmps[28]?.getD undef = _ := (Array.getD_eq_getD_getElem? ..).symm.trans d1
      rw [if_pos (wanted_none rfl)]
      refine grow_same (v := .slice A1 40 C1) ?_ ⟨_, _, rfl, r1⟩
      clear old dep ho hsz hb r1
      go_simp
    | 5, ho =>
      obtain rfl := Option.some.inj ho
      obtain ⟨A3, C3, d3, r3⟩ : ∃ A c, a.tmps.getD 30 undef = .slice A 40 c ∧ Rd w2 (.slice A 40 c) (u8s (encB t' k' v')) := dep 3 _ _ (by kernel_rfl) rfl rfl
      have e3 : a.tmps[30]?.getD undef = _ := (Array.getD_eq_getD_getElem? ..).symm.trans d3
      rw [if_pos (wanted_none rfl)]
      refine grow_same (v := .slice A3 40 C3) ?_ ⟨_, _, rfl, r3⟩
      clear old dep ho hsz hb r3
      go_simp
    | i + 6, ho => exact absurd ho (by simp)
  · intro a w6 hb hsz hdf fin keep
    obtain ⟨tm, df⟩ := a
    have hx := frame_of [27, 28, 29, 30, 5, 6] (by kernel_rfl) hsz keep
    dsimp only at hdf hx
    simp only [List.foldl_cons, List.foldl_nil] at hx
    subst hdf
    clear hsz keep
    have kn : tm.getD 27 undef = .agg #[.int .i64 t, .string k, .string v] := fin 0 _ _ rfl rfl
    rw [kn] at hx
    clear kn
    obtain ⟨A28, C28, kn, R28⟩ : ∃ A c, tm.getD 28 undef = .slice A 40 c ∧ Rd w6 (.slice A 40 c) (u8s (encB t k v)) := fin 1 _ _ rfl rfl
    rw [kn] at hx
    clear kn
    clear R28
    have kn : tm.getD 29 undef = .agg #[.int .i64 t', .string k', .string v'] := fin 2 _ _ rfl rfl
    rw [kn] at hx
    clear kn
    obtain ⟨A30, C30, kn, R30⟩ : ∃ A c, tm.getD 30 undef = .slice A 40 c ∧ Rd w6 (.slice A 40 c) (u8s (encB t' k' v')) := fin 3 _ _ rfl rfl
    rw [kn] at hx
    clear kn
    clear R30
    obtain ⟨A5, C5, kn, R5⟩ : ∃ A c, tm.getD 5 undef = .slice A 40 c ∧ Rd w6 (.slice A 40 c) (u8s (encB t k v)) := fin 4 _ _ rfl rfl
    rw [kn] at hx
    clear kn
    obtain ⟨A6, C6, kn, R6⟩ : ∃ A c, tm.getD 6 undef = .slice A 40 c ∧ Rd w6 (.slice A 40 c) (u8s (encB t' k' v')) := fin 5 _ _ rfl rfl
    rw [kn] at hx
    clear kn
    clear fin
    simp only [List.setIfInBounds_toArray, List.set_cons_succ, List.set_cons_zero] at hx
    subst hx
    have T6 := T5.below hb
    obtain ⟨p61, p62, p63, p64, p65, p66⟩ := T6.cells
    clear p51 p52 p53 p54 p55 p56 hb hlt0 hlt1
    have hlt0 := hide (T6.a.lt)
    have hlt1 := hide (T6.b.lt)
    go_wp2
    have HR5 := hide R5
    have HR6 := hide R6
    clear R5 R6
    clear hb2 hb3 hb4 hb5 T1 T2 T3 T4 T5 p11 p12 p13 p14 p15 p16 p21 p22 p23 p24 p25 p26 p31 p32 p33 p34 p35 p36 p41 p42 p43 p44 p45 p46
    by_cases he : encB t k v = encB t' k' v'
    · obtain ⟨rfl, rfl, rfl⟩ := encB_inj hr1 hr2 he
      clear he
      refine region_grows [Say.is (.slice A5 40 C5), Say.is (.int .i64 40), Say.is (.bool true), Say.is (.bool true), Say.is (.slice A6 40 C6), Say.is (.int .i64 40), Say.is (.bool true), Say.is (.bool true), Say.is (.bool true), Say.is (.slice A5 40 C5), Say.is (.string ⟨(encB t k v).toArray⟩), Say.is (.slice A6 40 C6), Say.is (.string ⟨(encB t k v).toArray⟩), Say.is (.bool true), Say.is (.agg #[.int .i64 t, .string k, .string v]), Say.is (.agg #[.int .i64 t, .string k, .string v]), Say.is (.bool true), Say.is (.bool true), Say.is (.bool true), Say.is (.bool true)] (by kernel_rfl) (by kernel_rfl) (by kernel_rfl) (by kernel_rfl) ?_ ?_
      · intro i o ho a w2 hb hsz old dep
        match i, ho with
        | 0, ho =>
          obtain rfl := Option.some.inj ho
          have o5 : a.tmps.getD 5 undef = _ := old 5 (by kernel_rfl)
          rw [if_pos (wanted_none rfl)]
          refine grow_same (v := .slice A5 40 C5) ?_ rfl
          clear old dep ho hsz hb
          go_simp
        | 1, ho =>
          obtain rfl := Option.some.inj ho
          have d0 : a.tmps.getD 31 undef = .slice A5 40 C5 := dep 0 _ _ (by kernel_rfl) rfl rfl
          have e0 : a.tmps[31]?.getD undef = _ := (Array.getD_eq_getD_getElem? ..).symm.trans d0
          rw [if_pos (wanted_none rfl)]
          refine grow_same (v := .int .i64 40) ?_ rfl
          clear old dep ho hsz hb
          go_simp
        | 2, ho =>
          obtain rfl := Option.some.inj ho
          have d1 : a.tmps.getD 32 undef = .int .i64 40 := dep 1 _ _ (by kernel_rfl) rfl rfl
          have e1 : a.tmps[32]?.getD undef = _ := (Array.getD_eq_getD_getElem? ..).symm.trans d1
          rw [if_pos (wanted_none rfl)]
          refine grow_same (v := .bool true) ?_ rfl
          clear old dep ho hsz hb
          go_simp
        | 3, ho =>
          obtain rfl := Option.some.inj ho
          have d2 : a.tmps.getD 33 undef = .bool true := dep 2 _ _ (by kernel_rfl) rfl rfl
          have e2 : a.tmps[33]?.getD undef = _ := (Array.getD_eq_getD_getElem? ..).symm.trans d2
          rw [if_pos (wanted_none rfl)]
          refine grow_same (v := .bool true) ?_ rfl
          clear old dep ho hsz hb
          go_simp
        | 4, ho =>
          obtain rfl := Option.some.inj ho
          have o6 : a.tmps.getD 6 undef = _ := old 6 (by kernel_rfl)
          have d3 : a.tmps.getD 34 undef = .bool true := dep 3 _ _ (by kernel_rfl) rfl rfl
          have e3 : a.tmps[34]?.getD undef = _ := (Array.getD_eq_getD_getElem? ..).symm.trans d3
          rw [if_pos (wanted_some rfl rfl rfl (by rw [hsz]; exact of_decide_eq_true rfl) d3)]
          refine grow_same (v := .slice A6 40 C6) ?_ rfl
          clear old dep ho hsz hb
          go_simp
        | 5, ho =>
          obtain rfl := Option.some.inj ho
          have d4 : a.tmps.getD 35 undef = .slice A6 40 C6 := dep 4 _ _ (by kernel_rfl) rfl rfl
          have e4 : a.tmps[35]?.getD undef = _ := (Array.getD_eq_getD_getElem? ..).symm.trans d4
          have d3 : a.tmps.getD 34 undef = .bool true := dep 3 _ _ (by kernel_rfl) rfl rfl
          have e3 : a.tmps[34]?.getD undef = _ := (Array.getD_eq_getD_getElem? ..).symm.trans d3
          rw [if_pos (wanted_some rfl rfl rfl (by rw [hsz]; exact of_decide_eq_true rfl) d3)]
          refine grow_same (v := .int .i64 40) ?_ rfl
          clear old dep ho hsz hb
          go_simp
        | 6, ho =>
          obtain rfl := Option.some.inj ho
          have d5 : a.tmps.getD 36 undef = .int .i64 40 := dep 5 _ _ (by kernel_rfl) rfl rfl
          have e5 : a.tmps[36]?.getD undef = _ := (Array.getD_eq_getD_getElem? ..).symm.trans d5
          have d3 : a.tmps.getD 34 undef = .bool true := dep 3 _ _ (by kernel_rfl) rfl rfl
          have e3 : a.tmps[34]?.getD undef = _ := (Array.getD_eq_getD_getElem? ..).symm.trans d3
          rw [if_pos (wanted_some rfl rfl rfl (by rw [hsz]; exact of_decide_eq_true rfl) d3)]
          refine grow_same (v := .bool true) ?_ rfl
          clear old dep ho hsz hb
          go_simp
        | 7, ho =>
          obtain rfl := Option.some.inj ho
          have d3 : a.tmps.getD 34 undef = .bool true := dep 3 _ _ (by kernel_rfl) rfl rfl
          have e3 : a.tmps[34]?.getD undef = _ := (Array.getD_eq_getD_getElem? ..).symm.trans d3
          have d6 : a.tmps.getD 37 undef = .bool true := dep 6 _ _ (by kernel_rfl) rfl rfl
          have e6 : a.tmps[37]?.getD undef = _ := (Array.getD_eq_getD_getElem? ..).symm.trans d6
          rw [if_pos (wanted_none rfl)]
          refine grow_same (v := .bool true) ?_ rfl
          clear old dep ho hsz hb
          go_simp
        | 8, ho =>
          obtain rfl := Option.some.inj ho
          have d7 : a.tmps.getD 38 undef = .bool true := dep 7 _ _ (by kernel_rfl) rfl rfl
          have e7 : a.tmps[38]?.getD undef = _ := (Array.getD_eq_getD_getElem? ..).symm.trans d7
          rw [if_pos (wanted_none rfl)]
          refine grow_same (v := .bool true) ?_ rfl
          clear old dep ho hsz hb
          go_simp
        | 9, ho =>
          obtain rfl := Option.some.inj ho
          have o5 : a.tmps.getD 5 undef = _ := old 5 (by kernel_rfl)
          have d8 : a.tmps.getD 39 undef = .bool true := dep 8 _ _ (by kernel_rfl) rfl rfl
          have e8 : a.tmps[39]?.getD undef = _ := (Array.getD_eq_getD_getElem? ..).symm.trans d8
          rw [if_pos (wanted_some rfl rfl rfl (by rw [hsz]; exact of_decide_eq_true rfl) d8)]
          refine grow_same (v := .slice A5 40 C5) ?_ rfl
          clear old dep ho hsz hb
          go_simp
        | 10, ho =>
          obtain rfl := Option.some.inj ho
          have d9 : a.tmps.getD 40 undef = .slice A5 40 C5 := dep 9 _ _ (by kernel_rfl) rfl rfl
          have e9 : a.tmps[40]?.getD undef = _ := (Array.getD_eq_getD_getElem? ..).symm.trans d9
          have d8 : a.tmps.getD 39 undef = .bool true := dep 8 _ _ (by kernel_rfl) rfl rfl
          have e8 : a.tmps[39]?.getD undef = _ := (Array.getD_eq_getD_getElem? ..).symm.trans d8
          rw [if_pos (wanted_some rfl rfl rfl (by rw [hsz]; exact of_decide_eq_true rfl) d8)]
          have hcv := conv_rdn HLA.out (HR5.out.below hb)
          refine grow_same (v := .string ⟨(encB t k v).toArray⟩) ?_ rfl
          clear old dep ho hsz hb
          go_simp
        | 11, ho =>
          obtain rfl := Option.some.inj ho
          have o6 : a.tmps.getD 6 undef = _ := old 6 (by kernel_rfl)
          have d8 : a.tmps.getD 39 undef = .bool true := dep 8 _ _ (by kernel_rfl) rfl rfl
          have e8 : a.tmps[39]?.getD undef = _ := (Array.getD_eq_getD_getElem? ..).symm.trans d8
          rw [if_pos (wanted_some rfl rfl rfl (by rw [hsz]; exact of_decide_eq_true rfl) d8)]
          refine grow_same (v := .slice A6 40 C6) ?_ rfl
          clear old dep ho hsz hb
          go_simp
        | 12, ho =>
          obtain rfl := Option.some.inj ho
          have d11 : a.tmps.getD 42 undef = .slice A6 40 C6 := dep 11 _ _ (by kernel_rfl) rfl rfl
          have e11 : a.tmps[42]?.getD undef = _ := (Array.getD_eq_getD_getElem? ..).symm.trans d11
          have d8 : a.tmps.getD 39 undef = .bool true := dep 8 _ _ (by kernel_rfl) rfl rfl
          have e8 : a.tmps[39]?.getD undef = _ := (Array.getD_eq_getD_getElem? ..).symm.trans d8
          rw [if_pos (wanted_some rfl rfl rfl (by rw [hsz]; exact of_decide_eq_true rfl) d8)]
          have hcv := conv_rdn HLB.out (HR6.out.below hb)
          refine grow_same (v := .string ⟨(encB t k v).toArray⟩) ?_ rfl
          clear old dep ho hsz hb
          go_simp
        | 13, ho =>
          obtain rfl := Option.some.inj ho
          have d10 : a.tmps.getD 41 undef = .string ⟨(encB t k v).toArray⟩ := dep 10 _ _ (by kernel_rfl) rfl rfl
          have e10 : a.tmps[41]?.getD undef = _ := (Array.getD_eq_getD_getElem? ..).symm.trans d10
          have d12 : a.tmps.getD 43 undef = .string ⟨(encB t k v).toArray⟩ := dep 12 _ _ (by kernel_rfl) rfl rfl
          have e12 : a.tmps[43]?.getD undef = _ := (Array.getD_eq_getD_getElem? ..).symm.trans d12
          have d8 : a.tmps.getD 39 undef = .bool true := dep 8 _ _ (by kernel_rfl) rfl rfl
          have e8 : a.tmps[39]?.getD undef = _ := (Array.getD_eq_getD_getElem? ..).symm.trans d8
          rw [if_pos (wanted_some rfl rfl rfl (by rw [hsz]; exact of_decide_eq_true rfl) d8)]
          refine grow_same (v := .bool true) ?_ rfl
          clear old dep ho hsz hb
          go_simp
        | 14, ho =>
          obtain rfl := Option.some.inj ho
          have o2 : a.tmps.getD 2 undef = _ := old 2 (by kernel_rfl)
          have d8 : a.tmps.getD 39 undef = .bool true := dep 8 _ _ (by kernel_rfl) rfl rfl
          have e8 : a.tmps[39]?.getD undef = _ := (Array.getD_eq_getD_getElem? ..).symm.trans d8
          rw [if_pos (wanted_some rfl rfl rfl (by rw [hsz]; exact of_decide_eq_true rfl) d8)]
          have g0 := (hb.cell (p := ⟨w.heap.size, 0, none⟩) hlt0.out).trans p61
          have g1 := (hb.cell (p := ⟨w.heap.size, 1, none⟩) hlt0.out).trans p62
          have g2 := (hb.cell (p := ⟨w.heap.size, 2, none⟩) hlt0.out).trans p63
          refine grow_same (v := .agg #[.int .i64 t, .string k, .string v]) ?_ rfl
          clear old dep ho hsz hb
          go_simp
        | 15, ho =>
          obtain rfl := Option.some.inj ho
          have o3 : a.tmps.getD 3 undef = _ := old 3 (by kernel_rfl)
          have d8 : a.tmps.getD 39 undef = .bool true := dep 8 _ _ (by kernel_rfl) rfl rfl
          have e8 : a.tmps[39]?.getD undef = _ := (Array.getD_eq_getD_getElem? ..).symm.trans d8
          rw [if_pos (wanted_some rfl rfl rfl (by rw [hsz]; exact of_decide_eq_true rfl) d8)]
          have g0 := (hb.cell (p := ⟨w.heap.size + 1, 0, none⟩) hlt1.out).trans p64
          have g1 := (hb.cell (p := ⟨w.heap.size + 1, 1, none⟩) hlt1.out).trans p65
          have g2 := (hb.cell (p := ⟨w.heap.size + 1, 2, none⟩) hlt1.out).trans p66
          refine grow_same (v := .agg #[.int .i64 t, .string k, .string v]) ?_ rfl
          clear old dep ho hsz hb
          go_simp
        | 16, ho =>
          obtain rfl := Option.some.inj ho
          have d14 : a.tmps.getD 45 undef = .agg #[.int .i64 t, .string k, .string v] := dep 14 _ _ (by kernel_rfl) rfl rfl
          have e14 : a.tmps[45]?.getD undef = _ := (Array.getD_eq_getD_getElem? ..).symm.trans d14
          have d15 : a.tmps.getD 46 undef = .agg #[.int .i64 t, .string k, .string v] := dep 15 _ _ (by kernel_rfl) rfl rfl
          have e15 : a.tmps[46]?.getD undef = _ := (Array.getD_eq_getD_getElem? ..).symm.trans d15
          have d8 : a.tmps.getD 39 undef = .bool true := dep 8 _ _ (by kernel_rfl) rfl rfl
          have e8 : a.tmps[39]?.getD undef = _ := (Array.getD_eq_getD_getElem? ..).symm.trans d8
          rw [if_pos (wanted_some rfl rfl rfl (by rw [hsz]; exact of_decide_eq_true rfl) d8)]
          refine grow_same (v := .bool true) ?_ rfl
          clear old dep ho hsz hb
          go_simp
        | 17, ho =>
          obtain rfl := Option.some.inj ho
          have d13 : a.tmps.getD 44 undef = .bool true := dep 13 _ _ (by kernel_rfl) rfl rfl
          have e13 : a.tmps[44]?.getD undef = _ := (Array.getD_eq_getD_getElem? ..).symm.trans d13
          have d16 : a.tmps.getD 47 undef = .bool true := dep 16 _ _ (by kernel_rfl) rfl rfl
          have e16 : a.tmps[47]?.getD undef = _ := (Array.getD_eq_getD_getElem? ..).symm.trans d16
          have d8 : a.tmps.getD 39 undef = .bool true := dep 8 _ _ (by kernel_rfl) rfl rfl
          have e8 : a.tmps[39]?.getD undef = _ := (Array.getD_eq_getD_getElem? ..).symm.trans d8
          rw [if_pos (wanted_some rfl rfl rfl (by rw [hsz]; exact of_decide_eq_true rfl) d8)]
          refine grow_same (v := .bool true) ?_ rfl
          clear old dep ho hsz hb
          go_simp
        | 18, ho =>
          obtain rfl := Option.some.inj ho
          have d8 : a.tmps.getD 39 undef = .bool true := dep 8 _ _ (by kernel_rfl) rfl rfl
          have e8 : a.tmps[39]?.getD undef = _ := (Array.getD_eq_getD_getElem? ..).symm.trans d8
          have d17 : a.tmps.getD 48 undef = .bool true := dep 17 _ _ (by kernel_rfl) rfl rfl
          have e17 : a.tmps[48]?.getD undef = _ := (Array.getD_eq_getD_getElem? ..).symm.trans d17
          rw [if_pos (wanted_none rfl)]
          refine grow_same (v := .bool true) ?_ rfl
          clear old dep ho hsz hb
          go_simp
        | 19, ho =>
          obtain rfl := Option.some.inj ho
          have d18 : a.tmps.getD 49 undef = .bool true := dep 18 _ _ (by kernel_rfl) rfl rfl
          have e18 : a.tmps[49]?.getD undef = _ := (Array.getD_eq_getD_getElem? ..).symm.trans d18
          rw [if_pos (wanted_none rfl)]
          refine grow_same (v := .bool true) ?_ rfl
          clear old dep ho hsz hb
          go_simp
        | i + 20, ho => exact absurd ho (by simp)
      · intro a w7 hb hsz hdf fin keep
        obtain ⟨tm, df⟩ := a
        have hx := frame_of [31, 32, 33, 34, 35, 36, 37, 38, 39, 40, 41, 42, 43, 44, 45, 46, 47, 48, 49, 4] (by kernel_rfl) hsz keep
        dsimp only at hdf hx
        simp only [List.foldl_cons, List.foldl_nil] at hx
        subst hdf
        clear hsz keep
        have kn : tm.getD 31 undef = .slice A5 40 C5 := fin 0 _ _ rfl rfl
        rw [kn] at hx
        clear kn
        have kn : tm.getD 32 undef = .int .i64 40 := fin 1 _ _ rfl rfl
        rw [kn] at hx
        clear kn
        have kn : tm.getD 33 undef = .bool true := fin 2 _ _ rfl rfl
        rw [kn] at hx
        clear kn
        have kn : tm.getD 34 undef = .bool true := fin 3 _ _ rfl rfl
        rw [kn] at hx
        clear kn
        have kn : tm.getD 35 undef = .slice A6 40 C6 := fin 4 _ _ rfl rfl
        rw [kn] at hx
        clear kn
        have kn : tm.getD 36 undef = .int .i64 40 := fin 5 _ _ rfl rfl
        rw [kn] at hx
        clear kn
        have kn : tm.getD 37 undef = .bool true := fin 6 _ _ rfl rfl
        rw [kn] at hx
        clear kn
        have kn : tm.getD 38 undef = .bool true := fin 7 _ _ rfl rfl
        rw [kn] at hx
        clear kn
        have kn : tm.getD 39 undef = .bool true := fin 8 _ _ rfl rfl
        rw [kn] at hx
        clear kn
        have kn : tm.getD 40 undef = .slice A5 40 C5 := fin 9 _ _ rfl rfl
        rw [kn] at hx
        clear kn
        have kn : tm.getD 41 undef = .string ⟨(encB t k v).toArray⟩ := fin 10 _ _ rfl rfl
        rw [kn] at hx
        clear kn
        have kn : tm.getD 42 undef = .slice A6 40 C6 := fin 11 _ _ rfl rfl
        rw [kn] at hx
        clear kn
        have kn : tm.getD 43 undef = .string ⟨(encB t k v).toArray⟩ := fin 12 _ _ rfl rfl
        rw [kn] at hx
        clear kn
        have kn : tm.getD 44 undef = .bool true := fin 13 _ _ rfl rfl
        rw [kn] at hx
        clear kn
        have kn : tm.getD 45 undef = .agg #[.int .i64 t, .string k, .string v] := fin 14 _ _ rfl rfl
        rw [kn] at hx
        clear kn
        have kn : tm.getD 46 undef = .agg #[.int .i64 t, .string k, .string v] := fin 15 _ _ rfl rfl
        rw [kn] at hx
        clear kn
        have kn : tm.getD 47 undef = .bool true := fin 16 _ _ rfl rfl
        rw [kn] at hx
        clear kn
        have kn : tm.getD 48 undef = .bool true := fin 17 _ _ rfl rfl
        rw [kn] at hx
        clear kn
        have kn : tm.getD 49 undef = .bool true := fin 18 _ _ rfl rfl
        rw [kn] at hx
        clear kn
        have kn : tm.getD 4 undef = .bool true := fin 19 _ _ rfl rfl
        rw [kn] at hx
        clear kn
        clear fin
        simp only [List.setIfInBounds_toArray, List.set_cons_succ, List.set_cons_zero] at hx
        subst hx
        have T7 := T6.below hb
        go_wp2
        go_ret
        exact ⟨rfl, T7.le⟩
    · have HN := hide (show encB t k v ≠ encB t' k' v' from he)
      clear he
      by_cases h1 : t = t'
      · subst h1
        by_cases h2 : k = k'
        · subst h2
          have h3 : (v.toList == v'.toList) = false := by rw [beq_eq_false_iff_ne, ByteArray.toList_eq, ByteArray.toList_eq]; exact fun e => HN.out (by rw [WideShapes.bytes_inj e])
          have H3 := hide h3
          clear h3
          refine region_grows [Say.is (.slice A5 40 C5), Say.is (.int .i64 40), Say.is (.bool true), Say.is (.bool true), Say.is (.slice A6 40 C6), Say.is (.int .i64 40), Say.is (.bool true), Say.is (.bool true), Say.is (.bool true), Say.is (.slice A5 40 C5), Say.is (.string ⟨(encB t k v).toArray⟩), Say.is (.slice A6 40 C6), Say.is (.string ⟨(encB t k v').toArray⟩), Say.is (.bool false), Say.is (.agg #[.int .i64 t, .string k, .string v]), Say.is (.agg #[.int .i64 t, .string k, .string v']), Say.is (.bool false), Say.is (.bool true), Say.is (.bool true), Say.is (.bool true)] (by kernel_rfl) (by kernel_rfl) (by kernel_rfl) (by kernel_rfl) ?_ ?_
          · intro i o ho a w2 hb hsz old dep
            match i, ho with
            | 0, ho =>
              obtain rfl := Option.some.inj ho
              have o5 : a.tmps.getD 5 undef = _ := old 5 (by kernel_rfl)
              rw [if_pos (wanted_none rfl)]
              refine grow_same (v := .slice A5 40 C5) ?_ rfl
              clear old dep ho hsz hb
              go_simp
            | 1, ho =>
              obtain rfl := Option.some.inj ho
              have d0 : a.tmps.getD 31 undef = .slice A5 40 C5 := dep 0 _ _ (by kernel_rfl) rfl rfl
              have e0 : a.tmps[31]?.getD undef = _ := (Array.getD_eq_getD_getElem? ..).symm.trans d0
              rw [if_pos (wanted_none rfl)]
              refine grow_same (v := .int .i64 40) ?_ rfl
              clear old dep ho hsz hb
              go_simp
            | 2, ho =>
              obtain rfl := Option.some.inj ho
              have d1 : a.tmps.getD 32 undef = .int .i64 40 := dep 1 _ _ (by kernel_rfl) rfl rfl
              have e1 : a.tmps[32]?.getD undef = _ := (Array.getD_eq_getD_getElem? ..).symm.trans d1
              rw [if_pos (wanted_none rfl)]
              refine grow_same (v := .bool true) ?_ rfl
              clear old dep ho hsz hb
              go_simp
            | 3, ho =>
              obtain rfl := Option.some.inj ho
              have d2 : a.tmps.getD 33 undef = .bool true := dep 2 _ _ (by kernel_rfl) rfl rfl
              have e2 : a.tmps[33]?.getD undef = _ := (Array.getD_eq_getD_getElem? ..).symm.trans d2
              rw [if_pos (wanted_none rfl)]
              refine grow_same (v := .bool true) ?_ rfl
              clear old dep ho hsz hb
              go_simp
            | 4, ho =>
              obtain rfl := Option.some.inj ho
              have o6 : a.tmps.getD 6 undef = _ := old 6 (by kernel_rfl)
              have d3 : a.tmps.getD 34 undef = .bool true := dep 3 _ _ (by kernel_rfl) rfl rfl
              have e3 : a.tmps[34]?.getD undef = _ := (Array.getD_eq_getD_getElem? ..).symm.trans d3
              rw [if_pos (wanted_some rfl rfl rfl (by rw [hsz]; exact of_decide_eq_true rfl) d3)]
              refine grow_same (v := .slice A6 40 C6) ?_ rfl
              clear old dep ho hsz hb
              go_simp
            | 5, ho =>
              obtain rfl := Option.some.inj ho
              have d4 : a.tmps.getD 35 undef = .slice A6 40 C6 := dep 4 _ _ (by kernel_rfl) rfl rfl
              have e4 : a.tmps[35]?.getD undef = _ := (Array.getD_eq_getD_getElem? ..).symm.trans d4
              have d3 : a.tmps.getD 34 undef = .bool true := dep 3 _ _ (by kernel_rfl) rfl rfl
              have e3 : a.tmps[34]?.getD undef = _ := (Array.getD_eq_getD_getElem? ..).symm.trans d3
              rw [if_pos (wanted_some rfl rfl rfl (by rw [hsz]; exact of_decide_eq_true rfl) d3)]
              refine grow_same (v := .int .i64 40) ?_ rfl
              clear old dep ho hsz hb
              go_simp
            | 6, ho =>
              obtain rfl := Option.some.inj ho
              have d5 : a.tmps.getD 36 undef = .int .i64 40 := dep 5 _ _ (by kernel_rfl) rfl rfl
              have e5 : a.tmps[36]?.getD undef = _ := (Array.getD_eq_getD_getElem? ..).symm.trans d5
              have d3 : a.tmps.getD 34 undef = .bool true := dep 3 _ _ (by kernel_rfl) rfl rfl
              have e3 : a.tmps[34]?.getD undef = _ := (Array.getD_eq_getD_getElem? ..).symm.trans d3
              rw [if_pos (wanted_some rfl rfl rfl (by rw [hsz]; exact of_decide_eq_true rfl) d3)]
              refine grow_same (v := .bool true) ?_ rfl
              clear old dep ho hsz hb
              go_simp
            | 7, ho =>
              obtain rfl := Option.some.inj ho
              have d3 : a.tmps.getD 34 undef = .bool true := dep 3 _ _ (by kernel_rfl) rfl rfl
              have e3 : a.tmps[34]?.getD undef = _ := (Array.getD_eq_getD_getElem? ..).symm.trans d3
              have d6 : a.tmps.getD 37 undef = .bool true := dep 6 _ _ (by kernel_rfl) rfl rfl
              have e6 : a.tmps[37]?.getD undef = _ := (Array.getD_eq_getD_getElem? ..).symm.trans d6
              rw [if_pos (wanted_none rfl)]
              refine grow_same (v := .bool true) ?_ rfl
              clear old dep ho hsz hb
              go_simp
            | 8, ho =>
              obtain rfl := Option.some.inj ho
              have d7 : a.tmps.getD 38 undef = .bool true := dep 7 _ _ (by kernel_rfl) rfl rfl
              have e7 : a.tmps[38]?.getD undef = _ := (Array.getD_eq_getD_getElem? ..).symm.trans d7
              rw [if_pos (wanted_none rfl)]
              refine grow_same (v := .bool true) ?_ rfl
              clear old dep ho hsz hb
              go_simp
            | 9, ho =>
              obtain rfl := Option.some.inj ho
              have o5 : a.tmps.getD 5 undef = _ := old 5 (by kernel_rfl)
              have d8 : a.tmps.getD 39 undef = .bool true := dep 8 _ _ (by kernel_rfl) rfl rfl
              have e8 : a.tmps[39]?.getD undef = _ := (Array.getD_eq_getD_getElem? ..).symm.trans d8
              rw [if_pos (wanted_some rfl rfl rfl (by rw [hsz]; exact of_decide_eq_true rfl) d8)]
              refine grow_same (v := .slice A5 40 C5) ?_ rfl
              clear old dep ho hsz hb
              go_simp
            | 10, ho =>
              obtain rfl := Option.some.inj ho
              have d9 : a.tmps.getD 40 undef = .slice A5 40 C5 := dep 9 _ _ (by kernel_rfl) rfl rfl
              have e9 : a.tmps[40]?.getD undef = _ := (Array.getD_eq_getD_getElem? ..).symm.trans d9
              have d8 : a.tmps.getD 39 undef = .bool true := dep 8 _ _ (by kernel_rfl) rfl rfl
              have e8 : a.tmps[39]?.getD undef = _ := (Array.getD_eq_getD_getElem? ..).symm.trans d8
              rw [if_pos (wanted_some rfl rfl rfl (by rw [hsz]; exact of_decide_eq_true rfl) d8)]
              have hcv := conv_rdn HLA.out (HR5.out.below hb)
              refine grow_same (v := .string ⟨(encB t k v).toArray⟩) ?_ rfl
              clear old dep ho hsz hb
              go_simp
            | 11, ho =>
              obtain rfl := Option.some.inj ho
              have o6 : a.tmps.getD 6 undef = _ := old 6 (by kernel_rfl)
              have d8 : a.tmps.getD 39 undef = .bool true := dep 8 _ _ (by kernel_rfl) rfl rfl
              have e8 : a.tmps[39]?.getD undef = _ := (Array.getD_eq_getD_getElem? ..).symm.trans d8
              rw [if_pos (wanted_some rfl rfl rfl (by rw [hsz]; exact of_decide_eq_true rfl) d8)]
              refine grow_same (v := .slice A6 40 C6) ?_ rfl
              clear old dep ho hsz hb
              go_simp
            | 12, ho =>
              obtain rfl := Option.some.inj ho
              have d11 : a.tmps.getD 42 undef = .slice A6 40 C6 := dep 11 _ _ (by kernel_rfl) rfl rfl
              have e11 : a.tmps[42]?.getD undef = _ := (Array.getD_eq_getD_getElem? ..).symm.trans d11
              have d8 : a.tmps.getD 39 undef = .bool true := dep 8 _ _ (by kernel_rfl) rfl rfl
              have e8 : a.tmps[39]?.getD undef = _ := (Array.getD_eq_getD_getElem? ..).symm.trans d8
              rw [if_pos (wanted_some rfl rfl rfl (by rw [hsz]; exact of_decide_eq_true rfl) d8)]
              have hcv := conv_rdn HLB.out (HR6.out.below hb)
              refine grow_same (v := .string ⟨(encB t k v').toArray⟩) ?_ rfl
              clear old dep ho hsz hb
              go_simp
            | 13, ho =>
              obtain rfl := Option.some.inj ho
              have d10 : a.tmps.getD 41 undef = .string ⟨(encB t k v).toArray⟩ := dep 10 _ _ (by kernel_rfl) rfl rfl
              have e10 : a.tmps[41]?.getD undef = _ := (Array.getD_eq_getD_getElem? ..).symm.trans d10
              have d12 : a.tmps.getD 43 undef = .string ⟨(encB t k v').toArray⟩ := dep 12 _ _ (by kernel_rfl) rfl rfl
              have e12 : a.tmps[43]?.getD undef = _ := (Array.getD_eq_getD_getElem? ..).symm.trans d12
              have d8 : a.tmps.getD 39 undef = .bool true := dep 8 _ _ (by kernel_rfl) rfl rfl
              have e8 : a.tmps[39]?.getD undef = _ := (Array.getD_eq_getD_getElem? ..).symm.trans d8
              rw [if_pos (wanted_some rfl rfl rfl (by rw [hsz]; exact of_decide_eq_true rfl) d8)]
              have hne := HN.out
              refine grow_same (v := .bool false) ?_ rfl
              clear old dep ho hsz hb
              go_simp
            | 14, ho =>
              obtain rfl := Option.some.inj ho
              have o2 : a.tmps.getD 2 undef = _ := old 2 (by kernel_rfl)
              have d8 : a.tmps.getD 39 undef = .bool true := dep 8 _ _ (by kernel_rfl) rfl rfl
              have e8 : a.tmps[39]?.getD undef = _ := (Array.getD_eq_getD_getElem? ..).symm.trans d8
              rw [if_pos (wanted_some rfl rfl rfl (by rw [hsz]; exact of_decide_eq_true rfl) d8)]
              have g0 := (hb.cell (p := ⟨w.heap.size, 0, none⟩) hlt0.out).trans p61
              have g1 := (hb.cell (p := ⟨w.heap.size, 1, none⟩) hlt0.out).trans p62
              have g2 := (hb.cell (p := ⟨w.heap.size, 2, none⟩) hlt0.out).trans p63
              refine grow_same (v := .agg #[.int .i64 t, .string k, .string v]) ?_ rfl
              clear old dep ho hsz hb
              go_simp
            | 15, ho =>
              obtain rfl := Option.some.inj ho
              have o3 : a.tmps.getD 3 undef = _ := old 3 (by kernel_rfl)
              have d8 : a.tmps.getD 39 undef = .bool true := dep 8 _ _ (by kernel_rfl) rfl rfl
              have e8 : a.tmps[39]?.getD undef = _ := (Array.getD_eq_getD_getElem? ..).symm.trans d8
              rw [if_pos (wanted_some rfl rfl rfl (by rw [hsz]; exact of_decide_eq_true rfl) d8)]
              have g0 := (hb.cell (p := ⟨w.heap.size + 1, 0, none⟩) hlt1.out).trans p64
              have g1 := (hb.cell (p := ⟨w.heap.size + 1, 1, none⟩) hlt1.out).trans p65
              have g2 := (hb.cell (p := ⟨w.heap.size + 1, 2, none⟩) hlt1.out).trans p66
              refine grow_same (v := .agg #[.int .i64 t, .string k, .string v']) ?_ rfl
              clear old dep ho hsz hb
              go_simp
            | 16, ho =>
              obtain rfl := Option.some.inj ho
              have d14 : a.tmps.getD 45 undef = .agg #[.int .i64 t, .string k, .string v] := dep 14 _ _ (by kernel_rfl) rfl rfl
              have e14 : a.tmps[45]?.getD undef = _ := (Array.getD_eq_getD_getElem? ..).symm.trans d14
              have d15 : a.tmps.getD 46 undef = .agg #[.int .i64 t, .string k, .string v'] := dep 15 _ _ (by kernel_rfl) rfl rfl
              have e15 : a.tmps[46]?.getD undef = _ := (Array.getD_eq_getD_getElem? ..).symm.trans d15
              have d8 : a.tmps.getD 39 undef = .bool true := dep 8 _ _ (by kernel_rfl) rfl rfl
              have e8 : a.tmps[39]?.getD undef = _ := (Array.getD_eq_getD_getElem? ..).symm.trans d8
              rw [if_pos (wanted_some rfl rfl rfl (by rw [hsz]; exact of_decide_eq_true rfl) d8)]
              have h3 := H3.out
              refine grow_same (v := .bool false) ?_ rfl
              clear old dep ho hsz hb
              go_simp
            | 17, ho =>
              obtain rfl := Option.some.inj ho
              have d13 : a.tmps.getD 44 undef = .bool false := dep 13 _ _ (by kernel_rfl) rfl rfl
              have e13 : a.tmps[44]?.getD undef = _ := (Array.getD_eq_getD_getElem? ..).symm.trans d13
              have d16 : a.tmps.getD 47 undef = .bool false := dep 16 _ _ (by kernel_rfl) rfl rfl
              have e16 : a.tmps[47]?.getD undef = _ := (Array.getD_eq_getD_getElem? ..).symm.trans d16
              have d8 : a.tmps.getD 39 undef = .bool true := dep 8 _ _ (by kernel_rfl) rfl rfl
              have e8 : a.tmps[39]?.getD undef = _ := (Array.getD_eq_getD_getElem? ..).symm.trans d8
              rw [if_pos (wanted_some rfl rfl rfl (by rw [hsz]; exact of_decide_eq_true rfl) d8)]
              refine grow_same (v := .bool true) ?_ rfl
              clear old dep ho hsz hb
              go_simp
            | 18, ho =>
              obtain rfl := Option.some.inj ho
              have d8 : a.tmps.getD 39 undef = .bool true := dep 8 _ _ (by kernel_rfl) rfl rfl
              have e8 : a.tmps[39]?.getD undef = _ := (Array.getD_eq_getD_getElem? ..).symm.trans d8
              have d17 : a.tmps.getD 48 undef = .bool true := dep 17 _ _ (by kernel_rfl) rfl rfl
              have e17 : a.tmps[48]?.getD undef = _ := (Array.getD_eq_getD_getElem? ..).symm.trans d17
              rw [if_pos (wanted_none rfl)]
              refine grow_same (v := .bool true) ?_ rfl
              clear old dep ho hsz hb
              go_simp
            | 19, ho =>
              obtain rfl := Option.some.inj ho
              have d18 : a.tmps.getD 49 undef = .bool true := dep 18 _ _ (by kernel_rfl) rfl rfl
              have e18 : a.tmps[49]?.getD undef = _ := (Array.getD_eq_getD_getElem? ..).symm.trans d18
              rw [if_pos (wanted_none rfl)]
              refine grow_same (v := .bool true) ?_ rfl
              clear old dep ho hsz hb
              go_simp
            | i + 20, ho => exact absurd ho (by simp)
          · intro a w7 hb hsz hdf fin keep
            obtain ⟨tm, df⟩ := a
            have hx := frame_of [31, 32, 33, 34, 35, 36, 37, 38, 39, 40, 41, 42, 43, 44, 45, 46, 47, 48, 49, 4] (by kernel_rfl) hsz keep
            dsimp only at hdf hx
            simp only [List.foldl_cons, List.foldl_nil] at hx
            subst hdf
            clear hsz keep
            have kn : tm.getD 31 undef = .slice A5 40 C5 := fin 0 _ _ rfl rfl
            rw [kn] at hx
            clear kn
            have kn : tm.getD 32 undef = .int .i64 40 := fin 1 _ _ rfl rfl
            rw [kn] at hx
            clear kn
            have kn : tm.getD 33 undef = .bool true := fin 2 _ _ rfl rfl
            rw [kn] at hx
            clear kn
            have kn : tm.getD 34 undef = .bool true := fin 3 _ _ rfl rfl
            rw [kn] at hx
            clear kn
            have kn : tm.getD 35 undef = .slice A6 40 C6 := fin 4 _ _ rfl rfl
            rw [kn] at hx
            clear kn
            have kn : tm.getD 36 undef = .int .i64 40 := fin 5 _ _ rfl rfl
            rw [kn] at hx
            clear kn
            have kn : tm.getD 37 undef = .bool true := fin 6 _ _ rfl rfl
            rw [kn] at hx
            clear kn
            have kn : tm.getD 38 undef = .bool true := fin 7 _ _ rfl rfl
            rw [kn] at hx
            clear kn
            have kn : tm.getD 39 undef = .bool true := fin 8 _ _ rfl rfl
            rw [kn] at hx
            clear kn
            have kn : tm.getD 40 undef = .slice A5 40 C5 := fin 9 _ _ rfl rfl
            rw [kn] at hx
            clear kn
            have kn : tm.getD 41 undef = .string ⟨(encB t k v).toArray⟩ := fin 10 _ _ rfl rfl
            rw [kn] at hx
            clear kn
            have kn : tm.getD 42 undef = .slice A6 40 C6 := fin 11 _ _ rfl rfl
            rw [kn] at hx
            clear kn
            have kn : tm.getD 43 undef = .string ⟨(encB t k v').toArray⟩ := fin 12 _ _ rfl rfl
            rw [kn] at hx
            clear kn
            have kn : tm.getD 44 undef = .bool false := fin 13 _ _ rfl rfl
            rw [kn] at hx
            clear kn
            have kn : tm.getD 45 undef = .agg #[.int .i64 t, .string k, .string v] := fin 14 _ _ rfl rfl
            rw [kn] at hx
            clear kn
            have kn : tm.getD 46 undef = .agg #[.int .i64 t, .string k, .string v'] := fin 15 _ _ rfl rfl
            rw [kn] at hx
            clear kn
            have kn : tm.getD 47 undef = .bool false := fin 16 _ _ rfl rfl
            rw [kn] at hx
            clear kn
            have kn : tm.getD 48 undef = .bool true := fin 17 _ _ rfl rfl
            rw [kn] at hx
            clear kn
            have kn : tm.getD 49 undef = .bool true := fin 18 _ _ rfl rfl
            rw [kn] at hx
            clear kn
            have kn : tm.getD 4 undef = .bool true := fin 19 _ _ rfl rfl
            rw [kn] at hx
            clear kn
            clear fin
            simp only [List.setIfInBounds_toArray, List.set_cons_succ, List.set_cons_zero] at hx
            subst hx
            have T7 := T6.below hb
            go_wp2
            go_ret
            exact ⟨rfl, T7.le⟩
        · have h3 : (k.toList == k'.toList) = false := by rw [beq_eq_false_iff_ne, ByteArray.toList_eq, ByteArray.toList_eq]; exact fun e => h2 (WideShapes.bytes_inj e)
          have H3 := hide h3
          clear h3
          refine region_grows [Say.is (.slice A5 40 C5), Say.is (.int .i64 40), Say.is (.bool true), Say.is (.bool true), Say.is (.slice A6 40 C6), Say.is (.int .i64 40), Say.is (.bool true), Say.is (.bool true), Say.is (.bool true), Say.is (.slice A5 40 C5), Say.is (.string ⟨(encB t k v).toArray⟩), Say.is (.slice A6 40 C6), Say.is (.string ⟨(encB t k' v').toArray⟩), Say.is (.bool false), Say.is (.agg #[.int .i64 t, .string k, .string v]), Say.is (.agg #[.int .i64 t, .string k', .string v']), Say.is (.bool false), Say.is (.bool true), Say.is (.bool true), Say.is (.bool true)] (by kernel_rfl) (by kernel_rfl) (by kernel_rfl) (by kernel_rfl) ?_ ?_
          · intro i o ho a w2 hb hsz old dep
            match i, ho with
            | 0, ho =>
              obtain rfl := Option.some.inj ho
              have o5 : a.tmps.getD 5 undef = _ := old 5 (by kernel_rfl)
              rw [if_pos (wanted_none rfl)]
              refine grow_same (v := .slice A5 40 C5) ?_ rfl
              clear old dep ho hsz hb
              go_simp
            | 1, ho =>
              obtain rfl := Option.some.inj ho
              have d0 : a.tmps.getD 31 undef = .slice A5 40 C5 := dep 0 _ _ (by kernel_rfl) rfl rfl
              have e0 : a.tmps[31]?.getD undef = _ := (Array.getD_eq_getD_getElem? ..).symm.trans d0
              rw [if_pos (wanted_none rfl)]
              refine grow_same (v := .int .i64 40) ?_ rfl
              clear old dep ho hsz hb
              go_simp
            | 2, ho =>
              obtain rfl := Option.some.inj ho
              have d1 : a.tmps.getD 32 undef = .int .i64 40 := dep 1 _ _ (by kernel_rfl) rfl rfl
              have e1 : a.tmps[32]?.getD undef = _ := (Array.getD_eq_getD_getElem? ..).symm.trans d1
              rw [if_pos (wanted_none rfl)]
              refine grow_same (v := .bool true) ?_ rfl
              clear old dep ho hsz hb
              go_simp
            | 3, ho =>
              obtain rfl := Option.some.inj ho
              have d2 : a.tmps.getD 33 undef = .bool true := dep 2 _ _ (by kernel_rfl) rfl rfl
              have e2 : a.tmps[33]?.getD undef = _ := (Array.getD_eq_getD_getElem? ..).symm.trans d2
              rw [if_pos (wanted_none rfl)]
              refine grow_same (v := .bool true) ?_ rfl
              clear old dep ho hsz hb
              go_simp
            | 4, ho =>
              obtain rfl := Option.some.inj ho
              have o6 : a.tmps.getD 6 undef = _ := old 6 (by kernel_rfl)
              have d3 : a.tmps.getD 34 undef = .bool true := dep 3 _ _ (by kernel_rfl) rfl rfl
              have e3 : a.tmps[34]?.getD undef = _ := (Array.getD_eq_getD_getElem? ..).symm.trans d3
              rw [if_pos (wanted_some rfl rfl rfl (by rw [hsz]; exact of_decide_eq_true rfl) d3)]
              refine grow_same (v := .slice A6 40 C6) ?_ rfl
              clear old dep ho hsz hb
              go_simp
            | 5, ho =>
              obtain rfl := Option.some.inj ho
              have d4 : a.tmps.getD 35 undef = .slice A6 40 C6 := dep 4 _ _ (by kernel_rfl) rfl rfl
              have e4 : a.tmps[35]?.getD undef = _ := (Array.getD_eq_getD_getElem? ..).symm.trans d4
              have d3 : a.tmps.getD 34 undef = .bool true := dep 3 _ _ (by kernel_rfl) rfl rfl
              have e3 : a.tmps[34]?.getD undef = _ := (Array.getD_eq_getD_getElem? ..).symm.trans d3
              rw [if_pos (wanted_some rfl rfl rfl (by rw [hsz]; exact of_decide_eq_true rfl) d3)]
              refine grow_same (v := .int .i64 40) ?_ rfl
              clear old dep ho hsz hb
              go_simp
            | 6, ho =>
              obtain rfl := Option.some.inj ho
              have d5 : a.tmps.getD 36 undef = .int .i64 40 := dep 5 _ _ (by kernel_rfl) rfl rfl
              have e5 : a.tmps[36]?.getD undef = _ := (Array.getD_eq_getD_getElem? ..).symm.trans d5
              have d3 : a.tmps.getD 34 undef = .bool true := dep 3 _ _ (by kernel_rfl) rfl rfl
              have e3 : a.tmps[34]?.getD undef = _ := (Array.getD_eq_getD_getElem? ..).symm.trans d3
              rw [if_pos (wanted_some rfl rfl rfl (by rw [hsz]; exact of_decide_eq_true rfl) d3)]
              refine grow_same (v := .bool true) ?_ rfl
              clear old dep ho hsz hb
              go_simp
            | 7, ho =>
              obtain rfl := Option.some.inj ho
              have d3 : a.tmps.getD 34 undef = .bool true := dep 3 _ _ (by kernel_rfl) rfl rfl
              have e3 : a.tmps[34]?.getD undef = _ := (Array.getD_eq_getD_getElem? ..).symm.trans d3
              have d6 : a.tmps.getD 37 undef = .bool true := dep 6 _ _ (by kernel_rfl) rfl rfl
              have e6 : a.tmps[37]?.getD undef = _ := (Array.getD_eq_getD_getElem? ..).symm.trans d6
              rw [if_pos (wanted_none rfl)]
              refine grow_same (v := .bool true) ?_ rfl
              clear old dep ho hsz hb
              go_simp
            | 8, ho =>
              obtain rfl := Option.some.inj ho
              have d7 : a.tmps.getD 38 undef = .bool true := dep 7 _ _ (by kernel_rfl) rfl rfl
              have e7 : a.tmps[38]?.getD undef = _ := (Array.getD_eq_getD_getElem? ..).symm.trans d7
              rw [if_pos (wanted_none rfl)]
              refine grow_same (v := .bool true) ?_ rfl
              clear old dep ho hsz hb
              go_simp
            | 9, ho =>
              obtain rfl := Option.some.inj ho
              have o5 : a.tmps.getD 5 undef = _ := old 5 (by kernel_rfl)
              have d8 : a.tmps.getD 39 undef = .bool true := dep 8 _ _ (by kernel_rfl) rfl rfl
              have e8 : a.tmps[39]?.getD undef = _ := (Array.getD_eq_getD_getElem? ..).symm.trans d8
              rw [if_pos (wanted_some rfl rfl rfl (by rw [hsz]; exact of_decide_eq_true rfl) d8)]
              refine grow_same (v := .slice A5 40 C5) ?_ rfl
              clear old dep ho hsz hb
              go_simp
            | 10, ho =>
              obtain rfl := Option.some.inj ho
              have d9 : a.tmps.getD 40 undef = .slice A5 40 C5 := dep 9 _ _ (by kernel_rfl) rfl rfl
              have e9 : a.tmps[40]?.getD undef = _ := (Array.getD_eq_getD_getElem? ..).symm.trans d9
              have d8 : a.tmps.getD 39 undef = .bool true := dep 8 _ _ (by kernel_rfl) rfl rfl
              have e8 : a.tmps[39]?.getD undef = _ := (Array.getD_eq_getD_getElem? ..).symm.trans d8
              rw [if_pos (wanted_some rfl rfl rfl (by rw [hsz]; exact of_decide_eq_true rfl) d8)]
              have hcv := conv_rdn HLA.out (HR5.out.below hb)
              refine grow_same (v := .string ⟨(encB t k v).toArray⟩) ?_ rfl
              clear old dep ho hsz hb
              go_simp
            | 11, ho =>
              obtain rfl := Option.some.inj ho
              have o6 : a.tmps.getD 6 undef = _ := old 6 (by kernel_rfl)
              have d8 : a.tmps.getD 39 undef = .bool true := dep 8 _ _ (by kernel_rfl) rfl rfl
              have e8 : a.tmps[39]?.getD undef = _ := (Array.getD_eq_getD_getElem? ..).symm.trans d8
              rw [if_pos (wanted_some rfl rfl rfl (by rw [hsz]; exact of_decide_eq_true rfl) d8)]
              refine grow_same (v := .slice A6 40 C6) ?_ rfl
              clear old dep ho hsz hb
              go_simp
            | 12, ho =>
              obtain rfl := Option.some.inj ho
              have d11 : a.tmps.getD 42 undef = .slice A6 40 C6 := dep 11 _ _ (by kernel_rfl) rfl rfl
              have e11 : a.tmps[42]?.getD undef = _ := (Array.getD_eq_getD_getElem? ..).symm.trans d11
              have d8 : a.tmps.getD 39 undef = .bool true := dep 8 _ _ (by kernel_rfl) rfl rfl
              have e8 : a.tmps[39]?.getD undef = _ := (Array.getD_eq_getD_getElem? ..).symm.trans d8
              rw [if_pos (wanted_some rfl rfl rfl (by rw [hsz]; exact of_decide_eq_true rfl) d8)]
              have hcv := conv_rdn HLB.out (HR6.out.below hb)
              refine grow_same (v := .string ⟨(encB t k' v').toArray⟩) ?_ rfl
              clear old dep ho hsz hb
              go_simp
            | 13, ho =>
              obtain rfl := Option.some.inj ho
              have d10 : a.tmps.getD 41 undef = .string ⟨(encB t k v).toArray⟩ := dep 10 _ _ (by kernel_rfl) rfl rfl
              have e10 : a.tmps[41]?.getD undef = _ := (Array.getD_eq_getD_getElem? ..).symm.trans d10
              have d12 : a.tmps.getD 43 undef = .string ⟨(encB t k' v').toArray⟩ := dep 12 _ _ (by kernel_rfl) rfl rfl
              have e12 : a.tmps[43]?.getD undef = _ := (Array.getD_eq_getD_getElem? ..).symm.trans d12
              have d8 : a.tmps.getD 39 undef = .bool true := dep 8 _ _ (by kernel_rfl) rfl rfl
              have e8 : a.tmps[39]?.getD undef = _ := (Array.getD_eq_getD_getElem? ..).symm.trans d8
              rw [if_pos (wanted_some rfl rfl rfl (by rw [hsz]; exact of_decide_eq_true rfl) d8)]
              have hne := HN.out
              refine grow_same (v := .bool false) ?_ rfl
              clear old dep ho hsz hb
              go_simp
            | 14, ho =>
              obtain rfl := Option.some.inj ho
              have o2 : a.tmps.getD 2 undef = _ := old 2 (by kernel_rfl)
              have d8 : a.tmps.getD 39 undef = .bool true := dep 8 _ _ (by kernel_rfl) rfl rfl
              have e8 : a.tmps[39]?.getD undef = _ := (Array.getD_eq_getD_getElem? ..).symm.trans d8
              rw [if_pos (wanted_some rfl rfl rfl (by rw [hsz]; exact of_decide_eq_true rfl) d8)]
              have g0 := (hb.cell (p := ⟨w.heap.size, 0, none⟩) hlt0.out).trans p61
              have g1 := (hb.cell (p := ⟨w.heap.size, 1, none⟩) hlt0.out).trans p62
              have g2 := (hb.cell (p := ⟨w.heap.size, 2, none⟩) hlt0.out).trans p63
              refine grow_same (v := .agg #[.int .i64 t, .string k, .string v]) ?_ rfl
              clear old dep ho hsz hb
              go_simp
            | 15, ho =>
              obtain rfl := Option.some.inj ho
              have o3 : a.tmps.getD 3 undef = _ := old 3 (by kernel_rfl)
              have d8 : a.tmps.getD 39 undef = .bool true := dep 8 _ _ (by kernel_rfl) rfl rfl
              have e8 : a.tmps[39]?.getD undef = _ := (Array.getD_eq_getD_getElem? ..).symm.trans d8
              rw [if_pos (wanted_some rfl rfl rfl (by rw [hsz]; exact of_decide_eq_true rfl) d8)]
              have g0 := (hb.cell (p := ⟨w.heap.size + 1, 0, none⟩) hlt1.out).trans p64
              have g1 := (hb.cell (p := ⟨w.heap.size + 1, 1, none⟩) hlt1.out).trans p65
              have g2 := (hb.cell (p := ⟨w.heap.size + 1, 2, none⟩) hlt1.out).trans p66
              refine grow_same (v := .agg #[.int .i64 t, .string k', .string v']) ?_ rfl
              clear old dep ho hsz hb
              go_simp
            | 16, ho =>
              obtain rfl := Option.some.inj ho
              have d14 : a.tmps.getD 45 undef = .agg #[.int .i64 t, .string k, .string v] := dep 14 _ _ (by kernel_rfl) rfl rfl
              have e14 : a.tmps[45]?.getD undef = _ := (Array.getD_eq_getD_getElem? ..).symm.trans d14
              have d15 : a.tmps.getD 46 undef = .agg #[.int .i64 t, .string k', .string v'] := dep 15 _ _ (by kernel_rfl) rfl rfl
              have e15 : a.tmps[46]?.getD undef = _ := (Array.getD_eq_getD_getElem? ..).symm.trans d15
              have d8 : a.tmps.getD 39 undef = .bool true := dep 8 _ _ (by kernel_rfl) rfl rfl
              have e8 : a.tmps[39]?.getD undef = _ := (Array.getD_eq_getD_getElem? ..).symm.trans d8
              rw [if_pos (wanted_some rfl rfl rfl (by rw [hsz]; exact of_decide_eq_true rfl) d8)]
              have h3 := H3.out
              refine grow_same (v := .bool false) ?_ rfl
              clear old dep ho hsz hb
              go_simp
            | 17, ho =>
              obtain rfl := Option.some.inj ho
              have d13 : a.tmps.getD 44 undef = .bool false := dep 13 _ _ (by kernel_rfl) rfl rfl
              have e13 : a.tmps[44]?.getD undef = _ := (Array.getD_eq_getD_getElem? ..).symm.trans d13
              have d16 : a.tmps.getD 47 undef = .bool false := dep 16 _ _ (by kernel_rfl) rfl rfl
              have e16 : a.tmps[47]?.getD undef = _ := (Array.getD_eq_getD_getElem? ..).symm.trans d16
              have d8 : a.tmps.getD 39 undef = .bool true := dep 8 _ _ (by kernel_rfl) rfl rfl
              have e8 : a.tmps[39]?.getD undef = _ := (Array.getD_eq_getD_getElem? ..).symm.trans d8
              rw [if_pos (wanted_some rfl rfl rfl (by rw [hsz]; exact of_decide_eq_true rfl) d8)]
              refine grow_same (v := .bool true) ?_ rfl
              clear old dep ho hsz hb
              go_simp
            | 18, ho =>
              obtain rfl := Option.some.inj ho
              have d8 : a.tmps.getD 39 undef = .bool true := dep 8 _ _ (by kernel_rfl) rfl rfl
              have e8 : a.tmps[39]?.getD undef = _ := (Array.getD_eq_getD_getElem? ..).symm.trans d8
              have d17 : a.tmps.getD 48 undef = .bool true := dep 17 _ _ (by kernel_rfl) rfl rfl
              have e17 : a.tmps[48]?.getD undef = _ := (Array.getD_eq_getD_getElem? ..).symm.trans d17
              rw [if_pos (wanted_none rfl)]
              refine grow_same (v := .bool true) ?_ rfl
              clear old dep ho hsz hb
              go_simp
            | 19, ho =>
              obtain rfl := Option.some.inj ho
              have d18 : a.tmps.getD 49 undef = .bool true := dep 18 _ _ (by kernel_rfl) rfl rfl
              have e18 : a.tmps[49]?.getD undef = _ := (Array.getD_eq_getD_getElem? ..).symm.trans d18
              rw [if_pos (wanted_none rfl)]
              refine grow_same (v := .bool true) ?_ rfl
              clear old dep ho hsz hb
              go_simp
            | i + 20, ho => exact absurd ho (by simp)
          · intro a w7 hb hsz hdf fin keep
            obtain ⟨tm, df⟩ := a
            have hx := frame_of [31, 32, 33, 34, 35, 36, 37, 38, 39, 40, 41, 42, 43, 44, 45, 46, 47, 48, 49, 4] (by kernel_rfl) hsz keep
            dsimp only at hdf hx
            simp only [List.foldl_cons, List.foldl_nil] at hx
            subst hdf
            clear hsz keep
            have kn : tm.getD 31 undef = .slice A5 40 C5 := fin 0 _ _ rfl rfl
            rw [kn] at hx
            clear kn
            have kn : tm.getD 32 undef = .int .i64 40 := fin 1 _ _ rfl rfl
            rw [kn] at hx
            clear kn
            have kn : tm.getD 33 undef = .bool true := fin 2 _ _ rfl rfl
            rw [kn] at hx
            clear kn
            have kn : tm.getD 34 undef = .bool true := fin 3 _ _ rfl rfl
            rw [kn] at hx
            clear kn
            have kn : tm.getD 35 undef = .slice A6 40 C6 := fin 4 _ _ rfl rfl
            rw [kn] at hx
            clear kn
            have kn : tm.getD 36 undef = .int .i64 40 := fin 5 _ _ rfl rfl
            rw [kn] at hx
            clear kn
            have kn : tm.getD 37 undef = .bool true := fin 6 _ _ rfl rfl
            rw [kn] at hx
            clear kn
            have kn : tm.getD 38 undef = .bool true := fin 7 _ _ rfl rfl
            rw [kn] at hx
            clear kn
            have kn : tm.getD 39 undef = .bool true := fin 8 _ _ rfl rfl
            rw [kn] at hx
            clear kn
            have kn : tm.getD 40 undef = .slice A5 40 C5 := fin 9 _ _ rfl rfl
            rw [kn] at hx
            clear kn
            have kn : tm.getD 41 undef = .string ⟨(encB t k v).toArray⟩ := fin 10 _ _ rfl rfl
            rw [kn] at hx
            clear kn
            have kn : tm.getD 42 undef = .slice A6 40 C6 := fin 11 _ _ rfl rfl
            rw [kn] at hx
            clear kn
            have kn : tm.getD 43 undef = .string ⟨(encB t k' v').toArray⟩ := fin 12 _ _ rfl rfl
            rw [kn] at hx
            clear kn
            have kn : tm.getD 44 undef = .bool false := fin 13 _ _ rfl rfl
            rw [kn] at hx
            clear kn
            have kn : tm.getD 45 undef = .agg #[.int .i64 t, .string k, .string v] := fin 14 _ _ rfl rfl
            rw [kn] at hx
            clear kn
            have kn : tm.getD 46 undef = .agg #[.int .i64 t, .string k', .string v'] := fin 15 _ _ rfl rfl
            rw [kn] at hx
            clear kn
            have kn : tm.getD 47 undef = .bool false := fin 16 _ _ rfl rfl
            rw [kn] at hx
            clear kn
            have kn : tm.getD 48 undef = .bool true := fin 17 _ _ rfl rfl
            rw [kn] at hx
            clear kn
            have kn : tm.getD 49 undef = .bool true := fin 18 _ _ rfl rfl
            rw [kn] at hx
            clear kn
            have kn : tm.getD 4 undef = .bool true := fin 19 _ _ rfl rfl
            rw [kn] at hx
            clear kn
            clear fin
            simp only [List.setIfInBounds_toArray, List.set_cons_succ, List.set_cons_zero] at hx
            subst hx
            have T7 := T6.below hb
            go_wp2
            go_ret
            exact ⟨rfl, T7.le⟩
      · have h3 : (t == t') = false := by rw [beq_eq_false_iff_ne]; exact h1
        have H3 := hide h3
        clear h3 h1
        refine region_grows [Say.is (.slice A5 40 C5), Say.is (.int .i64 40), Say.is (.bool true), Say.is (.bool true), Say.is (.slice A6 40 C6), Say.is (.int .i64 40), Say.is (.bool true), Say.is (.bool true), Say.is (.bool true), Say.is (.slice A5 40 C5), Say.is (.string ⟨(encB t k v).toArray⟩), Say.is (.slice A6 40 C6), Say.is (.string ⟨(encB t' k' v').toArray⟩), Say.is (.bool false), Say.is (.agg #[.int .i64 t, .string k, .string v]), Say.is (.agg #[.int .i64 t', .string k', .string v']), Say.is (.bool false), Say.is (.bool true), Say.is (.bool true), Say.is (.bool true)] (by kernel_rfl) (by kernel_rfl) (by kernel_rfl) (by kernel_rfl) ?_ ?_
        · intro i o ho a w2 hb hsz old dep
          match i, ho with
          | 0, ho =>
            obtain rfl := Option.some.inj ho
            have o5 : a.tmps.getD 5 undef = _ := old 5 (by kernel_rfl)
            rw [if_pos (wanted_none rfl)]
            refine grow_same (v := .slice A5 40 C5) ?_ rfl
            clear old dep ho hsz hb
            go_simp
          | 1, ho =>
            obtain rfl := Option.some.inj ho
            have d0 : a.tmps.getD 31 undef = .slice A5 40 C5 := dep 0 _ _ (by kernel_rfl) rfl rfl
            have e0 : a.tmps[31]?.getD undef = _ := (Array.getD_eq_getD_getElem? ..).symm.trans d0
            rw [if_pos (wanted_none rfl)]
            refine grow_same (v := .int .i64 40) ?_ rfl
            clear old dep ho hsz hb
            go_simp
          | 2, ho =>
            obtain rfl := Option.some.inj ho
            have d1 : a.tmps.getD 32 undef = .int .i64 40 := dep 1 _ _ (by kernel_rfl) rfl rfl
            have e1 : a.tmps[32]?.getD undef = _ := (Array.getD_eq_getD_getElem? ..).symm.trans d1
            rw [if_pos (wanted_none rfl)]
            refine grow_same (v := .bool true) ?_ rfl
            clear old dep ho hsz hb
            go_simp
          | 3, ho =>
            obtain rfl := Option.some.inj ho
            have d2 : a.tmps.getD 33 undef = .bool true := dep 2 _ _ (by kernel_rfl) rfl rfl
            have e2 : a.tmps[33]?.getD undef = _ := (Array.getD_eq_getD_getElem? ..).symm.trans d2
            rw [if_pos (wanted_none rfl)]
            refine grow_same (v := .bool true) ?_ rfl
            clear old dep ho hsz hb
            go_simp
          | 4, ho =>
            obtain rfl := Option.some.inj ho
            have o6 : a.tmps.getD 6 undef = _ := old 6 (by kernel_rfl)
            have d3 : a.tmps.getD 34 undef = .bool true := dep 3 _ _ (by kernel_rfl) rfl rfl
            have e3 : a.tmps[34]?.getD undef = _ := (Array.getD_eq_getD_getElem? ..).symm.trans d3
            rw [if_pos (wanted_some rfl rfl rfl (by rw [hsz]; exact of_decide_eq_true rfl) d3)]
            refine grow_same (v := .slice A6 40 C6) ?_ rfl
            clear old dep ho hsz hb
            go_simp
          | 5, ho =>
            obtain rfl := Option.some.inj ho
            have d4 : a.tmps.getD 35 undef = .slice A6 40 C6 := dep 4 _ _ (by kernel_rfl) rfl rfl
            have e4 : a.tmps[35]?.getD undef = _ := (Array.getD_eq_getD_getElem? ..).symm.trans d4
            have d3 : a.tmps.getD 34 undef = .bool true := dep 3 _ _ (by kernel_rfl) rfl rfl
            have e3 : a.tmps[34]?.getD undef = _ := (Array.getD_eq_getD_getElem? ..).symm.trans d3
            rw [if_pos (wanted_some rfl rfl rfl (by rw [hsz]; exact of_decide_eq_true rfl) d3)]
            refine grow_same (v := .int .i64 40) ?_ rfl
            clear old dep ho hsz hb
            go_simp
          | 6, ho =>
            obtain rfl := Option.some.inj ho
            have d5 : a.tmps.getD 36 undef = .int .i64 40 := dep 5 _ _ (by kernel_rfl) rfl rfl
            have e5 : a.tmps[36]?.getD undef = _ := (Array.getD_eq_getD_getElem? ..).symm.trans d5
            have d3 : a.tmps.getD 34 undef = .bool true := dep 3 _ _ (by kernel_rfl) rfl rfl
            have e3 : a.tmps[34]?.getD undef = _ := (Array.getD_eq_getD_getElem? ..).symm.trans d3
            rw [if_pos (wanted_some rfl rfl rfl (by rw [hsz]; exact of_decide_eq_true rfl) d3)]
            refine grow_same (v := .bool true) ?_ rfl
            clear old dep ho hsz hb
            go_simp
          | 7, ho =>
            obtain rfl := Option.some.inj ho
            have d3 : a.tmps.getD 34 undef = .bool true := dep 3 _ _ (by kernel_rfl) rfl rfl
            have e3 : a.tmps[34]?.getD undef = _ := (Array.getD_eq_getD_getElem? ..).symm.trans d3
            have d6 : a.tmps.getD 37 undef = .bool true := dep 6 _ _ (by kernel_rfl) rfl rfl
            have e6 : a.tmps[37]?.getD undef = _ := (Array.getD_eq_getD_getElem? ..).symm.trans d6
            rw [if_pos (wanted_none rfl)]
            refine grow_same (v := .bool true) ?_ rfl
            clear old dep ho hsz hb
            go_simp
          | 8, ho =>
            obtain rfl := Option.some.inj ho
            have d7 : a.tmps.getD 38 undef = .bool true := dep 7 _ _ (by kernel_rfl) rfl rfl
            have e7 : a.tmps[38]?.getD undef = _ := (Array.getD_eq_getD_getElem? ..).symm.trans d7
            rw [if_pos (wanted_none rfl)]
            refine grow_same (v := .bool true) ?_ rfl
            clear old dep ho hsz hb
            go_simp
          | 9, ho =>
            obtain rfl := Option.some.inj ho
            have o5 : a.tmps.getD 5 undef = _ := old 5 (by kernel_rfl)
            have d8 : a.tmps.getD 39 undef = .bool true := dep 8 _ _ (by kernel_rfl) rfl rfl
            have e8 : a.tmps[39]?.getD undef = _ := (Array.getD_eq_getD_getElem? ..).symm.trans d8
            rw [if_pos (wanted_some rfl rfl rfl (by rw [hsz]; exact of_decide_eq_true rfl) d8)]
            refine grow_same (v := .slice A5 40 C5) ?_ rfl
            clear old dep ho hsz hb
            go_simp
          | 10, ho =>
            obtain rfl := Option.some.inj ho
            have d9 : a.tmps.getD 40 undef = .slice A5 40 C5 := dep 9 _ _ (by kernel_rfl) rfl rfl
            have e9 : a.tmps[40]?.getD undef = _ := (Array.getD_eq_getD_getElem? ..).symm.trans d9
            have d8 : a.tmps.getD 39 undef = .bool true := dep 8 _ _ (by kernel_rfl) rfl rfl
            have e8 : a.tmps[39]?.getD undef = _ := (Array.getD_eq_getD_getElem? ..).symm.trans d8
            rw [if_pos (wanted_some rfl rfl rfl (by rw [hsz]; exact of_decide_eq_true rfl) d8)]
            have hcv := conv_rdn HLA.out (HR5.out.below hb)
            refine grow_same (v := .string ⟨(encB t k v).toArray⟩) ?_ rfl
            clear old dep ho hsz hb
            go_simp
          | 11, ho =>
            obtain rfl := Option.some.inj ho
            have o6 : a.tmps.getD 6 undef = _ := old 6 (by kernel_rfl)
            have d8 : a.tmps.getD 39 undef = .bool true := dep 8 _ _ (by kernel_rfl) rfl rfl
            have e8 : a.tmps[39]?.getD undef = _ := (Array.getD_eq_getD_getElem? ..).symm.trans d8
            rw [if_pos (wanted_some rfl rfl rfl (by rw [hsz]; exact of_decide_eq_true rfl) d8)]
            refine grow_same (v := .slice A6 40 C6) ?_ rfl
            clear old dep ho hsz hb
            go_simp
          | 12, ho =>
            obtain rfl := Option.some.inj ho
            have d11 : a.tmps.getD 42 undef = .slice A6 40 C6 := dep 11 _ _ (by kernel_rfl) rfl rfl
            have e11 : a.tmps[42]?.getD undef = _ := (Array.getD_eq_getD_getElem? ..).symm.trans d11
            have d8 : a.tmps.getD 39 undef = .bool true := dep 8 _ _ (by kernel_rfl) rfl rfl
            have e8 : a.tmps[39]?.getD undef = _ := (Array.getD_eq_getD_getElem? ..).symm.trans d8
            rw [if_pos (wanted_some rfl rfl rfl (by rw [hsz]; exact of_decide_eq_true rfl) d8)]
            have hcv := conv_rdn HLB.out (HR6.out.below hb)
            refine grow_same (v := .string ⟨(encB t' k' v').toArray⟩) ?_ rfl
            clear old dep ho hsz hb
            go_simp
          | 13, ho =>
            obtain rfl := Option.some.inj ho
            have d10 : a.tmps.getD 41 undef = .string ⟨(encB t k v).toArray⟩ := dep 10 _ _ (by kernel_rfl) rfl rfl
            have e10 : a.tmps[41]?.getD undef = _ := (Array.getD_eq_getD_getElem? ..).symm.trans d10
            have d12 : a.tmps.getD 43 undef = .string ⟨(encB t' k' v').toArray⟩ := dep 12 _ _ (by kernel_rfl) rfl rfl
            have e12 : a.tmps[43]?.getD undef = _ := (Array.getD_eq_getD_getElem? ..).symm.trans d12
            have d8 : a.tmps.getD 39 undef = .bool true := dep 8 _ _ (by kernel_rfl) rfl rfl
            have e8 : a.tmps[39]?.getD undef = _ := (Array.getD_eq_getD_getElem? ..).symm.trans d8
            rw [if_pos (wanted_some rfl rfl rfl (by rw [hsz]; exact of_decide_eq_true rfl) d8)]
            have hne := HN.out
            refine grow_same (v := .bool false) ?_ rfl
            clear old dep ho hsz hb
            go_simp
          | 14, ho =>
            obtain rfl := Option.some.inj ho
            have o2 : a.tmps.getD 2 undef = _ := old 2 (by kernel_rfl)
            have d8 : a.tmps.getD 39 undef = .bool true := dep 8 _ _ (by kernel_rfl) rfl rfl
            have e8 : a.tmps[39]?.getD undef = _ := (Array.getD_eq_getD_getElem? ..).symm.trans d8
            rw [if_pos (wanted_some rfl rfl rfl (by rw [hsz]; exact of_decide_eq_true rfl) d8)]
            have g0 := (hb.cell (p := ⟨w.heap.size, 0, none⟩) hlt0.out).trans p61
            have g1 := (hb.cell (p := ⟨w.heap.size, 1, none⟩) hlt0.out).trans p62
            have g2 := (hb.cell (p := ⟨w.heap.size, 2, none⟩) hlt0.out).trans p63
            refine grow_same (v := .agg #[.int .i64 t, .string k, .string v]) ?_ rfl
            clear old dep ho hsz hb
            go_simp
          | 15, ho =>
            obtain rfl := Option.some.inj ho
            have o3 : a.tmps.getD 3 undef = _ := old 3 (by kernel_rfl)
            have d8 : a.tmps.getD 39 undef = .bool true := dep 8 _ _ (by kernel_rfl) rfl rfl
            have e8 : a.tmps[39]?.getD undef = _ := (Array.getD_eq_getD_getElem? ..).symm.trans d8
            rw [if_pos (wanted_some rfl rfl rfl (by rw [hsz]; exact of_decide_eq_true rfl) d8)]
            have g0 := (hb.cell (p := ⟨w.heap.size + 1, 0, none⟩) hlt1.out).trans p64
            have g1 := (hb.cell (p := ⟨w.heap.size + 1, 1, none⟩) hlt1.out).trans p65
            have g2 := (hb.cell (p := ⟨w.heap.size + 1, 2, none⟩) hlt1.out).trans p66
            refine grow_same (v := .agg #[.int .i64 t', .string k', .string v']) ?_ rfl
            clear old dep ho hsz hb
            go_simp
          | 16, ho =>
            obtain rfl := Option.some.inj ho
            have d14 : a.tmps.getD 45 undef = .agg #[.int .i64 t, .string k, .string v] := dep 14 _ _ (by kernel_rfl) rfl rfl
            have e14 : a.tmps[45]?.getD undef = _ := (Array.getD_eq_getD_getElem? ..).symm.trans d14
            have d15 : a.tmps.getD 46 undef = .agg #[.int .i64 t', .string k', .string v'] := dep 15 _ _ (by kernel_rfl) rfl rfl
            have e15 : a.tmps[46]?.getD undef = _ := (Array.getD_eq_getD_getElem? ..).symm.trans d15
            have d8 : a.tmps.getD 39 undef = .bool true := dep 8 _ _ (by kernel_rfl) rfl rfl
            have e8 : a.tmps[39]?.getD undef = _ := (Array.getD_eq_getD_getElem? ..).symm.trans d8
            rw [if_pos (wanted_some rfl rfl rfl (by rw [hsz]; exact of_decide_eq_true rfl) d8)]
            have h3 := H3.out
            refine grow_same (v := .bool false) ?_ rfl
            clear old dep ho hsz hb
            go_simp
          | 17, ho =>
            obtain rfl := Option.some.inj ho
            have d13 : a.tmps.getD 44 undef = .bool false := dep 13 _ _ (by kernel_rfl) rfl rfl
            have e13 : a.tmps[44]?.getD undef = _ := (Array.getD_eq_getD_getElem? ..).symm.trans d13
            have d16 : a.tmps.getD 47 undef = .bool false := dep 16 _ _ (by kernel_rfl) rfl rfl
            have e16 : a.tmps[47]?.getD undef = _ := (Array.getD_eq_getD_getElem? ..).symm.trans d16
            have d8 : a.tmps.getD 39 undef = .bool true := dep 8 _ _ (by kernel_rfl) rfl rfl
            have e8 : a.tmps[39]?.getD undef = _ := (Array.getD_eq_getD_getElem? ..).symm.trans d8
            rw [if_pos (wanted_some rfl rfl rfl (by rw [hsz]; exact of_decide_eq_true rfl) d8)]
            refine grow_same (v := .bool true) ?_ rfl
            clear old dep ho hsz hb
            go_simp
          | 18, ho =>
            obtain rfl := Option.some.inj ho
            have d8 : a.tmps.getD 39 undef = .bool true := dep 8 _ _ (by kernel_rfl) rfl rfl
            have e8 : a.tmps[39]?.getD undef = _ := (Array.getD_eq_getD_getElem? ..).symm.trans d8
            have d17 : a.tmps.getD 48 undef = .bool true := dep 17 _ _ (by kernel_rfl) rfl rfl
            have e17 : a.tmps[48]?.getD undef = _ := (Array.getD_eq_getD_getElem? ..).symm.trans d17
            rw [if_pos (wanted_none rfl)]
            refine grow_same (v := .bool true) ?_ rfl
            clear old dep ho hsz hb
            go_simp
          | 19, ho =>
            obtain rfl := Option.some.inj ho
            have d18 : a.tmps.getD 49 undef = .bool true := dep 18 _ _ (by kernel_rfl) rfl rfl
            have e18 : a.tmps[49]?.getD undef = _ := (Array.getD_eq_getD_getElem? ..).symm.trans d18
            rw [if_pos (wanted_none rfl)]
            refine grow_same (v := .bool true) ?_ rfl
            clear old dep ho hsz hb
            go_simp
          | i + 20, ho => exact absurd ho (by simp)
        · intro a w7 hb hsz hdf fin keep
          obtain ⟨tm, df⟩ := a
          have hx := frame_of [31, 32, 33, 34, 35, 36, 37, 38, 39, 40, 41, 42, 43, 44, 45, 46, 47, 48, 49, 4] (by kernel_rfl) hsz keep
          dsimp only at hdf hx
          simp only [List.foldl_cons, List.foldl_nil] at hx
          subst hdf
          clear hsz keep
          have kn : tm.getD 31 undef = .slice A5 40 C5 := fin 0 _ _ rfl rfl
          rw [kn] at hx
          clear kn
          have kn : tm.getD 32 undef = .int .i64 40 := fin 1 _ _ rfl rfl
          rw [kn] at hx
          clear kn
          have kn : tm.getD 33 undef = .bool true := fin 2 _ _ rfl rfl
          rw [kn] at hx
          clear kn
          have kn : tm.getD 34 undef = .bool true := fin 3 _ _ rfl rfl
          rw [kn] at hx
          clear kn
          have kn : tm.getD 35 undef = .slice A6 40 C6 := fin 4 _ _ rfl rfl
          rw [kn] at hx
          clear kn
          have kn : tm.getD 36 undef = .int .i64 40 := fin 5 _ _ rfl rfl
          rw [kn] at hx
          clear kn
          have kn : tm.getD 37 undef = .bool true := fin 6 _ _ rfl rfl
          rw [kn] at hx
          clear kn
          have kn : tm.getD 38 undef = .bool true := fin 7 _ _ rfl rfl
          rw [kn] at hx
          clear kn
          have kn : tm.getD 39 undef = .bool true := fin 8 _ _ rfl rfl
          rw [kn] at hx
          clear kn
          have kn : tm.getD 40 undef = .slice A5 40 C5 := fin 9 _ _ rfl rfl
          rw [kn] at hx
          clear kn
          have kn : tm.getD 41 undef = .string ⟨(encB t k v).toArray⟩ := fin 10 _ _ rfl rfl
          rw [kn] at hx
          clear kn
          have kn : tm.getD 42 undef = .slice A6 40 C6 := fin 11 _ _ rfl rfl
          rw [kn] at hx
          clear kn
          have kn : tm.getD 43 undef = .string ⟨(encB t' k' v').toArray⟩ := fin 12 _ _ rfl rfl
          rw [kn] at hx
          clear kn
          have kn : tm.getD 44 undef = .bool false := fin 13 _ _ rfl rfl
          rw [kn] at hx
          clear kn
          have kn : tm.getD 45 undef = .agg #[.int .i64 t, .string k, .string v] := fin 14 _ _ rfl rfl
          rw [kn] at hx
          clear kn
          have kn : tm.getD 46 undef = .agg #[.int .i64 t', .string k', .string v'] := fin 15 _ _ rfl rfl
          rw [kn] at hx
          clear kn
          have kn : tm.getD 47 undef = .bool false := fin 16 _ _ rfl rfl
          rw [kn] at hx
          clear kn
          have kn : tm.getD 48 undef = .bool true := fin 17 _ _ rfl rfl
          rw [kn] at hx
          clear kn
          have kn : tm.getD 49 undef = .bool true := fin 18 _ _ rfl rfl
          rw [kn] at hx
          clear kn
          have kn : tm.getD 4 undef = .bool true := fin 19 _ _ rfl rfl
          rw [kn] at hx
          clear kn
          clear fin
          simp only [List.setIfInBounds_toArray, List.set_cons_succ, List.set_cons_zero] at hx
          subst hx
          have T7 := T6.below hb
          go_wp2
          go_ret
          exact ⟨rfl, T7.le⟩
end Go.Proofs.Ytkjngpiblbkccaa
