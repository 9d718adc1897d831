/-
  The walk of RecordBack.
-/
import Derived.Test.YtofnldmbokdkbaaHas
namespace Go.Proofs.Ytofnldmbokdkbaa
open Go.RowKit

set_option linter.unusedSimpArgs false
set_option linter.unusedVariables false

set_option maxHeartbeats 4000000 in
theorem rback_walk (x : SeedD) (v : Value) (m : List UInt8) (w : World) (hx : x.Fit w w.heap.size) (_ : m.length ≤ maxLen) (hv : Row w w.heap.size v (u8s m)) :
    Calls Try.prog 3 #[.agg x.cells.toArray, v] w fun e w' => e = .returned (.bool true) ∧ Below w.heap.size w w' := by
  obtain ⟨A, c, ee, _, _⟩ := id hx.row
  obtain ⟨n, hn_x⟩ : ∃ n, x.ds.length = n := ⟨_, rfl⟩
  rw [u64s_length, hn_x] at ee
  have hv_x := hx.row
  have hu_x := hide hx.u
  rw [ee] at hv_x
  unfold SeedD.cells
  rw [ee]
  clear ee
  obtain ⟨Am, cm, em, _, _⟩ := id hv
  rw [u8s_length] at em
  obtain ⟨mn, hm_n⟩ : ∃ mn, m.length = mn := ⟨_, rfl⟩
  rw [hm_n] at em
  subst em
  have HV := hide (show Rd w (.slice Am mn cm) (u8s m) from hv)
  clear hv
  have S0 := Sbx.new_ hv_x
  have hm_n := hide hm_n
  have hm6 := fun (h : mn ≤ 100) => (show m.length ≤ 1000000 by rw [hm_n.out]; omega)
  obtain ⟨i0, hi, hz0, hz1, hz2⟩ := info_parts info8
  by_cases h100 : 100 < n
  · go_enter Try.func3, Try.ntmps3
    go_wp2_with (go_at_call 10; ((with_reducible refine (fit_any _).mono ?_); rintro e w1 ⟨rfl, hb1⟩; have S1 := S0.below hb1; obtain ⟨p0, p1, p2, p3, p4, p5, p6, p7⟩ := S1.cells))
    go_ret
    exact ⟨rfl, S1.bel⟩
  · by_cases h100' : 100 < mn
    · go_enter Try.func3, Try.ntmps3
      go_wp2_with (go_at_call 10; ((with_reducible refine (fit_any _).mono ?_); rintro e w1 ⟨rfl, hb1⟩; have S1 := S0.below hb1; obtain ⟨p0, p1, p2, p3, p4, p5, p6, p7⟩ := S1.cells))
      go_ret
      exact ⟨rfl, S1.bel⟩
    · have hm6 := hide (hm6 (by omega))
      go_enter Try.func3, Try.ntmps3
      go_wp2_with (first
        | (go_at_call 10; ((with_reducible refine (fit_any _).mono ?_); rintro e w1 ⟨rfl, hb1⟩; have S1 := S0.below hb1; obtain ⟨p0, p1, p2, p3, p4, p5, p6, p7⟩ := S1.cells))
        | (go_at_call 11; ((with_reducible refine (seed_told x A n c _ hn_x hu_x.out S1.rd).mono ?_); rintro e wB ⟨r, A2, c2, rfl, hO, hrd2, hb2⟩; have H2 := Has.new_ (S1.bel.trans (hb2.mono S1.bel.size)) (hrd2.rd (Nat.le_refl _)); obtain ⟨q0, q1, q2, q3, q4, q5, q6, q7⟩ := H2.cells; have HO := hide hO))
        | (go_at_call 12; ((with_reducible refine (enc_told r A2 c2 _ HO.out H2.rd).mono ?_); rintro e w3 ⟨A3, c3, rfl, m3, hb3⟩; have H3 := H2.below hb3; have hf1 := hide (show 0 + r.frame.length ≤ 1000 by have := HO.out.most; omega)))
        | (at_builtin; refine wpList_append_rd rfl (.const (.slice none 0 0)) (.tmp 26) 25 rfl (base := w.heap.size) 5 i0 (.int .u8 0) 1 Try.underlying25 hi hz0 hz1 hz2 rfl (.slice none 0 0) 0 [] rfl (own_nil _ _ _) (.slice A3 r.frame.length c3) (u8s r.frame) rfl m3.rd (oneCell_u8s _) (by rw [u8s_length]; have := hf1.out; unfold maxLen; omega) (by rw [u8s_length]; have := hf1.out; omega) H3.bel.size ?_; intro v4 w4 own4 grow4 at4; have g4 := below_nil grow4; have H4 := H3.below g4; have m4 : Mine w4 w.heap.size v4 r.frame := mine_nil own4; have R4 := m3.rd.below g4)
        | (at_builtin; refine wpList_append_rd rfl (.tmp 27) (.tmp 28) 25 rfl (base := w.heap.size) 5 i0 (.int .u8 0) 1 Try.underlying25 hi hz0 hz1 hz2 rfl v4 r.frame.length (u8s r.frame) rfl m4 (.slice Am mn cm) (u8s m) rfl (HV.out.below H4.bel) (oneCell_u8s _) (by rw [u8s_length, hm_n.out]; have := hf1.out; unfold maxLen; omega) (by rw [u8s_length, hm_n.out]; have := hf1.out; omega) H4.bel.size ?_; intro v5 w5 own5 grow5 at5; have m5 : Mine w5 w.heap.size v5 (r.frame ++ m) := mine_rd own5; have B5 := g4.grown grow5 g4.size (own_new at4); have H5 := H3.below B5)
        | (go_at_call 13; ((with_reducible refine (decode_frame HO.out rfl hm6.out m5.rd).mono ?_); rintro e w6 ⟨A6, c6, rfl, hrd6, hb6⟩; have H6 := H5.below hb6; have H7 := Has.new_ H6.bel hrd6; have H8 := H6.below (show Below w6.heap.size w6 (w6.alloc (.cells #[.int .i64 (r.k : Int), .int .i64 (r.t : Int), .int .i64 (r.p : Int), .int .i64 (r.s : Int), .string r.b, .string r.a, .string r.i, .slice A6 r.ds.length c6] 28)) from (Below.refl _ _).alloc (Nat.le_refl _) _); have R8 := (m3.rd.below B5).below hb6)))
      have R9 := hide (R8.alloc (.cells #[.int .i64 (r.k : Int), .int .i64 (r.t : Int), .int .i64 (r.p : Int), .int .i64 (r.s : Int), .string r.b, .string r.a, .string r.i, .slice A6 r.ds.length c6] 28))
      clear q0 q1 q2 q3 q4 q5 q6 q7
      obtain ⟨q0, q1, q2, q3, q4, q5, q6, q7⟩ := H8.cells
      obtain ⟨u0, u1, u2, u3, u4, u5, u6, u7⟩ := H7.cells
      have hf5 := hide (show (r.frame.length : Int) ≤ 395 by have := HO.out.most; omega)
      have hl2 := hide H8.lt
      have hl6 := hide H7.lt
      clear hf1 R4 R8 m4 m5 own4 grow4 at4 own5 grow5 at5 H2 H3 H4 H5 H6 B5 g4 hb6 hb3 hb2 m3 p0 p1 p2 p3 p4 p5 p6 p7 S1 S0 hrd6 hrd2
      refine region_grows [Say.is (.agg #[.int .i64 (r.k : Int), .int .i64 (r.t : Int), .int .i64 (r.p : Int), .int .i64 (r.s : Int), .string r.b, .string r.a, .string r.i, .slice A2 r.ds.length c2]), Say.is (.bool true), Say.is (.bool true), Say.rd r.frame.length (r.frame), Say.is (.string ⟨(r.frame).toArray⟩), Say.is (.agg #[.int .i64 (r.k : Int), .int .i64 (r.t : Int), .int .i64 (r.p : Int), .int .i64 (r.s : Int), .string r.b, .string r.a, .string r.i, .slice A2 r.ds.length c2]), Say.rd r.frame.length (r.frame), Say.is (.string ⟨(r.frame).toArray⟩), Say.is (.bool true), Say.is (.bool true), Say.is (.bool true), Say.rd r.frame.length (r.frame), Say.is (.int .i64 (r.frame.length : Int)), Say.is (.bool true), Say.is (.bool true), Say.is (.bool true), Say.is (.bool true), Say.is (.bool true), Say.is (.bool true), Say.is (.int .i64 (r.frame.length : Int)), Say.rd r.frame.length (r.frame), Say.is (.int .i64 (r.frame.length : Int)), Say.is (.bool true), Say.is (.bool true), Say.is (.bool true), Say.is (.agg #[.int .i64 (r.k : Int), .int .i64 (r.t : Int), .int .i64 (r.p : Int), .int .i64 (r.s : Int), .string r.b, .string r.a, .string r.i, .slice A6 r.ds.length c6]), Say.is (.agg #[.int .i64 (r.k : Int), .int .i64 (r.t : Int), .int .i64 (r.p : Int), .int .i64 (r.s : Int), .string r.b, .string r.a, .string r.i, .slice A2 r.ds.length c2]), Say.is (.bool true), Say.is (.bool true), Say.is (.bool true)] (by kernel_rfl) (by kernel_rfl) (by kernel_rfl) (by kernel_rfl) ?_ ?_
      · intro i o ho a w2 hb hsz old dep
        match i, ho with
        | 0, ho =>
          obtain rfl := Option.some.inj ho
          have o5 : a.tmps.getD 5 undef = _ := old 5 (by kernel_rfl)
          rw [if_pos (wanted_none rfl)]
          have g0 := (hb.cell (p := ⟨wB.heap.size, 0, none⟩) hl2.out).trans q0
          have g1 := (hb.cell (p := ⟨wB.heap.size, 1, none⟩) hl2.out).trans q1
          have g2 := (hb.cell (p := ⟨wB.heap.size, 2, none⟩) hl2.out).trans q2
          have g3 := (hb.cell (p := ⟨wB.heap.size, 3, none⟩) hl2.out).trans q3
          have g4 := (hb.cell (p := ⟨wB.heap.size, 4, none⟩) hl2.out).trans q4
          have g5 := (hb.cell (p := ⟨wB.heap.size, 5, none⟩) hl2.out).trans q5
          have g6 := (hb.cell (p := ⟨wB.heap.size, 6, none⟩) hl2.out).trans q6
          have g7 := (hb.cell (p := ⟨wB.heap.size, 7, none⟩) hl2.out).trans q7
          refine grow_same (v := .agg #[.int .i64 (r.k : Int), .int .i64 (r.t : Int), .int .i64 (r.p : Int), .int .i64 (r.s : Int), .string r.b, .string r.a, .string r.i, .slice A2 r.ds.length c2]) ?_ rfl
          clear old dep ho hsz hb
          go_simp
        | 1, ho =>
          obtain rfl := Option.some.inj ho
          have d0 : a.tmps.getD 34 undef = .agg #[.int .i64 (r.k : Int), .int .i64 (r.t : Int), .int .i64 (r.p : Int), .int .i64 (r.s : Int), .string r.b, .string r.a, .string r.i, .slice A2 r.ds.length c2] := dep 0 _ _ (by kernel_rfl) rfl rfl
          have e0 : a.tmps[34]?.getD undef = _ := (Array.getD_eq_getD_getElem? ..).symm.trans d0
          rw [if_pos (wanted_none rfl)]
          refine grow_enters (f := 14) (args := #[.agg #[.int .i64 (r.k : Int), .int .i64 (r.t : Int), .int .i64 (r.p : Int), .int .i64 (r.s : Int), .string r.b, .string r.a, .string r.i, .slice A2 r.ds.length c2]]) ?_ (right_grow1 _ HO.out)
          clear old dep ho hsz hb
          go_simp
        | 2, ho =>
          obtain rfl := Option.some.inj ho
          have d1 : a.tmps.getD 35 undef = .bool true := dep 1 _ _ (by kernel_rfl) rfl rfl
          have e1 : a.tmps[35]?.getD undef = _ := (Array.getD_eq_getD_getElem? ..).symm.trans d1
          rw [if_pos (wanted_none rfl)]
          refine grow_same (v := .bool true) ?_ rfl
          clear old dep ho hsz hb
          go_simp
        | 3, ho =>
          obtain rfl := Option.some.inj ho
          have o6 : a.tmps.getD 6 undef = _ := old 6 (by kernel_rfl)
          have d2 : a.tmps.getD 36 undef = .bool true := dep 2 _ _ (by kernel_rfl) rfl rfl
          have e2 : a.tmps[36]?.getD undef = _ := (Array.getD_eq_getD_getElem? ..).symm.trans d2
          rw [if_pos (wanted_some rfl rfl rfl (by rw [hsz]; exact of_decide_eq_true rfl) d2)]
          refine grow_same (v := .slice A3 r.frame.length c3) ?_ ⟨_, _, rfl, (R9.out.below hb)⟩
          clear old dep ho hsz hb
          go_simp
        | 4, ho =>
          obtain rfl := Option.some.inj ho
          obtain ⟨A3, C3, d3, r3⟩ : ∃ A c, a.tmps.getD 37 undef = .slice A r.frame.length c ∧ Rd w2 (.slice A r.frame.length c) (u8s (r.frame)) := dep 3 _ _ (by kernel_rfl) rfl rfl
          have e3 : a.tmps[37]?.getD undef = _ := (Array.getD_eq_getD_getElem? ..).symm.trans d3
          have d2 : a.tmps.getD 36 undef = .bool true := dep 2 _ _ (by kernel_rfl) rfl rfl
          have e2 : a.tmps[36]?.getD undef = _ := (Array.getD_eq_getD_getElem? ..).symm.trans d2
          rw [if_pos (wanted_some rfl rfl rfl (by rw [hsz]; exact of_decide_eq_true rfl) d2)]
          have hcv := conv_rdn rfl r3
          refine grow_same (v := .string ⟨(r.frame).toArray⟩) ?_ rfl
          clear old dep ho hsz hb r3
          go_simp
        | 5, ho =>
          obtain rfl := Option.some.inj ho
          have o5 : a.tmps.getD 5 undef = _ := old 5 (by kernel_rfl)
          have d2 : a.tmps.getD 36 undef = .bool true := dep 2 _ _ (by kernel_rfl) rfl rfl
          have e2 : a.tmps[36]?.getD undef = _ := (Array.getD_eq_getD_getElem? ..).symm.trans d2
          rw [if_pos (wanted_some rfl rfl rfl (by rw [hsz]; exact of_decide_eq_true rfl) d2)]
          have g0 := (hb.cell (p := ⟨wB.heap.size, 0, none⟩) hl2.out).trans q0
          have g1 := (hb.cell (p := ⟨wB.heap.size, 1, none⟩) hl2.out).trans q1
          have g2 := (hb.cell (p := ⟨wB.heap.size, 2, none⟩) hl2.out).trans q2
          have g3 := (hb.cell (p := ⟨wB.heap.size, 3, none⟩) hl2.out).trans q3
          have g4 := (hb.cell (p := ⟨wB.heap.size, 4, none⟩) hl2.out).trans q4
          have g5 := (hb.cell (p := ⟨wB.heap.size, 5, none⟩) hl2.out).trans q5
          have g6 := (hb.cell (p := ⟨wB.heap.size, 6, none⟩) hl2.out).trans q6
          have g7 := (hb.cell (p := ⟨wB.heap.size, 7, none⟩) hl2.out).trans q7
          refine grow_same (v := .agg #[.int .i64 (r.k : Int), .int .i64 (r.t : Int), .int .i64 (r.p : Int), .int .i64 (r.s : Int), .string r.b, .string r.a, .string r.i, .slice A2 r.ds.length c2]) ?_ rfl
          clear old dep ho hsz hb
          go_simp
        | 6, ho =>
          obtain rfl := Option.some.inj ho
          have d5 : a.tmps.getD 39 undef = .agg #[.int .i64 (r.k : Int), .int .i64 (r.t : Int), .int .i64 (r.p : Int), .int .i64 (r.s : Int), .string r.b, .string r.a, .string r.i, .slice A2 r.ds.length c2] := dep 5 _ _ (by kernel_rfl) rfl rfl
          have e5 : a.tmps[39]?.getD undef = _ := (Array.getD_eq_getD_getElem? ..).symm.trans d5
          have d2 : a.tmps.getD 36 undef = .bool true := dep 2 _ _ (by kernel_rfl) rfl rfl
          have e2 : a.tmps[36]?.getD undef = _ := (Array.getD_eq_getD_getElem? ..).symm.trans d2
          rw [if_pos (wanted_some rfl rfl rfl (by rw [hsz]; exact of_decide_eq_true rfl) d2)]
          refine grow_enters (f := 15) (args := #[.agg #[.int .i64 (r.k : Int), .int .i64 (r.t : Int), .int .i64 (r.p : Int), .int .i64 (r.s : Int), .string r.b, .string r.a, .string r.i, .slice A2 r.ds.length c2]]) ?_ (frame_grow _ HO.out (H8.rd.below hb))
          clear old dep ho hsz hb
          go_simp
        | 7, ho =>
          obtain rfl := Option.some.inj ho
          obtain ⟨A6, C6, d6, r6⟩ : ∃ A c, a.tmps.getD 40 undef = .slice A r.frame.length c ∧ Rd w2 (.slice A r.frame.length c) (u8s (r.frame)) := dep 6 _ _ (by kernel_rfl) rfl rfl
          have e6 : a.tmps[40]?.getD undef = _ := (Array.getD_eq_getD_getElem? ..).symm.trans d6
          have d2 : a.tmps.getD 36 undef = .bool true := dep 2 _ _ (by kernel_rfl) rfl rfl
          have e2 : a.tmps[36]?.getD undef = _ := (Array.getD_eq_getD_getElem? ..).symm.trans d2
          rw [if_pos (wanted_some rfl rfl rfl (by rw [hsz]; exact of_decide_eq_true rfl) d2)]
          have hcv := conv_rdn rfl r6
          refine grow_same (v := .string ⟨(r.frame).toArray⟩) ?_ rfl
          clear old dep ho hsz hb r6
          go_simp
        | 8, ho =>
          obtain rfl := Option.some.inj ho
          have d4 : a.tmps.getD 38 undef = .string ⟨(r.frame).toArray⟩ := dep 4 _ _ (by kernel_rfl) rfl rfl
          have e4 : a.tmps[38]?.getD undef = _ := (Array.getD_eq_getD_getElem? ..).symm.trans d4
          have d7 : a.tmps.getD 41 undef = .string ⟨(r.frame).toArray⟩ := dep 7 _ _ (by kernel_rfl) rfl rfl
          have e7 : a.tmps[41]?.getD undef = _ := (Array.getD_eq_getD_getElem? ..).symm.trans d7
          have d2 : a.tmps.getD 36 undef = .bool true := dep 2 _ _ (by kernel_rfl) rfl rfl
          have e2 : a.tmps[36]?.getD undef = _ := (Array.getD_eq_getD_getElem? ..).symm.trans d2
          rw [if_pos (wanted_some rfl rfl rfl (by rw [hsz]; exact of_decide_eq_true rfl) d2)]
          refine grow_same (v := .bool true) ?_ rfl
          clear old dep ho hsz hb
          go_simp
        | 9, ho =>
          obtain rfl := Option.some.inj ho
          have d2 : a.tmps.getD 36 undef = .bool true := dep 2 _ _ (by kernel_rfl) rfl rfl
          have e2 : a.tmps[36]?.getD undef = _ := (Array.getD_eq_getD_getElem? ..).symm.trans d2
          have d8 : a.tmps.getD 42 undef = .bool true := dep 8 _ _ (by kernel_rfl) rfl rfl
          have e8 : a.tmps[42]?.getD undef = _ := (Array.getD_eq_getD_getElem? ..).symm.trans d8
          rw [if_pos (wanted_none rfl)]
          refine grow_same (v := .bool true) ?_ rfl
          clear old dep ho hsz hb
          go_simp
        | 10, ho =>
          obtain rfl := Option.some.inj ho
          have d9 : a.tmps.getD 43 undef = .bool true := dep 9 _ _ (by kernel_rfl) rfl rfl
          have e9 : a.tmps[43]?.getD undef = _ := (Array.getD_eq_getD_getElem? ..).symm.trans d9
          rw [if_pos (wanted_none rfl)]
          refine grow_same (v := .bool true) ?_ rfl
          clear old dep ho hsz hb
          go_simp
        | 11, ho =>
          obtain rfl := Option.some.inj ho
          have o6 : a.tmps.getD 6 undef = _ := old 6 (by kernel_rfl)
          have d10 : a.tmps.getD 44 undef = .bool true := dep 10 _ _ (by kernel_rfl) rfl rfl
          have e10 : a.tmps[44]?.getD undef = _ := (Array.getD_eq_getD_getElem? ..).symm.trans d10
          rw [if_pos (wanted_some rfl rfl rfl (by rw [hsz]; exact of_decide_eq_true rfl) d10)]
          refine grow_same (v := .slice A3 r.frame.length c3) ?_ ⟨_, _, rfl, (R9.out.below hb)⟩
          clear old dep ho hsz hb
          go_simp
        | 12, ho =>
          obtain rfl := Option.some.inj ho
          obtain ⟨A11, C11, d11, r11⟩ : ∃ A c, a.tmps.getD 45 undef = .slice A r.frame.length c ∧ Rd w2 (.slice A r.frame.length c) (u8s (r.frame)) := dep 11 _ _ (by kernel_rfl) rfl rfl
          have e11 : a.tmps[45]?.getD undef = _ := (Array.getD_eq_getD_getElem? ..).symm.trans d11
          have d10 : a.tmps.getD 44 undef = .bool true := dep 10 _ _ (by kernel_rfl) rfl rfl
          have e10 : a.tmps[44]?.getD undef = _ := (Array.getD_eq_getD_getElem? ..).symm.trans d10
          rw [if_pos (wanted_some rfl rfl rfl (by rw [hsz]; exact of_decide_eq_true rfl) d10)]
          refine grow_same (v := .int .i64 (r.frame.length : Int)) ?_ rfl
          clear old dep ho hsz hb r11
          go_simp
        | 13, ho =>
          obtain rfl := Option.some.inj ho
          have d12 : a.tmps.getD 46 undef = .int .i64 (r.frame.length : Int) := dep 12 _ _ (by kernel_rfl) rfl rfl
          have e12 : a.tmps[46]?.getD undef = _ := (Array.getD_eq_getD_getElem? ..).symm.trans d12
          have d10 : a.tmps.getD 44 undef = .bool true := dep 10 _ _ (by kernel_rfl) rfl rfl
          have e10 : a.tmps[44]?.getD undef = _ := (Array.getD_eq_getD_getElem? ..).symm.trans d10
          rw [if_pos (wanted_some rfl rfl rfl (by rw [hsz]; exact of_decide_eq_true rfl) d10)]
          have hw := hf5.out
          refine grow_same (v := .bool true) ?_ rfl
          clear old dep ho hsz hb
          go_simp
        | 14, ho =>
          obtain rfl := Option.some.inj ho
          have d10 : a.tmps.getD 44 undef = .bool true := dep 10 _ _ (by kernel_rfl) rfl rfl
          have e10 : a.tmps[44]?.getD undef = _ := (Array.getD_eq_getD_getElem? ..).symm.trans d10
          have d13 : a.tmps.getD 47 undef = .bool true := dep 13 _ _ (by kernel_rfl) rfl rfl
          have e13 : a.tmps[47]?.getD undef = _ := (Array.getD_eq_getD_getElem? ..).symm.trans d13
          rw [if_pos (wanted_none rfl)]
          refine grow_same (v := .bool true) ?_ rfl
          clear old dep ho hsz hb
          go_simp
        | 15, ho =>
          obtain rfl := Option.some.inj ho
          have d14 : a.tmps.getD 48 undef = .bool true := dep 14 _ _ (by kernel_rfl) rfl rfl
          have e14 : a.tmps[48]?.getD undef = _ := (Array.getD_eq_getD_getElem? ..).symm.trans d14
          rw [if_pos (wanted_none rfl)]
          refine grow_same (v := .bool true) ?_ rfl
          clear old dep ho hsz hb
          go_simp
        | 16, ho =>
          obtain rfl := Option.some.inj ho
          have o9 : a.tmps.getD 9 undef = _ := old 9 (by kernel_rfl)
          have d15 : a.tmps.getD 49 undef = .bool true := dep 15 _ _ (by kernel_rfl) rfl rfl
          have e15 : a.tmps[49]?.getD undef = _ := (Array.getD_eq_getD_getElem? ..).symm.trans d15
          rw [if_pos (wanted_some rfl rfl rfl (by rw [hsz]; exact of_decide_eq_true rfl) d15)]
          refine grow_same (v := .bool true) ?_ rfl
          clear old dep ho hsz hb
          go_simp
        | 17, ho =>
          obtain rfl := Option.some.inj ho
          have d15 : a.tmps.getD 49 undef = .bool true := dep 15 _ _ (by kernel_rfl) rfl rfl
          have e15 : a.tmps[49]?.getD undef = _ := (Array.getD_eq_getD_getElem? ..).symm.trans d15
          have d16 : a.tmps.getD 50 undef = .bool true := dep 16 _ _ (by kernel_rfl) rfl rfl
          have e16 : a.tmps[50]?.getD undef = _ := (Array.getD_eq_getD_getElem? ..).symm.trans d16
          rw [if_pos (wanted_none rfl)]
          refine grow_same (v := .bool true) ?_ rfl
          clear old dep ho hsz hb
          go_simp
        | 18, ho =>
          obtain rfl := Option.some.inj ho
          have d17 : a.tmps.getD 51 undef = .bool true := dep 17 _ _ (by kernel_rfl) rfl rfl
          have e17 : a.tmps[51]?.getD undef = _ := (Array.getD_eq_getD_getElem? ..).symm.trans d17
          rw [if_pos (wanted_none rfl)]
          refine grow_same (v := .bool true) ?_ rfl
          clear old dep ho hsz hb
          go_simp
        | 19, ho =>
          obtain rfl := Option.some.inj ho
          have o8 : a.tmps.getD 8 undef = _ := old 8 (by kernel_rfl)
          have d18 : a.tmps.getD 52 undef = .bool true := dep 18 _ _ (by kernel_rfl) rfl rfl
          have e18 : a.tmps[52]?.getD undef = _ := (Array.getD_eq_getD_getElem? ..).symm.trans d18
          rw [if_pos (wanted_some rfl rfl rfl (by rw [hsz]; exact of_decide_eq_true rfl) d18)]
          refine grow_same (v := .int .i64 (r.frame.length : Int)) ?_ rfl
          clear old dep ho hsz hb
          go_simp
        | 20, ho =>
          obtain rfl := Option.some.inj ho
          have o6 : a.tmps.getD 6 undef = _ := old 6 (by kernel_rfl)
          have d18 : a.tmps.getD 52 undef = .bool true := dep 18 _ _ (by kernel_rfl) rfl rfl
          have e18 : a.tmps[52]?.getD undef = _ := (Array.getD_eq_getD_getElem? ..).symm.trans d18
          rw [if_pos (wanted_some rfl rfl rfl (by rw [hsz]; exact of_decide_eq_true rfl) d18)]
          refine grow_same (v := .slice A3 r.frame.length c3) ?_ ⟨_, _, rfl, (R9.out.below hb)⟩
          clear old dep ho hsz hb
          go_simp
        | 21, ho =>
          obtain rfl := Option.some.inj ho
          obtain ⟨A20, C20, d20, r20⟩ : ∃ A c, a.tmps.getD 54 undef = .slice A r.frame.length c ∧ Rd w2 (.slice A r.frame.length c) (u8s (r.frame)) := dep 20 _ _ (by kernel_rfl) rfl rfl
          have e20 : a.tmps[54]?.getD undef = _ := (Array.getD_eq_getD_getElem? ..).symm.trans d20
          have d18 : a.tmps.getD 52 undef = .bool true := dep 18 _ _ (by kernel_rfl) rfl rfl
          have e18 : a.tmps[52]?.getD undef = _ := (Array.getD_eq_getD_getElem? ..).symm.trans d18
          rw [if_pos (wanted_some rfl rfl rfl (by rw [hsz]; exact of_decide_eq_true rfl) d18)]
          refine grow_same (v := .int .i64 (r.frame.length : Int)) ?_ rfl
          clear old dep ho hsz hb r20
          go_simp
        | 22, ho =>
          obtain rfl := Option.some.inj ho
          have d19 : a.tmps.getD 53 undef = .int .i64 (r.frame.length : Int) := dep 19 _ _ (by kernel_rfl) rfl rfl
          have e19 : a.tmps[53]?.getD undef = _ := (Array.getD_eq_getD_getElem? ..).symm.trans d19
          have d21 : a.tmps.getD 55 undef = .int .i64 (r.frame.length : Int) := dep 21 _ _ (by kernel_rfl) rfl rfl
          have e21 : a.tmps[55]?.getD undef = _ := (Array.getD_eq_getD_getElem? ..).symm.trans d21
          have d18 : a.tmps.getD 52 undef = .bool true := dep 18 _ _ (by kernel_rfl) rfl rfl
          have e18 : a.tmps[52]?.getD undef = _ := (Array.getD_eq_getD_getElem? ..).symm.trans d18
          rw [if_pos (wanted_some rfl rfl rfl (by rw [hsz]; exact of_decide_eq_true rfl) d18)]
          refine grow_same (v := .bool true) ?_ rfl
          clear old dep ho hsz hb
          go_simp
        | 23, ho =>
          obtain rfl := Option.some.inj ho
          have d18 : a.tmps.getD 52 undef = .bool true := dep 18 _ _ (by kernel_rfl) rfl rfl
          have e18 : a.tmps[52]?.getD undef = _ := (Array.getD_eq_getD_getElem? ..).symm.trans d18
          have d22 : a.tmps.getD 56 undef = .bool true := dep 22 _ _ (by kernel_rfl) rfl rfl
          have e22 : a.tmps[56]?.getD undef = _ := (Array.getD_eq_getD_getElem? ..).symm.trans d22
          rw [if_pos (wanted_none rfl)]
          refine grow_same (v := .bool true) ?_ rfl
          clear old dep ho hsz hb
          go_simp
        | 24, ho =>
          obtain rfl := Option.some.inj ho
          have d23 : a.tmps.getD 57 undef = .bool true := dep 23 _ _ (by kernel_rfl) rfl rfl
          have e23 : a.tmps[57]?.getD undef = _ := (Array.getD_eq_getD_getElem? ..).symm.trans d23
          rw [if_pos (wanted_none rfl)]
          refine grow_same (v := .bool true) ?_ rfl
          clear old dep ho hsz hb
          go_simp
        | 25, ho =>
          obtain rfl := Option.some.inj ho
          have o7 : a.tmps.getD 7 undef = _ := old 7 (by kernel_rfl)
          have d24 : a.tmps.getD 58 undef = .bool true := dep 24 _ _ (by kernel_rfl) rfl rfl
          have e24 : a.tmps[58]?.getD undef = _ := (Array.getD_eq_getD_getElem? ..).symm.trans d24
          rw [if_pos (wanted_some rfl rfl rfl (by rw [hsz]; exact of_decide_eq_true rfl) d24)]
          have g0 := (hb.cell (p := ⟨w6.heap.size, 0, none⟩) hl6.out).trans u0
          have g1 := (hb.cell (p := ⟨w6.heap.size, 1, none⟩) hl6.out).trans u1
          have g2 := (hb.cell (p := ⟨w6.heap.size, 2, none⟩) hl6.out).trans u2
          have g3 := (hb.cell (p := ⟨w6.heap.size, 3, none⟩) hl6.out).trans u3
          have g4 := (hb.cell (p := ⟨w6.heap.size, 4, none⟩) hl6.out).trans u4
          have g5 := (hb.cell (p := ⟨w6.heap.size, 5, none⟩) hl6.out).trans u5
          have g6 := (hb.cell (p := ⟨w6.heap.size, 6, none⟩) hl6.out).trans u6
          have g7 := (hb.cell (p := ⟨w6.heap.size, 7, none⟩) hl6.out).trans u7
          refine grow_same (v := .agg #[.int .i64 (r.k : Int), .int .i64 (r.t : Int), .int .i64 (r.p : Int), .int .i64 (r.s : Int), .string r.b, .string r.a, .string r.i, .slice A6 r.ds.length c6]) ?_ rfl
          clear old dep ho hsz hb
          go_simp
        | 26, ho =>
          obtain rfl := Option.some.inj ho
          have o5 : a.tmps.getD 5 undef = _ := old 5 (by kernel_rfl)
          have d24 : a.tmps.getD 58 undef = .bool true := dep 24 _ _ (by kernel_rfl) rfl rfl
          have e24 : a.tmps[58]?.getD undef = _ := (Array.getD_eq_getD_getElem? ..).symm.trans d24
          rw [if_pos (wanted_some rfl rfl rfl (by rw [hsz]; exact of_decide_eq_true rfl) d24)]
          have g0 := (hb.cell (p := ⟨wB.heap.size, 0, none⟩) hl2.out).trans q0
          have g1 := (hb.cell (p := ⟨wB.heap.size, 1, none⟩) hl2.out).trans q1
          have g2 := (hb.cell (p := ⟨wB.heap.size, 2, none⟩) hl2.out).trans q2
          have g3 := (hb.cell (p := ⟨wB.heap.size, 3, none⟩) hl2.out).trans q3
          have g4 := (hb.cell (p := ⟨wB.heap.size, 4, none⟩) hl2.out).trans q4
          have g5 := (hb.cell (p := ⟨wB.heap.size, 5, none⟩) hl2.out).trans q5
          have g6 := (hb.cell (p := ⟨wB.heap.size, 6, none⟩) hl2.out).trans q6
          have g7 := (hb.cell (p := ⟨wB.heap.size, 7, none⟩) hl2.out).trans q7
          refine grow_same (v := .agg #[.int .i64 (r.k : Int), .int .i64 (r.t : Int), .int .i64 (r.p : Int), .int .i64 (r.s : Int), .string r.b, .string r.a, .string r.i, .slice A2 r.ds.length c2]) ?_ rfl
          clear old dep ho hsz hb
          go_simp
        | 27, ho =>
          obtain rfl := Option.some.inj ho
          have d25 : a.tmps.getD 59 undef = .agg #[.int .i64 (r.k : Int), .int .i64 (r.t : Int), .int .i64 (r.p : Int), .int .i64 (r.s : Int), .string r.b, .string r.a, .string r.i, .slice A6 r.ds.length c6] := dep 25 _ _ (by kernel_rfl) rfl rfl
          have e25 : a.tmps[59]?.getD undef = _ := (Array.getD_eq_getD_getElem? ..).symm.trans d25
          have d26 : a.tmps.getD 60 undef = .agg #[.int .i64 (r.k : Int), .int .i64 (r.t : Int), .int .i64 (r.p : Int), .int .i64 (r.s : Int), .string r.b, .string r.a, .string r.i, .slice A2 r.ds.length c2] := dep 26 _ _ (by kernel_rfl) rfl rfl
          have e26 : a.tmps[60]?.getD undef = _ := (Array.getD_eq_getD_getElem? ..).symm.trans d26
          have d24 : a.tmps.getD 58 undef = .bool true := dep 24 _ _ (by kernel_rfl) rfl rfl
          have e24 : a.tmps[58]?.getD undef = _ := (Array.getD_eq_getD_getElem? ..).symm.trans d24
          rw [if_pos (wanted_some rfl rfl rfl (by rw [hsz]; exact of_decide_eq_true rfl) d24)]
          refine grow_enters (f := 16) (args := #[.agg #[.int .i64 (r.k : Int), .int .i64 (r.t : Int), .int .i64 (r.p : Int), .int .i64 (r.s : Int), .string r.b, .string r.a, .string r.i, .slice A6 r.ds.length c6], .agg #[.int .i64 (r.k : Int), .int .i64 (r.t : Int), .int .i64 (r.p : Int), .int .i64 (r.s : Int), .string r.b, .string r.a, .string r.i, .slice A2 r.ds.length c2]]) ?_ (same_grow1 _ HO.out (H7.rd.below hb) (H8.rd.below hb))
          clear old dep ho hsz hb
          go_simp
        | 28, ho =>
          obtain rfl := Option.some.inj ho
          have d24 : a.tmps.getD 58 undef = .bool true := dep 24 _ _ (by kernel_rfl) rfl rfl
          have e24 : a.tmps[58]?.getD undef = _ := (Array.getD_eq_getD_getElem? ..).symm.trans d24
          have d27 : a.tmps.getD 61 undef = .bool true := dep 27 _ _ (by kernel_rfl) rfl rfl
          have e27 : a.tmps[61]?.getD undef = _ := (Array.getD_eq_getD_getElem? ..).symm.trans d27
          rw [if_pos (wanted_none rfl)]
          refine grow_same (v := .bool true) ?_ rfl
          clear old dep ho hsz hb
          go_simp
        | 29, ho =>
          obtain rfl := Option.some.inj ho
          have d28 : a.tmps.getD 62 undef = .bool true := dep 28 _ _ (by kernel_rfl) rfl rfl
          have e28 : a.tmps[62]?.getD undef = _ := (Array.getD_eq_getD_getElem? ..).symm.trans d28
          rw [if_pos (wanted_none rfl)]
          refine grow_same (v := .bool true) ?_ rfl
          clear old dep ho hsz hb
          go_simp
        | i + 30, ho => exact absurd ho (by simp)
      · intro a w8 hb hsz hdf fin keep
        obtain ⟨tm, df⟩ := a
        have hx := frame_of [34, 35, 36, 37, 38, 39, 40, 41, 42, 43, 44, 45, 46, 47, 48, 49, 50, 51, 52, 53, 54, 55, 56, 57, 58, 59, 60, 61, 62, 4] (by kernel_rfl) hsz keep
        dsimp only at hdf hx
        simp only [List.foldl_cons, List.foldl_nil] at hx
        subst hdf
        clear hsz keep
        have kn : tm.getD 34 undef = .agg #[.int .i64 (r.k : Int), .int .i64 (r.t : Int), .int .i64 (r.p : Int), .int .i64 (r.s : Int), .string r.b, .string r.a, .string r.i, .slice A2 r.ds.length c2] := fin 0 _ _ rfl rfl
        rw [kn] at hx
        clear kn
        have kn : tm.getD 35 undef = .bool true := fin 1 _ _ rfl rfl
        rw [kn] at hx
        clear kn
        have kn : tm.getD 36 undef = .bool true := fin 2 _ _ rfl rfl
        rw [kn] at hx
        clear kn
        obtain ⟨A37, C37, kn, R37⟩ : ∃ A c, tm.getD 37 undef = .slice A r.frame.length c ∧ Rd w8 (.slice A r.frame.length c) (u8s (r.frame)) := fin 3 _ _ rfl rfl
        rw [kn] at hx
        clear kn
        clear R37
        have kn : tm.getD 38 undef = .string ⟨(r.frame).toArray⟩ := fin 4 _ _ rfl rfl
        rw [kn] at hx
        clear kn
        have kn : tm.getD 39 undef = .agg #[.int .i64 (r.k : Int), .int .i64 (r.t : Int), .int .i64 (r.p : Int), .int .i64 (r.s : Int), .string r.b, .string r.a, .string r.i, .slice A2 r.ds.length c2] := fin 5 _ _ rfl rfl
        rw [kn] at hx
        clear kn
        obtain ⟨A40, C40, kn, R40⟩ : ∃ A c, tm.getD 40 undef = .slice A r.frame.length c ∧ Rd w8 (.slice A r.frame.length c) (u8s (r.frame)) := fin 6 _ _ rfl rfl
        rw [kn] at hx
        clear kn
        clear R40
        have kn : tm.getD 41 undef = .string ⟨(r.frame).toArray⟩ := fin 7 _ _ rfl rfl
        rw [kn] at hx
        clear kn
        have kn : tm.getD 42 undef = .bool true := fin 8 _ _ rfl rfl
        rw [kn] at hx
        clear kn
        have kn : tm.getD 43 undef = .bool true := fin 9 _ _ rfl rfl
        rw [kn] at hx
        clear kn
        have kn : tm.getD 44 undef = .bool true := fin 10 _ _ rfl rfl
        rw [kn] at hx
        clear kn
        obtain ⟨A45, C45, kn, R45⟩ : ∃ A c, tm.getD 45 undef = .slice A r.frame.length c ∧ Rd w8 (.slice A r.frame.length c) (u8s (r.frame)) := fin 11 _ _ rfl rfl
        rw [kn] at hx
        clear kn
        clear R45
        have kn : tm.getD 46 undef = .int .i64 (r.frame.length : Int) := fin 12 _ _ rfl rfl
        rw [kn] at hx
        clear kn
        have kn : tm.getD 47 undef = .bool true := fin 13 _ _ rfl rfl
        rw [kn] at hx
        clear kn
        have kn : tm.getD 48 undef = .bool true := fin 14 _ _ rfl rfl
        rw [kn] at hx
        clear kn
        have kn : tm.getD 49 undef = .bool true := fin 15 _ _ rfl rfl
        rw [kn] at hx
        clear kn
        have kn : tm.getD 50 undef = .bool true := fin 16 _ _ rfl rfl
        rw [kn] at hx
        clear kn
        have kn : tm.getD 51 undef = .bool true := fin 17 _ _ rfl rfl
        rw [kn] at hx
        clear kn
        have kn : tm.getD 52 undef = .bool true := fin 18 _ _ rfl rfl
        rw [kn] at hx
        clear kn
        have kn : tm.getD 53 undef = .int .i64 (r.frame.length : Int) := fin 19 _ _ rfl rfl
        rw [kn] at hx
        clear kn
        obtain ⟨A54, C54, kn, R54⟩ : ∃ A c, tm.getD 54 undef = .slice A r.frame.length c ∧ Rd w8 (.slice A r.frame.length c) (u8s (r.frame)) := fin 20 _ _ rfl rfl
        rw [kn] at hx
        clear kn
        clear R54
        have kn : tm.getD 55 undef = .int .i64 (r.frame.length : Int) := fin 21 _ _ rfl rfl
        rw [kn] at hx
        clear kn
        have kn : tm.getD 56 undef = .bool true := fin 22 _ _ rfl rfl
        rw [kn] at hx
        clear kn
        have kn : tm.getD 57 undef = .bool true := fin 23 _ _ rfl rfl
        rw [kn] at hx
        clear kn
        have kn : tm.getD 58 undef = .bool true := fin 24 _ _ rfl rfl
        rw [kn] at hx
        clear kn
        have kn : tm.getD 59 undef = .agg #[.int .i64 (r.k : Int), .int .i64 (r.t : Int), .int .i64 (r.p : Int), .int .i64 (r.s : Int), .string r.b, .string r.a, .string r.i, .slice A6 r.ds.length c6] := fin 25 _ _ rfl rfl
        rw [kn] at hx
        clear kn
        have kn : tm.getD 60 undef = .agg #[.int .i64 (r.k : Int), .int .i64 (r.t : Int), .int .i64 (r.p : Int), .int .i64 (r.s : Int), .string r.b, .string r.a, .string r.i, .slice A2 r.ds.length c2] := fin 26 _ _ rfl rfl
        rw [kn] at hx
        clear kn
        have kn : tm.getD 61 undef = .bool true := fin 27 _ _ rfl rfl
        rw [kn] at hx
        clear kn
        have kn : tm.getD 62 undef = .bool true := fin 28 _ _ rfl rfl
        rw [kn] at hx
        clear kn
        have kn : tm.getD 4 undef = .bool true := fin 29 _ _ rfl rfl
        rw [kn] at hx
        clear kn
        clear fin
        simp only [List.setIfInBounds_toArray, List.set_cons_succ, List.set_cons_zero] at hx
        subst hx
        have H9 := H8.below hb
        clear hb
        go_wp2
        go_ret
        exact ⟨rfl, H9.bel⟩
end Go.Proofs.Ytofnldmbokdkbaa
