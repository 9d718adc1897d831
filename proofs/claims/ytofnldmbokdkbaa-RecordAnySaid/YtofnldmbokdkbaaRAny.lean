/-
  The walk of RecordAny.
-/
import Derived.Test.YtofnldmbokdkbaaAnyB
namespace Go.Proofs.Ytofnldmbokdkbaa
open Go.RowKit

set_option linter.unusedSimpArgs false
set_option linter.unusedVariables false

set_option maxHeartbeats 4000000 in
theorem rany_walk (x : SeedD) (at_ : Int) (y : UInt8) (w : World) (hx : x.Fit w w.heap.size) (_ : (Lit.int .i64 at_).wf = true) :
    Calls Try.prog 5 #[.agg x.cells.toArray, .int .i64 at_, .int .u8 (y.toNat : Int)] w fun e w' => e = .returned (.bool true) ∧ Below w.heap.size w w' := by
  obtain ⟨A, c, ee, _, _⟩ := id hx.row
  obtain ⟨n, hn_x⟩ : ∃ n, x.ds.length = n := ⟨_, rfl⟩
  rw [u64s_length, hn_x] at ee
  have hv_x := hx.row
  have hu_x := hide hx.u
  rw [ee] at hv_x
  try unfold SeedD.cells
  rw [ee]
  clear ee
  have S0 := Sbx.new_ hv_x
  by_cases h100 : 100 < n
  · go_enter Try.func5, Try.ntmps5
    go_wp2_with (go_at_call 10; ((with_reducible refine (fit_any _).mono ?_); rintro e w1 ⟨rfl, hb1⟩; have S1 := S0.below hb1; obtain ⟨p0, p1, p2, p3, p4, p5, p6, p7⟩ := S1.cells))
    go_ret
    exact ⟨rfl, S1.bel⟩
  · obtain ⟨r, hr⟩ : ∃ r, seedR x = r := ⟨_, rfl⟩
    have hO := seedR_ok x hx.u
    rw [hr] at hO
    have HO := hide hO
    have HR := hide hr
    obtain ⟨N, hN⟩ : ∃ N, r.frame.length = N := ⟨_, rfl⟩
    have hN1 : 11 ≤ N := by rw [← hN, r.frame_length]; omega
    have hN2 : N ≤ 395 := by rw [← hN]; exact hO.most
    obtain ⟨k1, hk1⟩ : ∃ k1, N - 1 = k1 := ⟨_, rfl⟩
    have hsub : (N : Int) - 1 = (k1 : Int) := by omega
    have hk1N : k1 ≤ N := by omega
    have hshort := hide (decB_short hO (show k1 < r.frame.length by omega))
    have hk1l := hide (show (r.frame.take k1).length ≤ 70368744177664 by rw [List.length_take]; omega)
    obtain ⟨ix, hix, hixN⟩ := any_index at_ N (by omega)
    have hixl := hide (show ix < r.frame.length by omega)
    have HN := hide hN
    clear hO hr hk1
    have hN := HN.out
    obtain ⟨l5, hl5⟩ : ∃ l5, r.frame.set ix y = l5 := ⟨_, rfl⟩
    have hl5l := hide (show l5.length ≤ 70368744177664 by rw [← hl5, List.length_set, hN]; omega)
    have HL5 := hide hl5
    clear hl5 hN
    have R5 : ∀ (w4 : World) (base g3 c3 : Nat), Mine w4 base (.slice (some ⟨g3, 0, none⟩) N c3) r.frame → Rd ((w4.setCell ⟨g3, ix, none⟩ (.int .u8 (y.toNat : Int))).alloc (.cells #[.int .i64 0, .int .i64 0, .int .i64 0, .int .i64 0, .string ⟨#[]⟩, .string ⟨#[]⟩, .string ⟨#[]⟩, .slice none 0 0] 28)) (.slice (some ⟨g3, 0, none⟩) N c3) (u8s l5) := by
      intro w4 base g3 c3 M4
      have := (Mine.alloc (mine_set (y := y) M4 hixl.out).1 (.cells #[.int .i64 0, .int .i64 0, .int .i64 0, .int .i64 0, .string ⟨#[]⟩, .string ⟨#[]⟩, .string ⟨#[]⟩, .slice none 0 0] 28)).rd
      rw [HL5.out] at this
      exact this
    cases hd5 : decB l5
    · go_enter Try.func5, Try.ntmps5
      go_wp2_with (first
        | (go_at_call 10; ((with_reducible refine (fit_any _).mono ?_); rintro e w1 ⟨rfl, hb1⟩; have S1 := S0.below hb1; obtain ⟨p0, p1, p2, p3, p4, p5, p6, p7⟩ := S1.cells))
        | (go_at_call 11; ((with_reducible refine (seed_r x A n c _ hn_x HR.out S1.rd).mono ?_); rintro e wB ⟨A2, c2, rfl, RB, hb2⟩; have BB := S1.bel.trans (hb2.mono S1.bel.size)))
        | (go_at_call 12; ((with_reducible refine (enc_n A2 c2 _ HO.out HN.out RB).mono ?_); rintro e w3 ⟨g3, c3, rfl, hnc, hgb, m3, hb3⟩; have B3 := BB.trans (hb3.mono BB.size); have hlow1 := fun W => run_low (P := Try.prog) slice8 size8 (some ⟨g3, 0, none⟩) N c3 k1 (by omega) W; have RS := Rd.low m3.rd (show k1 ≤ N by omega); have hb0 := Nat.le_trans BB.size hgb))
        | (go_at_call 13; ((with_reducible refine (decode_no hk1l.out RS hshort.out).mono ?_); rintro e w4 ⟨rfl, hb4⟩; have M4 := m3.below hb4; obtain ⟨_, ⟨u4, hu4⟩, hf4⟩ := mine_set (y := y) (Mine.alloc M4 (.cells #[.int .i64 0, .int .i64 0, .int .i64 0, .int .i64 0, .string ⟨#[]⟩, .string ⟨#[]⟩, .string ⟨#[]⟩, .slice none 0 0] 28)) hixl.out; have hgl4 := mine_lt M4; have B4 := B3.trans (hb4.mono B3.size)))
        | (go_at_call 13; ((with_reducible refine (decode_no hl5l.out (R5 _ _ _ _ M4) hd5).mono ?_); rintro e wD ⟨rfl, hbD⟩; have B5 := (below_set1 B4 hb0 ix (.int .u8 (y.toNat : Int))).alloc (below_set1 B4 hb0 ix (.int .u8 (y.toNat : Int))).size (.cells #[.int .i64 0, .int .i64 0, .int .i64 0, .int .i64 0, .string ⟨#[]⟩, .string ⟨#[]⟩, .string ⟨#[]⟩, .slice none 0 0] 28); have BD := B5.trans (hbD.mono B5.size))))
      go_ret
      exact ⟨rfl, BD.alloc BD.size _⟩
    · obtain ⟨z, hrz, hz, hpz⟩ := decB_yes hd5
      obtain ⟨k, hk⟩ : ∃ k, z.frame.length = k := ⟨_, rfl⟩
      have hrz := hide hrz
      have HZ := hide hz
      have hpz := hide hpz
      have hkl := hide hk
      have hkN := hide (show (k : Int) ≤ (N : Int) by have h1 := hpz.out.length_le; rw [← HL5.out, List.length_set] at h1; have := HN.out; omega)
      clear hz hk hd5
      go_enter Try.func5, Try.ntmps5
      go_wp2_with (first
        | (go_at_call 10; ((with_reducible refine (fit_any _).mono ?_); rintro e w1 ⟨rfl, hb1⟩; have S1 := S0.below hb1; obtain ⟨p0, p1, p2, p3, p4, p5, p6, p7⟩ := S1.cells))
        | (go_at_call 11; ((with_reducible refine (seed_r x A n c _ hn_x HR.out S1.rd).mono ?_); rintro e wB ⟨A2, c2, rfl, RB, hb2⟩; have BB := S1.bel.trans (hb2.mono S1.bel.size)))
        | (go_at_call 12; ((with_reducible refine (enc_n A2 c2 _ HO.out HN.out RB).mono ?_); rintro e w3 ⟨g3, c3, rfl, hnc, hgb, m3, hb3⟩; have B3 := BB.trans (hb3.mono BB.size); have hlow1 := fun W => run_low (P := Try.prog) slice8 size8 (some ⟨g3, 0, none⟩) N c3 k1 (by omega) W; have RS := Rd.low m3.rd (show k1 ≤ N by omega); have hb0 := Nat.le_trans BB.size hgb))
        | (go_at_call 13; ((with_reducible refine (decode_no hk1l.out RS hshort.out).mono ?_); rintro e w4 ⟨rfl, hb4⟩; have M4 := m3.below hb4; obtain ⟨_, ⟨u4, hu4⟩, hf4⟩ := mine_set (y := y) (Mine.alloc M4 (.cells #[.int .i64 0, .int .i64 0, .int .i64 0, .int .i64 0, .string ⟨#[]⟩, .string ⟨#[]⟩, .string ⟨#[]⟩, .slice none 0 0] 28)) hixl.out; have hgl4 := mine_lt M4; have B4 := B3.trans (hb4.mono B3.size)))
        | (go_at_call 13; ((with_reducible refine (decode_told hl5l.out (R5 _ _ _ _ M4) hrz.out HZ.out hpz.out hkl.out).mono ?_); rintro e wD ⟨A5, c5, rfl, hrdD, hbD⟩; have B5 := (below_set1 B4 hb0 ix (.int .u8 (y.toNat : Int))).alloc (below_set1 B4 hb0 ix (.int .u8 (y.toNat : Int))).size (.cells #[.int .i64 0, .int .i64 0, .int .i64 0, .int .i64 0, .string ⟨#[]⟩, .string ⟨#[]⟩, .string ⟨#[]⟩, .slice none 0 0] 28); have BD := B5.trans (hbD.mono B5.size); have HD := Has.new_ BD hrdD; have RD := (R5 _ _ _ _ M4).below hbD; obtain ⟨q0, q1, q2, q3, q4, q5, q6, q7⟩ := HD.cells)))
      have RL := hide ((show Rd wD (.slice (some ⟨g3, 0, none⟩) k c3) (u8s z.frame) by have := Rd.low RD (show k ≤ N by have := hkN.out; omega); rwa [take_prefix_eq hpz.out hkl.out] at this).alloc (.cells #[.int .i64 (z.k : Int), .int .i64 (z.t : Int), .int .i64 (z.p : Int), .int .i64 (z.s : Int), .string z.b, .string z.a, .string z.i, .slice A5 z.ds.length c5] 28))
      have RZ := hide HD.rd
      have hlz := hide HD.lt
      have HDH := hide HD
      have hlow2 := hide (fun W => run_low (P := Try.prog) slice8 size8 (some ⟨g3, 0, none⟩) N c3 k (by have := hkN.out; omega) W)
      clear HD RD BD B5 hbD hrdD M4 B4 hb4 hu4 hf4
      refine region_grows [Say.is (.agg #[.int .i64 (z.k : Int), .int .i64 (z.t : Int), .int .i64 (z.p : Int), .int .i64 (z.s : Int), .string z.b, .string z.a, .string z.i, .slice A5 z.ds.length c5]), Say.is (.bool true), Say.is (.bool true), Say.is (.int .i64 (k : Int)), Say.is (.slice (some ⟨g3, 0, none⟩) N c3), Say.is (.int .i64 (N : Int)), Say.is (.bool true), Say.is (.bool true), Say.is (.bool true), Say.is (.agg #[.int .i64 (z.k : Int), .int .i64 (z.t : Int), .int .i64 (z.p : Int), .int .i64 (z.s : Int), .string z.b, .string z.a, .string z.i, .slice A5 z.ds.length c5]), Say.rd k (z.frame), Say.is (.string ⟨(z.frame).toArray⟩), Say.is (.slice (some ⟨g3, 0, none⟩) N c3), Say.is (.int .i64 (k : Int)), Say.rd k (z.frame), Say.is (.string ⟨(z.frame).toArray⟩), Say.is (.bool true), Say.is (.bool true), Say.is (.bool true)] (by kernel_rfl) (by kernel_rfl) (by kernel_rfl) (by kernel_rfl) ?_ ?_
      · intro i o ho a w2 hb hsz old dep
        match i, ho with
        | 0, ho =>
          obtain rfl := Option.some.inj ho
          have o11 : a.tmps.getD 11 undef = _ := old 11 (by kernel_rfl)
          rw [if_pos (wanted_none rfl)]
          have g0 := (hb.cell (p := ⟨wD.heap.size, 0, none⟩) hlz.out).trans q0
          have g1 := (hb.cell (p := ⟨wD.heap.size, 1, none⟩) hlz.out).trans q1
          have g2 := (hb.cell (p := ⟨wD.heap.size, 2, none⟩) hlz.out).trans q2
          have g3 := (hb.cell (p := ⟨wD.heap.size, 3, none⟩) hlz.out).trans q3
          have g4 := (hb.cell (p := ⟨wD.heap.size, 4, none⟩) hlz.out).trans q4
          have g5 := (hb.cell (p := ⟨wD.heap.size, 5, none⟩) hlz.out).trans q5
          have g6 := (hb.cell (p := ⟨wD.heap.size, 6, none⟩) hlz.out).trans q6
          have g7 := (hb.cell (p := ⟨wD.heap.size, 7, none⟩) hlz.out).trans q7
          refine grow_same (v := .agg #[.int .i64 (z.k : Int), .int .i64 (z.t : Int), .int .i64 (z.p : Int), .int .i64 (z.s : Int), .string z.b, .string z.a, .string z.i, .slice A5 z.ds.length c5]) ?_ rfl
          clear old dep ho hsz hb
          go_simp
        | 1, ho =>
          obtain rfl := Option.some.inj ho
          have d0 : a.tmps.getD 64 undef = .agg #[.int .i64 (z.k : Int), .int .i64 (z.t : Int), .int .i64 (z.p : Int), .int .i64 (z.s : Int), .string z.b, .string z.a, .string z.i, .slice A5 z.ds.length c5] := dep 0 _ _ (by kernel_rfl) rfl rfl
          have e0 : a.tmps[64]?.getD undef = _ := (Array.getD_eq_getD_getElem? ..).symm.trans d0
          rw [if_pos (wanted_none rfl)]
          refine grow_enters (f := 18) (args := #[.agg #[.int .i64 (z.k : Int), .int .i64 (z.t : Int), .int .i64 (z.p : Int), .int .i64 (z.s : Int), .string z.b, .string z.a, .string z.i, .slice A5 z.ds.length c5]]) ?_ (lright_grow1 _ HZ.out)
          clear old dep ho hsz hb
          go_simp
        | 2, ho =>
          obtain rfl := Option.some.inj ho
          have d1 : a.tmps.getD 65 undef = .bool true := dep 1 _ _ (by kernel_rfl) rfl rfl
          have e1 : a.tmps[65]?.getD undef = _ := (Array.getD_eq_getD_getElem? ..).symm.trans d1
          rw [if_pos (wanted_none rfl)]
          refine grow_same (v := .bool true) ?_ rfl
          clear old dep ho hsz hb
          go_simp
        | 3, ho =>
          obtain rfl := Option.some.inj ho
          have o12 : a.tmps.getD 12 undef = _ := old 12 (by kernel_rfl)
          have d2 : a.tmps.getD 66 undef = .bool true := dep 2 _ _ (by kernel_rfl) rfl rfl
          have e2 : a.tmps[66]?.getD undef = _ := (Array.getD_eq_getD_getElem? ..).symm.trans d2
          rw [if_pos (wanted_some rfl rfl rfl (by rw [hsz]; exact of_decide_eq_true rfl) d2)]
          refine grow_same (v := .int .i64 (k : Int)) ?_ rfl
          clear old dep ho hsz hb
          go_simp
        | 4, ho =>
          obtain rfl := Option.some.inj ho
          have o7 : a.tmps.getD 7 undef = _ := old 7 (by kernel_rfl)
          have d2 : a.tmps.getD 66 undef = .bool true := dep 2 _ _ (by kernel_rfl) rfl rfl
          have e2 : a.tmps[66]?.getD undef = _ := (Array.getD_eq_getD_getElem? ..).symm.trans d2
          rw [if_pos (wanted_some rfl rfl rfl (by rw [hsz]; exact of_decide_eq_true rfl) d2)]
          refine grow_same (v := .slice (some ⟨g3, 0, none⟩) N c3) ?_ rfl
          clear old dep ho hsz hb
          go_simp
        | 5, ho =>
          obtain rfl := Option.some.inj ho
          have d4 : a.tmps.getD 68 undef = .slice (some ⟨g3, 0, none⟩) N c3 := dep 4 _ _ (by kernel_rfl) rfl rfl
          have e4 : a.tmps[68]?.getD undef = _ := (Array.getD_eq_getD_getElem? ..).symm.trans d4
          have d2 : a.tmps.getD 66 undef = .bool true := dep 2 _ _ (by kernel_rfl) rfl rfl
          have e2 : a.tmps[66]?.getD undef = _ := (Array.getD_eq_getD_getElem? ..).symm.trans d2
          rw [if_pos (wanted_some rfl rfl rfl (by rw [hsz]; exact of_decide_eq_true rfl) d2)]
          refine grow_same (v := .int .i64 (N : Int)) ?_ rfl
          clear old dep ho hsz hb
          go_simp
        | 6, ho =>
          obtain rfl := Option.some.inj ho
          have d3 : a.tmps.getD 67 undef = .int .i64 (k : Int) := dep 3 _ _ (by kernel_rfl) rfl rfl
          have e3 : a.tmps[67]?.getD undef = _ := (Array.getD_eq_getD_getElem? ..).symm.trans d3
          have d5 : a.tmps.getD 69 undef = .int .i64 (N : Int) := dep 5 _ _ (by kernel_rfl) rfl rfl
          have e5 : a.tmps[69]?.getD undef = _ := (Array.getD_eq_getD_getElem? ..).symm.trans d5
          have d2 : a.tmps.getD 66 undef = .bool true := dep 2 _ _ (by kernel_rfl) rfl rfl
          have e2 : a.tmps[66]?.getD undef = _ := (Array.getD_eq_getD_getElem? ..).symm.trans d2
          rw [if_pos (wanted_some rfl rfl rfl (by rw [hsz]; exact of_decide_eq_true rfl) d2)]
          have hw := hkN.out
          refine grow_same (v := .bool true) ?_ rfl
          clear old dep ho hsz hb
          go_simp
        | 7, ho =>
          obtain rfl := Option.some.inj ho
          have d2 : a.tmps.getD 66 undef = .bool true := dep 2 _ _ (by kernel_rfl) rfl rfl
          have e2 : a.tmps[66]?.getD undef = _ := (Array.getD_eq_getD_getElem? ..).symm.trans d2
          have d6 : a.tmps.getD 70 undef = .bool true := dep 6 _ _ (by kernel_rfl) rfl rfl
          have e6 : a.tmps[70]?.getD undef = _ := (Array.getD_eq_getD_getElem? ..).symm.trans d6
          rw [if_pos (wanted_none rfl)]
          refine grow_same (v := .bool true) ?_ rfl
          clear old dep ho hsz hb
          go_simp
        | 8, ho =>
          obtain rfl := Option.some.inj ho
          have d7 : a.tmps.getD 71 undef = .bool true := dep 7 _ _ (by kernel_rfl) rfl rfl
          have e7 : a.tmps[71]?.getD undef = _ := (Array.getD_eq_getD_getElem? ..).symm.trans d7
          rw [if_pos (wanted_none rfl)]
          refine grow_same (v := .bool true) ?_ rfl
          clear old dep ho hsz hb
          go_simp
        | 9, ho =>
          obtain rfl := Option.some.inj ho
          have o11 : a.tmps.getD 11 undef = _ := old 11 (by kernel_rfl)
          have d8 : a.tmps.getD 72 undef = .bool true := dep 8 _ _ (by kernel_rfl) rfl rfl
          have e8 : a.tmps[72]?.getD undef = _ := (Array.getD_eq_getD_getElem? ..).symm.trans d8
          rw [if_pos (wanted_some rfl rfl rfl (by rw [hsz]; exact of_decide_eq_true rfl) d8)]
          have g0 := (hb.cell (p := ⟨wD.heap.size, 0, none⟩) hlz.out).trans q0
          have g1 := (hb.cell (p := ⟨wD.heap.size, 1, none⟩) hlz.out).trans q1
          have g2 := (hb.cell (p := ⟨wD.heap.size, 2, none⟩) hlz.out).trans q2
          have g3 := (hb.cell (p := ⟨wD.heap.size, 3, none⟩) hlz.out).trans q3
          have g4 := (hb.cell (p := ⟨wD.heap.size, 4, none⟩) hlz.out).trans q4
          have g5 := (hb.cell (p := ⟨wD.heap.size, 5, none⟩) hlz.out).trans q5
          have g6 := (hb.cell (p := ⟨wD.heap.size, 6, none⟩) hlz.out).trans q6
          have g7 := (hb.cell (p := ⟨wD.heap.size, 7, none⟩) hlz.out).trans q7
          refine grow_same (v := .agg #[.int .i64 (z.k : Int), .int .i64 (z.t : Int), .int .i64 (z.p : Int), .int .i64 (z.s : Int), .string z.b, .string z.a, .string z.i, .slice A5 z.ds.length c5]) ?_ rfl
          clear old dep ho hsz hb
          go_simp
        | 10, ho =>
          obtain rfl := Option.some.inj ho
          have d9 : a.tmps.getD 73 undef = .agg #[.int .i64 (z.k : Int), .int .i64 (z.t : Int), .int .i64 (z.p : Int), .int .i64 (z.s : Int), .string z.b, .string z.a, .string z.i, .slice A5 z.ds.length c5] := dep 9 _ _ (by kernel_rfl) rfl rfl
          have e9 : a.tmps[73]?.getD undef = _ := (Array.getD_eq_getD_getElem? ..).symm.trans d9
          have d8 : a.tmps.getD 72 undef = .bool true := dep 8 _ _ (by kernel_rfl) rfl rfl
          have e8 : a.tmps[72]?.getD undef = _ := (Array.getD_eq_getD_getElem? ..).symm.trans d8
          rw [if_pos (wanted_some rfl rfl rfl (by rw [hsz]; exact of_decide_eq_true rfl) d8)]
          refine grow_enters (f := 15) (args := #[.agg #[.int .i64 (z.k : Int), .int .i64 (z.t : Int), .int .i64 (z.p : Int), .int .i64 (z.s : Int), .string z.b, .string z.a, .string z.i, .slice A5 z.ds.length c5]]) ?_ (frame_grow2 _ HZ.out hkl.out (RZ.out.below hb))
          clear old dep ho hsz hb
          go_simp
        | 11, ho =>
          obtain rfl := Option.some.inj ho
          obtain ⟨A10, C10, d10, r10⟩ : ∃ A c, a.tmps.getD 74 undef = .slice A k c ∧ Rd w2 (.slice A k c) (u8s (z.frame)) := dep 10 _ _ (by kernel_rfl) rfl rfl
          have e10 : a.tmps[74]?.getD undef = _ := (Array.getD_eq_getD_getElem? ..).symm.trans d10
          have d8 : a.tmps.getD 72 undef = .bool true := dep 8 _ _ (by kernel_rfl) rfl rfl
          have e8 : a.tmps[72]?.getD undef = _ := (Array.getD_eq_getD_getElem? ..).symm.trans d8
          rw [if_pos (wanted_some rfl rfl rfl (by rw [hsz]; exact of_decide_eq_true rfl) d8)]
          have hcv := conv_rdn hkl.out r10
          refine grow_same (v := .string ⟨(z.frame).toArray⟩) ?_ rfl
          clear old dep ho hsz hb r10
          go_simp
        | 12, ho =>
          obtain rfl := Option.some.inj ho
          have o7 : a.tmps.getD 7 undef = _ := old 7 (by kernel_rfl)
          have d8 : a.tmps.getD 72 undef = .bool true := dep 8 _ _ (by kernel_rfl) rfl rfl
          have e8 : a.tmps[72]?.getD undef = _ := (Array.getD_eq_getD_getElem? ..).symm.trans d8
          rw [if_pos (wanted_some rfl rfl rfl (by rw [hsz]; exact of_decide_eq_true rfl) d8)]
          refine grow_same (v := .slice (some ⟨g3, 0, none⟩) N c3) ?_ rfl
          clear old dep ho hsz hb
          go_simp
        | 13, ho =>
          obtain rfl := Option.some.inj ho
          have o12 : a.tmps.getD 12 undef = _ := old 12 (by kernel_rfl)
          have d8 : a.tmps.getD 72 undef = .bool true := dep 8 _ _ (by kernel_rfl) rfl rfl
          have e8 : a.tmps[72]?.getD undef = _ := (Array.getD_eq_getD_getElem? ..).symm.trans d8
          rw [if_pos (wanted_some rfl rfl rfl (by rw [hsz]; exact of_decide_eq_true rfl) d8)]
          refine grow_same (v := .int .i64 (k : Int)) ?_ rfl
          clear old dep ho hsz hb
          go_simp
        | 14, ho =>
          obtain rfl := Option.some.inj ho
          have d12 : a.tmps.getD 76 undef = .slice (some ⟨g3, 0, none⟩) N c3 := dep 12 _ _ (by kernel_rfl) rfl rfl
          have e12 : a.tmps[76]?.getD undef = _ := (Array.getD_eq_getD_getElem? ..).symm.trans d12
          have d13 : a.tmps.getD 77 undef = .int .i64 (k : Int) := dep 13 _ _ (by kernel_rfl) rfl rfl
          have e13 : a.tmps[77]?.getD undef = _ := (Array.getD_eq_getD_getElem? ..).symm.trans d13
          have d8 : a.tmps.getD 72 undef = .bool true := dep 8 _ _ (by kernel_rfl) rfl rfl
          have e8 : a.tmps[72]?.getD undef = _ := (Array.getD_eq_getD_getElem? ..).symm.trans d8
          rw [if_pos (wanted_some rfl rfl rfl (by rw [hsz]; exact of_decide_eq_true rfl) d8)]
          have hw := hlow2.out
          refine grow_same (v := .slice (some ⟨g3, 0, none⟩) k c3) ?_ ⟨_, _, rfl, RL.out.below hb⟩
          clear old dep ho hsz hb
          go_simp
        | 15, ho =>
          obtain rfl := Option.some.inj ho
          obtain ⟨A14, C14, d14, r14⟩ : ∃ A c, a.tmps.getD 78 undef = .slice A k c ∧ Rd w2 (.slice A k c) (u8s (z.frame)) := dep 14 _ _ (by kernel_rfl) rfl rfl
          have e14 : a.tmps[78]?.getD undef = _ := (Array.getD_eq_getD_getElem? ..).symm.trans d14
          have d8 : a.tmps.getD 72 undef = .bool true := dep 8 _ _ (by kernel_rfl) rfl rfl
          have e8 : a.tmps[72]?.getD undef = _ := (Array.getD_eq_getD_getElem? ..).symm.trans d8
          rw [if_pos (wanted_some rfl rfl rfl (by rw [hsz]; exact of_decide_eq_true rfl) d8)]
          have hcv := conv_rdn hkl.out r14
          refine grow_same (v := .string ⟨(z.frame).toArray⟩) ?_ rfl
          clear old dep ho hsz hb r14
          go_simp
        | 16, ho =>
          obtain rfl := Option.some.inj ho
          have d11 : a.tmps.getD 75 undef = .string ⟨(z.frame).toArray⟩ := dep 11 _ _ (by kernel_rfl) rfl rfl
          have e11 : a.tmps[75]?.getD undef = _ := (Array.getD_eq_getD_getElem? ..).symm.trans d11
          have d15 : a.tmps.getD 79 undef = .string ⟨(z.frame).toArray⟩ := dep 15 _ _ (by kernel_rfl) rfl rfl
          have e15 : a.tmps[79]?.getD undef = _ := (Array.getD_eq_getD_getElem? ..).symm.trans d15
          have d8 : a.tmps.getD 72 undef = .bool true := dep 8 _ _ (by kernel_rfl) rfl rfl
          have e8 : a.tmps[72]?.getD undef = _ := (Array.getD_eq_getD_getElem? ..).symm.trans d8
          rw [if_pos (wanted_some rfl rfl rfl (by rw [hsz]; exact of_decide_eq_true rfl) d8)]
          refine grow_same (v := .bool true) ?_ rfl
          clear old dep ho hsz hb
          go_simp
        | 17, ho =>
          obtain rfl := Option.some.inj ho
          have d8 : a.tmps.getD 72 undef = .bool true := dep 8 _ _ (by kernel_rfl) rfl rfl
          have e8 : a.tmps[72]?.getD undef = _ := (Array.getD_eq_getD_getElem? ..).symm.trans d8
          have d16 : a.tmps.getD 80 undef = .bool true := dep 16 _ _ (by kernel_rfl) rfl rfl
          have e16 : a.tmps[80]?.getD undef = _ := (Array.getD_eq_getD_getElem? ..).symm.trans d16
          rw [if_pos (wanted_none rfl)]
          refine grow_same (v := .bool true) ?_ rfl
          clear old dep ho hsz hb
          go_simp
        | 18, ho =>
          obtain rfl := Option.some.inj ho
          have d17 : a.tmps.getD 81 undef = .bool true := dep 17 _ _ (by kernel_rfl) rfl rfl
          have e17 : a.tmps[81]?.getD undef = _ := (Array.getD_eq_getD_getElem? ..).symm.trans d17
          rw [if_pos (wanted_none rfl)]
          refine grow_same (v := .bool true) ?_ rfl
          clear old dep ho hsz hb
          go_simp
        | i + 19, ho => exact absurd ho (by simp)
      · intro a wZ hb hsz hdf fin keep
        obtain ⟨tm, df⟩ := a
        have hx := frame_of [64, 65, 66, 67, 68, 69, 70, 71, 72, 73, 74, 75, 76, 77, 78, 79, 80, 81, 6] (by kernel_rfl) hsz keep
        dsimp only at hdf hx
        simp only [List.foldl_cons, List.foldl_nil] at hx
        subst hdf
        clear hsz keep
        have kn : tm.getD 64 undef = .agg #[.int .i64 (z.k : Int), .int .i64 (z.t : Int), .int .i64 (z.p : Int), .int .i64 (z.s : Int), .string z.b, .string z.a, .string z.i, .slice A5 z.ds.length c5] := fin 0 _ _ rfl rfl
        rw [kn] at hx
        clear kn
        have kn : tm.getD 65 undef = .bool true := fin 1 _ _ rfl rfl
        rw [kn] at hx
        clear kn
        have kn : tm.getD 66 undef = .bool true := fin 2 _ _ rfl rfl
        rw [kn] at hx
        clear kn
        have kn : tm.getD 67 undef = .int .i64 (k : Int) := fin 3 _ _ rfl rfl
        rw [kn] at hx
        clear kn
        have kn : tm.getD 68 undef = .slice (some ⟨g3, 0, none⟩) N c3 := fin 4 _ _ rfl rfl
        rw [kn] at hx
        clear kn
        have kn : tm.getD 69 undef = .int .i64 (N : Int) := fin 5 _ _ rfl rfl
        rw [kn] at hx
        clear kn
        have kn : tm.getD 70 undef = .bool true := fin 6 _ _ rfl rfl
        rw [kn] at hx
        clear kn
        have kn : tm.getD 71 undef = .bool true := fin 7 _ _ rfl rfl
        rw [kn] at hx
        clear kn
        have kn : tm.getD 72 undef = .bool true := fin 8 _ _ rfl rfl
        rw [kn] at hx
        clear kn
        have kn : tm.getD 73 undef = .agg #[.int .i64 (z.k : Int), .int .i64 (z.t : Int), .int .i64 (z.p : Int), .int .i64 (z.s : Int), .string z.b, .string z.a, .string z.i, .slice A5 z.ds.length c5] := fin 9 _ _ rfl rfl
        rw [kn] at hx
        clear kn
        obtain ⟨A74, C74, kn, R74⟩ : ∃ A c, tm.getD 74 undef = .slice A k c ∧ Rd wZ (.slice A k c) (u8s (z.frame)) := fin 10 _ _ rfl rfl
        rw [kn] at hx
        clear kn
        clear R74
        have kn : tm.getD 75 undef = .string ⟨(z.frame).toArray⟩ := fin 11 _ _ rfl rfl
        rw [kn] at hx
        clear kn
        have kn : tm.getD 76 undef = .slice (some ⟨g3, 0, none⟩) N c3 := fin 12 _ _ rfl rfl
        rw [kn] at hx
        clear kn
        have kn : tm.getD 77 undef = .int .i64 (k : Int) := fin 13 _ _ rfl rfl
        rw [kn] at hx
        clear kn
        obtain ⟨A78, C78, kn, R78⟩ : ∃ A c, tm.getD 78 undef = .slice A k c ∧ Rd wZ (.slice A k c) (u8s (z.frame)) := fin 14 _ _ rfl rfl
        rw [kn] at hx
        clear kn
        clear R78
        have kn : tm.getD 79 undef = .string ⟨(z.frame).toArray⟩ := fin 15 _ _ rfl rfl
        rw [kn] at hx
        clear kn
        have kn : tm.getD 80 undef = .bool true := fin 16 _ _ rfl rfl
        rw [kn] at hx
        clear kn
        have kn : tm.getD 81 undef = .bool true := fin 17 _ _ rfl rfl
        rw [kn] at hx
        clear kn
        have kn : tm.getD 6 undef = .bool true := fin 18 _ _ rfl rfl
        rw [kn] at hx
        clear kn
        clear fin
        simp only [List.setIfInBounds_toArray, List.set_cons_succ, List.set_cons_zero] at hx
        subst hx
        have H9 := HDH.out.below hb
        clear hb
        go_wp2
        go_ret
        exact ⟨rfl, H9.bel⟩
end Go.Proofs.Ytofnldmbokdkbaa
