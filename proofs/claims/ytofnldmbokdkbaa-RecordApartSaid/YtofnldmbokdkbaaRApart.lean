/-
  The walk of RecordApart.
-/
import Derived.Test.YtofnldmbokdkbaaTwo
namespace Go.Proofs.Ytofnldmbokdkbaa
open Go.RowKit

set_option linter.unusedSimpArgs false
set_option linter.unusedVariables false

set_option maxHeartbeats 4000000 in
theorem rapart_walk (x y : SeedD) (w : World) (hx : x.Fit w w.heap.size) (hy : y.Fit w w.heap.size) :
    Calls Try.prog 8 #[.agg x.cells.toArray, .agg y.cells.toArray] w fun e w' => e = .returned (.bool true) ∧ Below w.heap.size w w' := by
  obtain ⟨A, c, ee, _, _⟩ := id hx.row
  obtain ⟨n, hn_x⟩ : ∃ n, x.ds.length = n := ⟨_, rfl⟩
  rw [u64s_length, hn_x] at ee
  have hv_x := hx.row
  have hu_x := hide hx.u
  rw [ee] at hv_x
  try unfold SeedD.cells
  rw [ee]
  clear ee
  obtain ⟨B, d, ee, _, _⟩ := id hy.row
  obtain ⟨m, hn_y⟩ : ∃ m, y.ds.length = m := ⟨_, rfl⟩
  rw [u64s_length, hn_y] at ee
  have hv_y := hy.row
  have hu_y := hide hy.u
  rw [ee] at hv_y
  try unfold SeedD.cells
  rw [ee]
  clear ee
  have S0 := Sb2.new_ hv_x hv_y
  by_cases h100 : 100 < n
  · go_enter Try.func8, Try.ntmps8
    go_wp2_with (go_at_call 10; ((with_reducible refine (fit_any _).mono ?_); rintro e w1 ⟨rfl, hb1⟩; have S1 := S0.below hb1; obtain ⟨px0, px1, px2, px3, px4, px5, px6, px7⟩ := blk8c S1.bx; obtain ⟨py0, py1, py2, py3, py4, py5, py6, py7⟩ := blk8c S1.by_))
    go_ret
    exact ⟨rfl, S1.bel⟩
  · by_cases h100' : 100 < m
    · go_enter Try.func8, Try.ntmps8
      go_wp2_with (go_at_call 10; ((with_reducible refine (fit_any _).mono ?_); rintro e w1 ⟨rfl, hb1⟩; have S1 := S0.below hb1; obtain ⟨px0, px1, px2, px3, px4, px5, px6, px7⟩ := blk8c S1.bx; obtain ⟨py0, py1, py2, py3, py4, py5, py6, py7⟩ := blk8c S1.by_))
      go_ret
      exact ⟨rfl, S1.bel⟩
    · go_enter Try.func8, Try.ntmps8
      go_wp2_with (go_at_call 10; ((with_reducible refine (fit_any _).mono ?_); rintro e w1 ⟨rfl, hb1⟩; have S1 := S0.below hb1; obtain ⟨px0, px1, px2, px3, px4, px5, px6, px7⟩ := blk8c S1.bx; obtain ⟨py0, py1, py2, py3, py4, py5, py6, py7⟩ := blk8c S1.by_))
      have HS1 := hide S1
      have hlx := hide S1.bx.lt
      have hly := hide S1.by_.lt
      clear S0 S1 hb1
      refine region_phases (ops := _) (valV [some (.agg #[.int .i64 x.k, .int .i64 x.t, .int .i64 x.p, .int .i64 x.s, .int .u8 (x.b.toNat : Int), .int .u8 (x.a.toNat : Int), .int .u8 (x.i.toNat : Int), .slice A n c]), none, some (.agg #[.int .i64 y.k, .int .i64 y.t, .int .i64 y.p, .int .i64 y.s, .int .u8 (y.b.toNat : Int), .int .u8 (y.a.toNat : Int), .int .u8 (y.i.toNat : Int), .slice B m d]), none, none, none, none, none]) (TwoM w1 (seedR x) (seedR y)) (by kernel_rfl) (by kernel_rfl) (by kernel_rfl) (by kernel_rfl) (TwoM.ext (by rintro j (rfl | rfl | rfl | rfl) <;> exact ⟨of_decide_eq_true rfl, _, _, rfl, rfl⟩) (of_decide_eq_true rfl)) ?_ ?_ ?_
      · exact TwoM.start ((Below.refl _ _).drew)
      · intro i o ho L a w2 hph hsz hLi hnot hyes old dep
        match i, ho with
        | 0, ho =>
          obtain rfl := Option.some.inj ho
          rw [if_pos (wanted_none rfl)]
          have o2 := old 2 (by kernel_rfl)
          have g0 := (hph.bel.cell (p := ⟨w.heap.size, 0, none⟩) hlx.out).trans px0
          have g1 := (hph.bel.cell (p := ⟨w.heap.size, 1, none⟩) hlx.out).trans px1
          have g2 := (hph.bel.cell (p := ⟨w.heap.size, 2, none⟩) hlx.out).trans px2
          have g3 := (hph.bel.cell (p := ⟨w.heap.size, 3, none⟩) hlx.out).trans px3
          have g4 := (hph.bel.cell (p := ⟨w.heap.size, 4, none⟩) hlx.out).trans px4
          have g5 := (hph.bel.cell (p := ⟨w.heap.size, 5, none⟩) hlx.out).trans px5
          have g6 := (hph.bel.cell (p := ⟨w.heap.size, 6, none⟩) hlx.out).trans px6
          have g7 := (hph.bel.cell (p := ⟨w.heap.size, 7, none⟩) hlx.out).trans px7
          refine wp_yields (v := .agg #[.int .i64 x.k, .int .i64 x.t, .int .i64 x.p, .int .i64 x.s, .int .u8 (x.b.toNat : Int), .int .u8 (x.a.toNat : Int), .int .u8 (x.i.toNat : Int), .slice A n c]) (w' := w2) ?_ (fun u hu => Option.some.inj (Option.some.inj hu)) (hph.quiet (by omega) (by omega) (by omega) (by omega) (by omega) (by omega))
          clear dep old ho hsz hph hnot hyes hLi
          go_simp
        | 1, ho =>
          obtain rfl := Option.some.inj ho
          rw [if_pos (wanted_none rfl)]
          have d0 : a.tmps.getD 22 undef = .agg #[.int .i64 x.k, .int .i64 x.t, .int .i64 x.p, .int .i64 x.s, .int .u8 (x.b.toNat : Int), .int .u8 (x.a.toNat : Int), .int .u8 (x.i.toNat : Int), .slice A n c] := dep 0 _ _ (by kernel_rfl) rfl rfl _ rfl
          have e0 : a.tmps[22]?.getD undef = _ := (Array.getD_eq_getD_getElem? ..).symm.trans d0
          refine wp_enters (f := 11) (args := #[.agg #[.int .i64 x.k, .int .i64 x.t, .int .i64 x.p, .int .i64 x.s, .int .u8 (x.b.toNat : Int), .int .u8 (x.a.toNat : Int), .int .u8 (x.i.toNat : Int), .slice A n c]]) ?_ ?_
          · clear dep old ho hsz hph hnot hyes hLi
            go_simp
          refine (seed_any x A n c _ hn_x (HS1.out.rdx.below hph.bel)).mono ?_
          rintro e w3 ⟨A', c', rfl, hbt, hb⟩
          exact ⟨_, rfl, (fun u hu => by cases Option.some.inj hu), hph.call1 hb rfl hbt⟩
        | 2, ho =>
          obtain rfl := Option.some.inj ho
          rw [if_pos (wanted_none rfl)]
          have o3 := old 3 (by kernel_rfl)
          have g0 := (hph.bel.cell (p := ⟨w.heap.size + 1, 0, none⟩) hly.out).trans py0
          have g1 := (hph.bel.cell (p := ⟨w.heap.size + 1, 1, none⟩) hly.out).trans py1
          have g2 := (hph.bel.cell (p := ⟨w.heap.size + 1, 2, none⟩) hly.out).trans py2
          have g3 := (hph.bel.cell (p := ⟨w.heap.size + 1, 3, none⟩) hly.out).trans py3
          have g4 := (hph.bel.cell (p := ⟨w.heap.size + 1, 4, none⟩) hly.out).trans py4
          have g5 := (hph.bel.cell (p := ⟨w.heap.size + 1, 5, none⟩) hly.out).trans py5
          have g6 := (hph.bel.cell (p := ⟨w.heap.size + 1, 6, none⟩) hly.out).trans py6
          have g7 := (hph.bel.cell (p := ⟨w.heap.size + 1, 7, none⟩) hly.out).trans py7
          refine wp_yields (v := .agg #[.int .i64 y.k, .int .i64 y.t, .int .i64 y.p, .int .i64 y.s, .int .u8 (y.b.toNat : Int), .int .u8 (y.a.toNat : Int), .int .u8 (y.i.toNat : Int), .slice B m d]) (w' := w2) ?_ (fun u hu => Option.some.inj (Option.some.inj hu)) (hph.quiet (by omega) (by omega) (by omega) (by omega) (by omega) (by omega))
          clear dep old ho hsz hph hnot hyes hLi
          go_simp
        | 3, ho =>
          obtain rfl := Option.some.inj ho
          rw [if_pos (wanted_none rfl)]
          have d2 : a.tmps.getD 24 undef = .agg #[.int .i64 y.k, .int .i64 y.t, .int .i64 y.p, .int .i64 y.s, .int .u8 (y.b.toNat : Int), .int .u8 (y.a.toNat : Int), .int .u8 (y.i.toNat : Int), .slice B m d] := dep 2 _ _ (by kernel_rfl) rfl rfl _ rfl
          have e2 : a.tmps[24]?.getD undef = _ := (Array.getD_eq_getD_getElem? ..).symm.trans d2
          refine wp_enters (f := 11) (args := #[.agg #[.int .i64 y.k, .int .i64 y.t, .int .i64 y.p, .int .i64 y.s, .int .u8 (y.b.toNat : Int), .int .u8 (y.a.toNat : Int), .int .u8 (y.i.toNat : Int), .slice B m d]]) ?_ ?_
          · clear dep old ho hsz hph hnot hyes hLi
            go_simp
          refine (seed_any y B m d _ hn_y (HS1.out.rdy.below hph.bel)).mono ?_
          rintro e w3 ⟨A', c', rfl, hbt, hb⟩
          exact ⟨_, rfl, (fun u hu => by cases Option.some.inj hu), hph.call3 hb rfl hbt⟩
        | 4, ho =>
          obtain rfl := Option.some.inj ho
          rw [if_pos (wanted_none rfl)]
          exact wp_yields (exec_alloc_rec rfl w2) (fun u hu => by cases Option.some.inj hu) (hph.alloc4 (hnot 6 (by kernel_rfl)))
        | 5, ho =>
          obtain rfl := Option.some.inj ho
          rw [if_pos (wanted_none rfl)]
          exact wp_yields (exec_alloc_rec rfl w2) (fun u hu => by cases Option.some.inj hu) (hph.alloc5 (hnot 7 (by kernel_rfl)))
        | 6, ho =>
          obtain rfl := Option.some.inj ho
          rw [if_pos (wanted_none rfl)]
          obtain ⟨g, eg, _, _, _, hz⟩ := hph.b4 (hyes 4 (by kernel_rfl))
          obtain ⟨A', c', ev, _⟩ := hph.c1 (hyes 1 (by kernel_rfl))
          refine Oper.wp_mono ?_ (store_rec (i := 5) (j := 23) rfl rfl eg ev (hz hLi))
          rintro a' w' ⟨e, hB, ht⟩
          exact ⟨undef, e, (fun u hu => by cases Option.some.inj hu), hph.store6 (hyes 1 (by kernel_rfl)) (hyes 4 (by kernel_rfl)) hLi eg ev hB ht⟩
        | 7, ho =>
          obtain rfl := Option.some.inj ho
          rw [if_pos (wanted_none rfl)]
          obtain ⟨g, eg, _, _, _, hz⟩ := hph.b5 (hyes 5 (by kernel_rfl))
          obtain ⟨A', c', ev, _⟩ := hph.c3 (hyes 3 (by kernel_rfl))
          refine Oper.wp_mono ?_ (store_rec (i := 6) (j := 25) rfl rfl eg ev (hz hLi))
          rintro a' w' ⟨e, hB, ht⟩
          exact ⟨undef, e, (fun u hu => by cases Option.some.inj hu), hph.store7 (hyes 3 (by kernel_rfl)) (hyes 5 (by kernel_rfl)) hLi eg ev hB ht⟩
        | i + 8, ho => exact absurd ho (by simp)
      · intro a w9 hph hsz hdf fin keep
        obtain ⟨g, eg, hgl, _, hd1, _⟩ := hph.b4 rfl
        obtain ⟨A1, c1, hB1, hA1⟩ := hd1 rfl
        obtain ⟨h, eh, hhl, _, hd2, _⟩ := hph.b5 rfl
        obtain ⟨A2, c2, hB2, hA2⟩ := hd2 rfl
        have hbel := HS1.out.bel.trans (hph.bel.mono HS1.out.bel.size)
        have H1 : Has w w9 g (seedR x) A1 c1 := ⟨hbel, hB1, hA1.rd, Nat.le_trans HS1.out.bel.size hgl⟩
        have H2 : Has w w9 h (seedR y) A2 c2 := ⟨hbel, hB2, hA2.rd, Nat.le_trans HS1.out.bel.size hhl⟩
        have eg' : a.tmps.getD 5 undef = _ := eg
        have eh' : a.tmps.getD 6 undef = _ := eh
        clear hph eg eh hB1 hB2 hA1 hA2 hd1 hd2
        obtain ⟨tm, df⟩ := a
        have hx2 := frame_of [22, 23, 24, 25, 5, 6] (by kernel_rfl) hsz keep
        dsimp only at hdf hx2 eg' eh'
        simp only [List.foldl_cons, List.foldl_nil] at hx2
        subst hdf
        clear hsz keep fin
        rw [eg', eh'] at hx2
        clear eg' eh'
        generalize tm.getD 22 undef = y22 at hx2
        generalize tm.getD 23 undef = y23 at hx2
        generalize tm.getD 24 undef = y24 at hx2
        generalize tm.getD 25 undef = y25 at hx2
        simp only [List.setIfInBounds_toArray, List.set_cons_succ, List.set_cons_zero] at hx2
        subst hx2
        have HO1 := hide (seedR_ok x hu_x.out)
        have HO2 := hide (seedR_ok y hu_y.out)
        generalize seedR x = r at *
        generalize seedR y = q at *
        obtain ⟨q0, q1, q2, q3, q4, q5, q6, q7⟩ := H1.cells
        obtain ⟨u0, u1, u2, u3, u4, u5, u6, u7⟩ := H2.cells
        have hlg := hide H1.lt
        have hlh := hide H2.lt
        go_wp2
        refine region_grows [Say.is (.agg #[.int .i64 (r.k : Int), .int .i64 (r.t : Int), .int .i64 (r.p : Int), .int .i64 (r.s : Int), .string r.b, .string r.a, .string r.i, .slice A1 r.ds.length c1]), Say.rd r.frame.length (r.frame), Say.is (.agg #[.int .i64 (q.k : Int), .int .i64 (q.t : Int), .int .i64 (q.p : Int), .int .i64 (q.s : Int), .string q.b, .string q.a, .string q.i, .slice A2 q.ds.length c2]), Say.rd q.frame.length (q.frame), Say.rd r.frame.length (r.frame), Say.rd q.frame.length (q.frame)] (by kernel_rfl) (by kernel_rfl) (by kernel_rfl) (by kernel_rfl) ?_ ?_
        · intro i o ho a w2 hb hsz old dep
          match i, ho with
          | 0, ho =>
            obtain rfl := Option.some.inj ho
            have o5 : a.tmps.getD 5 undef = _ := old 5 (by kernel_rfl)
            rw [if_pos (wanted_none rfl)]
            have g0 := (hb.cell (p := ⟨g, 0, none⟩) hlg.out).trans q0
            have g1 := (hb.cell (p := ⟨g, 1, none⟩) hlg.out).trans q1
            have g2 := (hb.cell (p := ⟨g, 2, none⟩) hlg.out).trans q2
            have g3 := (hb.cell (p := ⟨g, 3, none⟩) hlg.out).trans q3
            have g4 := (hb.cell (p := ⟨g, 4, none⟩) hlg.out).trans q4
            have g5 := (hb.cell (p := ⟨g, 5, none⟩) hlg.out).trans q5
            have g6 := (hb.cell (p := ⟨g, 6, none⟩) hlg.out).trans q6
            have g7 := (hb.cell (p := ⟨g, 7, none⟩) hlg.out).trans q7
            refine grow_same (v := .agg #[.int .i64 (r.k : Int), .int .i64 (r.t : Int), .int .i64 (r.p : Int), .int .i64 (r.s : Int), .string r.b, .string r.a, .string r.i, .slice A1 r.ds.length c1]) ?_ rfl
            clear old dep ho hsz hb
            go_simp
          | 1, ho =>
            obtain rfl := Option.some.inj ho
            have d0 : a.tmps.getD 26 undef = .agg #[.int .i64 (r.k : Int), .int .i64 (r.t : Int), .int .i64 (r.p : Int), .int .i64 (r.s : Int), .string r.b, .string r.a, .string r.i, .slice A1 r.ds.length c1] := dep 0 _ _ (by kernel_rfl) rfl rfl
            have e0 : a.tmps[26]?.getD undef = _ := (Array.getD_eq_getD_getElem? ..).symm.trans d0
            rw [if_pos (wanted_none rfl)]
            refine grow_enters (f := 12) (args := #[.agg #[.int .i64 (r.k : Int), .int .i64 (r.t : Int), .int .i64 (r.p : Int), .int .i64 (r.s : Int), .string r.b, .string r.a, .string r.i, .slice A1 r.ds.length c1]]) ?_ (enc_grow _ HO1.out (H1.rd.below hb))
            clear old dep ho hsz hb
            go_simp
          | 2, ho =>
            obtain rfl := Option.some.inj ho
            have o6 : a.tmps.getD 6 undef = _ := old 6 (by kernel_rfl)
            rw [if_pos (wanted_none rfl)]
            have g0 := (hb.cell (p := ⟨h, 0, none⟩) hlh.out).trans u0
            have g1 := (hb.cell (p := ⟨h, 1, none⟩) hlh.out).trans u1
            have g2 := (hb.cell (p := ⟨h, 2, none⟩) hlh.out).trans u2
            have g3 := (hb.cell (p := ⟨h, 3, none⟩) hlh.out).trans u3
            have g4 := (hb.cell (p := ⟨h, 4, none⟩) hlh.out).trans u4
            have g5 := (hb.cell (p := ⟨h, 5, none⟩) hlh.out).trans u5
            have g6 := (hb.cell (p := ⟨h, 6, none⟩) hlh.out).trans u6
            have g7 := (hb.cell (p := ⟨h, 7, none⟩) hlh.out).trans u7
            refine grow_same (v := .agg #[.int .i64 (q.k : Int), .int .i64 (q.t : Int), .int .i64 (q.p : Int), .int .i64 (q.s : Int), .string q.b, .string q.a, .string q.i, .slice A2 q.ds.length c2]) ?_ rfl
            clear old dep ho hsz hb
            go_simp
          | 3, ho =>
            obtain rfl := Option.some.inj ho
            have d2 : a.tmps.getD 28 undef = .agg #[.int .i64 (q.k : Int), .int .i64 (q.t : Int), .int .i64 (q.p : Int), .int .i64 (q.s : Int), .string q.b, .string q.a, .string q.i, .slice A2 q.ds.length c2] := dep 2 _ _ (by kernel_rfl) rfl rfl
            have e2 : a.tmps[28]?.getD undef = _ := (Array.getD_eq_getD_getElem? ..).symm.trans d2
            rw [if_pos (wanted_none rfl)]
            refine grow_enters (f := 12) (args := #[.agg #[.int .i64 (q.k : Int), .int .i64 (q.t : Int), .int .i64 (q.p : Int), .int .i64 (q.s : Int), .string q.b, .string q.a, .string q.i, .slice A2 q.ds.length c2]]) ?_ (enc_grow _ HO2.out (H2.rd.below hb))
            clear old dep ho hsz hb
            go_simp
          | 4, ho =>
            obtain rfl := Option.some.inj ho
            obtain ⟨A1, C1, d1, r1⟩ : ∃ A c, a.tmps.getD 27 undef = .slice A r.frame.length c ∧ Rd w2 (.slice A r.frame.length c) (u8s (r.frame)) := dep 1 _ _ (by kernel_rfl) rfl rfl
            have e1 : a.tmps[27]?.getD undef = _ := (Array.getD_eq_getD_getElem? ..).symm.trans d1
            rw [if_pos (wanted_none rfl)]
            refine grow_same (v := .slice A1 r.frame.length C1) ?_ ⟨_, _, rfl, r1⟩
            clear old dep ho hsz hb r1
            go_simp
          | 5, ho =>
            obtain rfl := Option.some.inj ho
            obtain ⟨A3, C3, d3, r3⟩ : ∃ A c, a.tmps.getD 29 undef = .slice A q.frame.length c ∧ Rd w2 (.slice A q.frame.length c) (u8s (q.frame)) := dep 3 _ _ (by kernel_rfl) rfl rfl
            have e3 : a.tmps[29]?.getD undef = _ := (Array.getD_eq_getD_getElem? ..).symm.trans d3
            rw [if_pos (wanted_none rfl)]
            refine grow_same (v := .slice A3 q.frame.length C3) ?_ ⟨_, _, rfl, r3⟩
            clear old dep ho hsz hb r3
            go_simp
          | i + 6, ho => exact absurd ho (by simp)
        · intro a wA hb hsz hdf fin keep
          obtain ⟨tm, df⟩ := a
          have hx := frame_of [26, 27, 28, 29, 7, 8] (by kernel_rfl) hsz keep
          dsimp only at hdf hx
          simp only [List.foldl_cons, List.foldl_nil] at hx
          subst hdf
          clear hsz keep
          have kn : tm.getD 26 undef = .agg #[.int .i64 (r.k : Int), .int .i64 (r.t : Int), .int .i64 (r.p : Int), .int .i64 (r.s : Int), .string r.b, .string r.a, .string r.i, .slice A1 r.ds.length c1] := fin 0 _ _ rfl rfl
          rw [kn] at hx
          clear kn
          obtain ⟨A27, C27, kn, R27⟩ : ∃ A c, tm.getD 27 undef = .slice A r.frame.length c ∧ Rd wA (.slice A r.frame.length c) (u8s (r.frame)) := fin 1 _ _ rfl rfl
          rw [kn] at hx
          clear kn
          clear R27
          have kn : tm.getD 28 undef = .agg #[.int .i64 (q.k : Int), .int .i64 (q.t : Int), .int .i64 (q.p : Int), .int .i64 (q.s : Int), .string q.b, .string q.a, .string q.i, .slice A2 q.ds.length c2] := fin 2 _ _ rfl rfl
          rw [kn] at hx
          clear kn
          obtain ⟨A29, C29, kn, R29⟩ : ∃ A c, tm.getD 29 undef = .slice A q.frame.length c ∧ Rd wA (.slice A q.frame.length c) (u8s (q.frame)) := fin 3 _ _ rfl rfl
          rw [kn] at hx
          clear kn
          clear R29
          obtain ⟨A7, C7, kn, R7⟩ : ∃ A c, tm.getD 7 undef = .slice A r.frame.length c ∧ Rd wA (.slice A r.frame.length c) (u8s (r.frame)) := fin 4 _ _ rfl rfl
          rw [kn] at hx
          clear kn
          obtain ⟨A8, C8, kn, R8⟩ : ∃ A c, tm.getD 8 undef = .slice A q.frame.length c ∧ Rd wA (.slice A q.frame.length c) (u8s (q.frame)) := fin 5 _ _ rfl rfl
          rw [kn] at hx
          clear kn
          clear fin
          simp only [List.setIfInBounds_toArray, List.set_cons_succ, List.set_cons_zero] at hx
          subst hx
          have K1 := H1.below hb
          have K2 := H2.below hb
          clear hb q0 q1 q2 q3 q4 q5 q6 q7 u0 u1 u2 u3 u4 u5 u6 u7 H1 H2
          obtain ⟨q0, q1, q2, q3, q4, q5, q6, q7⟩ := K1.cells
          obtain ⟨u0, u1, u2, u3, u4, u5, u6, u7⟩ := K2.cells
          cases hsm : sameB r q
          · have HSM := hide hsm
            clear hsm
            obtain ⟨k, hk⟩ : ∃ k, k = min r.frame.length q.frame.length := ⟨_, rfl⟩
            have hmin : ∀ W, (Builtin.min_ #[3, 3] 3 #[.int .i64 (r.frame.length : Int), .int .i64 (q.frame.length : Int)]).run Try.prog W = .ok (.int .i64 (k : Int)) W := by
              intro W
              rw [run_min_int2]
              congr 2
              split <;> omega
            have HNE := hide (frames_apart HO1.out HO2.out HSM.out hk)
            have hk2 := hide (show k ≤ r.frame.length ∧ k ≤ q.frame.length by omega)
            have hlow1 := hide (fun W => run_low (P := Try.prog) slice8 size8 A7 r.frame.length C7 k (Nat.le_trans hk2.out.1 (rd_cap R7)) W)
            have hlow2 := hide (fun W => run_low (P := Try.prog) slice8 size8 A8 q.frame.length C8 k (Nat.le_trans hk2.out.2 (rd_cap R8)) W)
            have hs := same_any r q A1 A2 c1 c2 wA (by have := HO1.out.d; omega) K1.rd K2.rd
            rw [HSM.out] at hs
            clear hk
            go_wp2_with (go_at_call 16; ((with_reducible refine hs.mono ?_); rintro e wB ⟨rfl, hbB⟩; have RR := hide (R7.below hbB); have RQ := hide (R8.below hbB); have J1 := K1.below hbB))
            clear R7 R8 K1 K2 hs hmin hbB
            refine region_grows [Say.is (.slice A7 r.frame.length C7), Say.is (.int .i64 (k : Int)), Say.rd k (r.frame.take k), Say.is (.string ⟨(r.frame.take k).toArray⟩), Say.is (.slice A8 q.frame.length C8), Say.is (.int .i64 (k : Int)), Say.rd k (q.frame.take k), Say.is (.string ⟨(q.frame.take k).toArray⟩), Say.is (.bool true), Say.is (.bool true)] (by kernel_rfl) (by kernel_rfl) (by kernel_rfl) (by kernel_rfl) ?_ ?_
            · intro i o ho a w2 hb hsz old dep
              match i, ho with
              | 0, ho =>
                obtain rfl := Option.some.inj ho
                have o7 : a.tmps.getD 7 undef = _ := old 7 (by kernel_rfl)
                rw [if_pos (wanted_none rfl)]
                refine grow_same (v := .slice A7 r.frame.length C7) ?_ rfl
                clear old dep ho hsz hb
                go_simp
              | 1, ho =>
                obtain rfl := Option.some.inj ho
                have o9 : a.tmps.getD 9 undef = _ := old 9 (by kernel_rfl)
                rw [if_pos (wanted_none rfl)]
                refine grow_same (v := .int .i64 (k : Int)) ?_ rfl
                clear old dep ho hsz hb
                go_simp
              | 2, ho =>
                obtain rfl := Option.some.inj ho
                have d0 : a.tmps.getD 43 undef = .slice A7 r.frame.length C7 := dep 0 _ _ (by kernel_rfl) rfl rfl
                have e0 : a.tmps[43]?.getD undef = _ := (Array.getD_eq_getD_getElem? ..).symm.trans d0
                have d1 : a.tmps.getD 44 undef = .int .i64 (k : Int) := dep 1 _ _ (by kernel_rfl) rfl rfl
                have e1 : a.tmps[44]?.getD undef = _ := (Array.getD_eq_getD_getElem? ..).symm.trans d1
                rw [if_pos (wanted_none rfl)]
                have hw := hlow1.out
                refine grow_same (v := .slice A7 k C7) ?_ ⟨_, _, rfl, Rd.low (Rd.below RR.out hb) (by have := hk2.out; omega)⟩
                clear old dep ho hsz hb
                go_simp
              | 3, ho =>
                obtain rfl := Option.some.inj ho
                obtain ⟨A2, C2, d2, r2⟩ : ∃ A c, a.tmps.getD 45 undef = .slice A k c ∧ Rd w2 (.slice A k c) (u8s (r.frame.take k)) := dep 2 _ _ (by kernel_rfl) rfl rfl
                have e2 : a.tmps[45]?.getD undef = _ := (Array.getD_eq_getD_getElem? ..).symm.trans d2
                rw [if_pos (wanted_none rfl)]
                have hcv := conv_rdn (by rw [List.length_take]; have := hk2.out; omega) r2
                refine grow_same (v := .string ⟨(r.frame.take k).toArray⟩) ?_ rfl
                clear old dep ho hsz hb r2
                go_simp
              | 4, ho =>
                obtain rfl := Option.some.inj ho
                have o8 : a.tmps.getD 8 undef = _ := old 8 (by kernel_rfl)
                rw [if_pos (wanted_none rfl)]
                refine grow_same (v := .slice A8 q.frame.length C8) ?_ rfl
                clear old dep ho hsz hb
                go_simp
              | 5, ho =>
                obtain rfl := Option.some.inj ho
                have o9 : a.tmps.getD 9 undef = _ := old 9 (by kernel_rfl)
                rw [if_pos (wanted_none rfl)]
                refine grow_same (v := .int .i64 (k : Int)) ?_ rfl
                clear old dep ho hsz hb
                go_simp
              | 6, ho =>
                obtain rfl := Option.some.inj ho
                have d4 : a.tmps.getD 47 undef = .slice A8 q.frame.length C8 := dep 4 _ _ (by kernel_rfl) rfl rfl
                have e4 : a.tmps[47]?.getD undef = _ := (Array.getD_eq_getD_getElem? ..).symm.trans d4
                have d5 : a.tmps.getD 48 undef = .int .i64 (k : Int) := dep 5 _ _ (by kernel_rfl) rfl rfl
                have e5 : a.tmps[48]?.getD undef = _ := (Array.getD_eq_getD_getElem? ..).symm.trans d5
                rw [if_pos (wanted_none rfl)]
                have hw := hlow2.out
                refine grow_same (v := .slice A8 k C8) ?_ ⟨_, _, rfl, Rd.low (Rd.below RQ.out hb) (by have := hk2.out; omega)⟩
                clear old dep ho hsz hb
                go_simp
              | 7, ho =>
                obtain rfl := Option.some.inj ho
                obtain ⟨A6, C6, d6, r6⟩ : ∃ A c, a.tmps.getD 49 undef = .slice A k c ∧ Rd w2 (.slice A k c) (u8s (q.frame.take k)) := dep 6 _ _ (by kernel_rfl) rfl rfl
                have e6 : a.tmps[49]?.getD undef = _ := (Array.getD_eq_getD_getElem? ..).symm.trans d6
                rw [if_pos (wanted_none rfl)]
                have hcv := conv_rdn (by rw [List.length_take]; have := hk2.out; omega) r6
                refine grow_same (v := .string ⟨(q.frame.take k).toArray⟩) ?_ rfl
                clear old dep ho hsz hb r6
                go_simp
              | 8, ho =>
                obtain rfl := Option.some.inj ho
                have d3 : a.tmps.getD 46 undef = .string ⟨(r.frame.take k).toArray⟩ := dep 3 _ _ (by kernel_rfl) rfl rfl
                have e3 : a.tmps[46]?.getD undef = _ := (Array.getD_eq_getD_getElem? ..).symm.trans d3
                have d7 : a.tmps.getD 50 undef = .string ⟨(q.frame.take k).toArray⟩ := dep 7 _ _ (by kernel_rfl) rfl rfl
                have e7 : a.tmps[50]?.getD undef = _ := (Array.getD_eq_getD_getElem? ..).symm.trans d7
                rw [if_pos (wanted_none rfl)]
                have hw := HNE.out
                refine grow_same (v := .bool true) ?_ rfl
                clear old dep ho hsz hb
                go_simp
                try exact hw
              | 9, ho =>
                obtain rfl := Option.some.inj ho
                have d8 : a.tmps.getD 51 undef = .bool true := dep 8 _ _ (by kernel_rfl) rfl rfl
                have e8 : a.tmps[51]?.getD undef = _ := (Array.getD_eq_getD_getElem? ..).symm.trans d8
                rw [if_pos (wanted_none rfl)]
                refine grow_same (v := .bool true) ?_ rfl
                clear old dep ho hsz hb
                go_simp
              | i + 10, ho => exact absurd ho (by simp)
            · intro a wZ hb hsz hdf fin keep
              obtain ⟨tm, df⟩ := a
              have hx := frame_of [43, 44, 45, 46, 47, 48, 49, 50, 51, 4] (by kernel_rfl) hsz keep
              dsimp only at hdf hx
              simp only [List.foldl_cons, List.foldl_nil] at hx
              subst hdf
              clear hsz keep
              have kn : tm.getD 43 undef = .slice A7 r.frame.length C7 := fin 0 _ _ rfl rfl
              rw [kn] at hx
              clear kn
              have kn : tm.getD 44 undef = .int .i64 (k : Int) := fin 1 _ _ rfl rfl
              rw [kn] at hx
              clear kn
              obtain ⟨A45, C45, kn, R45⟩ : ∃ A c, tm.getD 45 undef = .slice A k c ∧ Rd wZ (.slice A k c) (u8s (r.frame.take k)) := fin 2 _ _ rfl rfl
              rw [kn] at hx
              clear kn
              clear R45
              have kn : tm.getD 46 undef = .string ⟨(r.frame.take k).toArray⟩ := fin 3 _ _ rfl rfl
              rw [kn] at hx
              clear kn
              have kn : tm.getD 47 undef = .slice A8 q.frame.length C8 := fin 4 _ _ rfl rfl
              rw [kn] at hx
              clear kn
              have kn : tm.getD 48 undef = .int .i64 (k : Int) := fin 5 _ _ rfl rfl
              rw [kn] at hx
              clear kn
              obtain ⟨A49, C49, kn, R49⟩ : ∃ A c, tm.getD 49 undef = .slice A k c ∧ Rd wZ (.slice A k c) (u8s (q.frame.take k)) := fin 6 _ _ rfl rfl
              rw [kn] at hx
              clear kn
              clear R49
              have kn : tm.getD 50 undef = .string ⟨(q.frame.take k).toArray⟩ := fin 7 _ _ rfl rfl
              rw [kn] at hx
              clear kn
              have kn : tm.getD 51 undef = .bool true := fin 8 _ _ rfl rfl
              rw [kn] at hx
              clear kn
              have kn : tm.getD 4 undef = .bool true := fin 9 _ _ rfl rfl
              rw [kn] at hx
              clear kn
              clear fin
              simp only [List.setIfInBounds_toArray, List.set_cons_succ, List.set_cons_zero] at hx
              subst hx
              have H9 := J1.below hb
              clear hb
              go_wp2
              go_ret
              exact ⟨rfl, H9.bel⟩
          
          · have hrq : r = q := (sameB_iff r q).1 hsm
            subst hrq
            have hs := same_any r r A1 A2 c1 c2 wA (by have := HO1.out.d; omega) K1.rd K2.rd
            rw [hsm] at hs
            clear hsm
            go_wp2_with (go_at_call 16; ((with_reducible refine hs.mono ?_); rintro e wB ⟨rfl, hbB⟩; have hcv1 := conv_rd (R7.below hbB); have hcv2 := conv_rd (R8.below hbB); have J1 := K1.below hbB))
            go_ret
            exact ⟨by simp, J1.bel⟩
end Go.Proofs.Ytofnldmbokdkbaa
