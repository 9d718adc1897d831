/-
  The walk of PackReads.
-/
import Derived.Test.YtalojooicpkdhaaVars
import Derived.Test.YtalojooicpkdhaaPairs
import Derived.BigQuiet
namespace Go.Proofs.Ytalojooicpkdhaa
open Go.RowKit

theorem Rdr.drewN {w : World} {lo g : Nat} {s : St} (h : Rdr w lo g s) (n : Nat) : Rdr (w.drewN n) lo g s := h
theorem bad_q {w : World} {lo g : Nat} {l : List UInt8} {m : Nat} {bad : Bool} (h : Rdr w lo g (stOf l m bad)) (n : Nat) : Calls Try.prog 14 #[ptr g] (w.drewN n) fun e w'' => e = .returned (.bool bad) ∧ ∃ k, w'' = w.drewN k :=
  Calls.quiet_of_same ((bad_st (h.drewN n)).mono fun _ _ h => ⟨h.1, h.2.symm⟩)
theorem rest_q {w : World} {lo g : Nat} {l : List UInt8} {m : Nat} {bad : Bool} (h : Rdr w lo g (stOf l m bad)) (hm : m ≤ l.length) (n : Nat) : Calls Try.prog 15 #[ptr g] (w.drewN n) fun e w'' => e = .returned (.int .i64 ((l.length : Int) - (m : Int))) ∧ ∃ k, w'' = w.drewN k :=
  Calls.quiet_of_same ((rest_st (h.drewN n) hm).mono fun _ _ h => ⟨h.1, h.2.symm⟩)
theorem wrap_add_byte (a : Nat) (b : UInt8) (h : a < 72057594037927936) : IntKind.u64.wrap ((a : Int) * 256 + IntKind.u64.wrap (b.toNat : Int)) = ((a * 256 + b.toNat : Nat) : Int) := by
  have := b.toNat_lt
  simp only [IntKind.wrap_u64]
  omega
theorem got_one (l : List UInt8) (m : Nat) (bad : Bool) : (stOf l m bad).got 1 = [] ∨ ∃ b, (stOf l m bad).got 1 = [b] := by
  have hl : ((stOf l m bad).got 1).length ≤ 1 := by
    unfold St.got
    split
    · rw [List.length_take]; omega
    · simp
  match (stOf l m bad).got 1, hl with
  | [], _ => exact .inl rfl
  | [b], _ => exact .inr ⟨b, rfl⟩
theorem text_none_of {l : List UInt8} {m m4 : Nat} {bad b4 : Bool} (h : (stOf l m bad).take 1 = stOf l m4 b4) (hg : (stOf l m bad).got 1 = []) :
    (stOf l m bad).text = (stOf l m4 b4).got 0 ∧ (stOf l m bad).textSt = (stOf l m4 b4).take 0 := by
  rcases text_kind l m bad m4 b4 h with ⟨_, h1, h2⟩ | ⟨b, h0, _⟩
  · exact ⟨h1, h2⟩
  · rw [hg] at h0; cases h0
theorem text_one_of {l : List UInt8} {m m4 : Nat} {bad b4 : Bool} {b : UInt8} (h : (stOf l m bad).take 1 = stOf l m4 b4) (hg : (stOf l m bad).got 1 = [b]) :
    (stOf l m bad).text = (stOf l m4 b4).got (b.toNat : Int) ∧ (stOf l m bad).textSt = (stOf l m4 b4).take (b.toNat : Int) := by
  rcases text_kind l m bad m4 b4 h with ⟨h0, _⟩ | ⟨b', h0, h1, h2⟩
  · rw [hg] at h0; cases h0
  · rw [hg] at h0
    injection h0 with h0
    subst h0
    exact ⟨h1, h2⟩
theorem kind3 (K : Int) : (wrap64 (K.tmod 3 + 3)).tmod 3 = 0 ∨ (wrap64 (K.tmod 3 + 3)).tmod 3 = 1 ∨ (wrap64 (K.tmod 3 + 3)).tmod 3 = 2 := by
  have h1 := Int.lt_tmod_of_pos K (b := 3) (by omega)
  have h2 := Int.tmod_lt_of_pos K (b := 3) (by omega)
  have h3 : wrap64 (K.tmod 3 + 3) = K.tmod 3 + 3 := IntWalk.wrap64_in _ (by omega)
  rw [h3]
  have h4 := Int.tmod_nonneg (a := K.tmod 3 + 3) 3 (by omega)
  have h5 := Int.tmod_lt_of_pos (K.tmod 3 + 3) (b := 3) (by omega)
  omega

set_option maxRecDepth 20000 in
set_option maxHeartbeats 2000000 in
theorem reads_walk (v : Value) (l : List UInt8) (v1 : Value) (cs : List (Int × Int)) (w : World) (hm : l.length ≤ maxLen) (hv : Rd w v (u8s l)) (hp : Pairs w w.heap.size v1 cs) :
    Calls Try.prog 3 #[v, v1] w fun e w' => e = .returned (.bool true) ∧ Below w.heap.size w w' := by
  obtain ⟨A, c, rfl, hc, hA⟩ := id hv
  obtain ⟨A1, c1, rfl, hA1⟩ := hp
  rw [u8s_length] at hA hc hv ⊢
  have hm' := hm
  unfold maxLen at hm
  go_enter Try.func3, Try.ntmps3
  have hx0 := hide (Blk.new_ w #[.slice A l.length c] 22 rfl)
  have hv0 := hide (Rd.alloc hv (.cells #[.slice A l.length c] 22))
  have hb0 := hide ((Below.refl w.heap.size w).alloc (Nat.le_refl _) (.cells #[.slice A l.length c] 22))
  have hz0 := hide (show (w.alloc (.cells #[.slice A l.length c] 22)).heap.size = w.heap.size + 1 by simp)
  by_cases hlong : 1000 < l.length
  · go_wp2_with (go_at_call 8; refine (fit_any _).mono ?_; rintro e w1 ⟨rfl, hb1⟩; have hcx := (hx0.out.below hb1).cell 0 _ rfl)
    go_ret
    exact ⟨rfl, hb0.out.trans (hb1.mono hb0.out.size)⟩
  by_cases hmany : 200 < cs.length
  · go_wp2_with (go_at_call 8; refine (fit_any _).mono ?_; rintro e w1 ⟨rfl, hb1⟩; have hcx := (hx0.out.below hb1).cell 0 _ rfl)
    go_ret
    exact ⟨rfl, hb0.out.trans (hb1.mono hb0.out.size)⟩
  go_wp2_with (first
    | (go_at_call 8; refine (fit_any _).mono ?_; rintro e w1 ⟨rfl, hb1⟩; have hcx := (hx0.out.below hb1).cell 0 _ rfl)
    | (go_at_call 9; with_reducible refine (new_any _ l _ (by omega) (hv0.out.below hb1)).mono ?_; rintro e w2 ⟨g, rfl, hr2, hb2⟩))
  have hbr : Below w.heap.size w w2 := (hb0.out.trans (hb1.mono (by have := hz0.out; omega))).trans (hb2.mono (by have := hz0.out; have := hb1.size; omega))
  have henv : Env ((w2.alloc (.cells #[.int .i64 0] 3)).alloc (.cells #[.bool false] 4)) w.heap.size w.heap.size w2.heap.size (w2.heap.size + 1) A c l 0 false := by
    have hx2 := (hx0.out.below hb1).below hb2
    have hz := hz0.out
    refine ⟨(hx2.alloc _).alloc _, (Blk.new_ w2 #[.int .i64 0] 3 rfl).alloc _, Blk.new_ _ #[.bool false] 4 (by simp), ?_, Nat.le_refl _, hx2.lt, Nat.lt_succ_self _, Nat.zero_le _⟩
    exact ((Row.below hv hbr).alloc hbr.size _).alloc (by simp; have := hbr.size; omega) _
  have hbe := (hbr.alloc hbr.size (.cells #[.int .i64 0] 3)).alloc (by simp; have := hbr.size; omega) (.cells #[.bool false] 4)
  have hr := (hr2.alloc (.cells #[.int .i64 0] 3)).alloc (.cells #[.bool false] 4)
  have hgy := hr2.lt
  have hlo : w.heap.size + 1 ≤ w1.heap.size := by have := hz0.out; have := hb1.size; omega
  generalize hw3 : (w2.alloc (.cells #[.int .i64 0] 3)).alloc (.cells #[.bool false] 4) = w3 at *
  generalize hy : w2.heap.size = y at *
  generalize hz : y + 1 = z at *
  have hyz : y < z := by omega
  have hbx := hb0.out.size
  clear hw3 hy hz hr2 hb2 hb1 hcx hx0 hv0 hb0 hz0 hbr
  generalize w1.heap.size = lo at *
  have hxg : w.heap.size < g := by have := hr.lo_le; omega
  go_loopw [34] (fun i wr => ∃ k : Nat, k ≤ cs.length ∧ i = .int .i64 k ∧ (∃ m bad, Rdr wr lo g (stOf l m bad) ∧ Env wr w.heap.size w.heap.size y z A c l m bad) ∧ Below w.heap.size w wr) (fun i _ => cs.length - (intOf i).toNat)
  case atStart => exact ⟨0, by omega, rfl, ⟨0, false, hr, henv⟩, hbe⟩
  case round =>
    clear hr henv hbe
    obtain ⟨k, hk, rfl, ⟨m, bad, hr, henv⟩, hbe⟩ := hrel
    by_cases hlt : k < cs.length
    · obtain ⟨bb, o, rfl, hbb, hcell⟩ := hA1 (by omega)
      obtain ⟨q0, q1⟩ := hcell k _ (List.getElem?_eq_getElem hlt)
      have hq0 := (hbe.cell (p := ⟨bb, o + k * 2, none⟩) hbb).trans q0
      have hq1 := (hbe.cell (p := ⟨bb, o + k * 2 + 1, none⟩) hbb).trans q1
      clear hcell q0 q1
      generalize (cs[k]).1 = K at *
      generalize (cs[k]).2 = N at *
      have hal : wr.grownBy (wr.alloc (.cells #[.int .i64 K, .int .i64 N] 29)) none := World.grownBy_alloc _ _ _
      have henv1 := hide (henv.alloc (.cells #[.int .i64 K, .int .i64 N] 29))
      have hr1 := hide (hr.alloc (.cells #[.int .i64 K, .int .i64 N] 29))
      have hbe1 := hide (hbe.alloc hbe.size (.cells #[.int .i64 K, .int .i64 N] 29))
      have hk1 := (Blk.new_ wr #[.int .i64 K, .int .i64 N] 29 rfl).cell 1 _ rfl
      have hzr : z < wr.heap.size := henv.vd.lt
      have hlm : l.length ≤ 1000 := by omega
      have hst : (stOf l m bad).rest.length ≤ 70368744177664 := by simp [stOf]; omega
      have hz0 := henv.cd
      have hzf := henv.fd
      have hbz := (Below.refl y wr).setCell (p := ⟨z, 0, none⟩) (Nat.le_of_lt hyz) (.bool true)
      have henv2 := hide ((henv.setBad true).alloc (.cells #[.int .i64 K, .int .i64 N] 29))
      have hr2 := hide ((hr.low hbz hgy).alloc (.cells #[.int .i64 K, .int .i64 N] 29))
      have hb2 := hide ((hbe.trans (hbz.mono (Nat.le_of_lt henv.xy))).alloc (hbe.trans (hbz.mono (Nat.le_of_lt henv.xy))).size (.cells #[.int .i64 K, .int .i64 N] 29))
      clear hal hr henv hA hv hA1 hbz
      rcases kind3 K with hκ | hκ | hκ
      · go_wp2_with (first
          | (go_at_call 10; with_reducible refine (part_at N henv1.out hlm).mono ?_; rintro e w4 ⟨m4, bad4, rfl, hst4, henv4, hbl4, hcl4⟩; have hk4 := (hcl4 ⟨wr.heap.size, 1, none⟩ (by show wr.heap.size ≠ y; omega) (by show wr.heap.size ≠ z; omega)).trans hk1; have hr4 := hide (hr1.out.low hbl4 hgy); have henv4' := hide henv4; clear henv4)
          | (go_at_call 11; with_reducible refine (take_told N hr4.out hst).mono ?_; rintro e w5 ⟨A5, c5, rfl, hrd5, hr5, hg5, hcv5⟩; rw [hst4] at hr5))
        have henv5 := henv4'.out.keep hg5 (fun j hj => by injection hj with hj; omega)
        have c1 := henv5.cb
        have c2 := henv5.ca
        have c3 := henv5.cd
        have hle := henv5.le
        go_quiet (first
          | (go_at_call 14; exact bad_q hr5 _)
          | (go_at_call 15; exact rest_q hr5 hle _))
        go_wp2
        go_round
        case rel => exact ⟨k + 1, by omega, by go_num, ⟨m4, bad4, hr5.drewN nq, henv5.drewN nq⟩, Below.drewN (((hbe1.out.trans (hbl4.mono (by have := henv5.xy; omega)))).grown hg5 (by have := hbl4.size; have := hbe1.out.size; omega) (fun j hj => by injection hj with hj; omega)) nq⟩
        case measure => simp [intOf]; omega
      · have hsb := fun W G => run_str G W
        obtain ⟨hn1, hn2⟩ := And.intro (Int.lt_tmod_of_pos N (b := 11) (by omega)) (Int.tmod_lt_of_pos N (b := 11) (by omega))
        obtain ⟨n, hNn⟩ : ∃ n, N.tmod 11 = n := ⟨_, rfl⟩
        rw [hNn] at hn1 hn2
        by_cases hin1 : n < 1
        · obtain ⟨hnum, hnumSt, hG8⟩ := num_kind l m bad true n (by simp; omega)
          go_wp2_with (first
            | (go_at_call 10; with_reducible refine (part_at n henv2.out hlm).mono ?_; rintro e w4 ⟨m4, bad4, rfl, hst4, henv4, hbl4, hcl4⟩; have hr4 := hide (hr2.out.low hbl4 hgy); have hb4 := hide (hb2.out.trans (hbl4.mono (Nat.le_of_lt henv4.xy))); have henv4' := hide henv4; clear henv4))
          have hgs := strW_grown w4 ((stOf l m true).got n)
          have hcw := strW_cell w4 ((stOf l m true).got n)
          have hrs := hide (hr4.out.keep hgs (by simp))
          have henvs := hide (henv4'.out.keep hgs (by simp))
          have hbs := hide (hb4.out.grown hgs hb4.out.size (by simp))
          generalize hG : (stOf l m true).got n = G at *
          have HG := hide hG
          clear hG hgs hr4 henv4' hb4 hbl4 hcl4 hsb
          generalize strW w4 G = ws at *
          generalize strC w4 G = cw at *
          generalize w4.heap.size = bw at *
          go_loop [13, 86] (fun v i => ∃ j : Nat, j ≤ G.length ∧ i = .int .i64 j ∧ v = .int .u64 (val (G.take j) : Int)) (fun _ i => G.length - (intOf i).toNat)
          case atStart => exact ⟨0, by omega, rfl, rfl⟩
          case round =>
            obtain ⟨j, hj, rfl, rfl⟩ := hrel
            by_cases hjl : j < G.length
            · have hcj := hcw j hjl
              have hvl := val_take_lt G j hG8 hjl
              have HV := hide (val_take G j hjl)
              generalize val (G.take j) = a at *
              generalize hy0 : G[j] = y0 at *
              have HY := hide hy0
              clear hcw hy0
              go_wp2
              go_round
              case rel => exact ⟨j + 1, by omega, by go_num, by rw [HV.out, wrap_add_byte a y0 hvl]⟩
              case measure => simp [intOf]; omega
            · obtain rfl : j = G.length := by omega
              rw [List.take_length]
              clear hcw
              go_wp2_with (go_at_call 12; with_reducible refine (num_any n hrs.out hst).mono ?_; rw [hnum, hnumSt, hst4]; rintro e w5 ⟨rfl, hr5, hg5⟩)
              have henv5 := henvs.out.keep hg5 (fun j hj => by injection hj with hj; omega)
              have c1 := henv5.cb
              have c2 := henv5.ca
              have c3 := henv5.cd
              have hle := henv5.le
              go_quiet (first
                | (go_at_call 14; exact bad_q hr5 _)
                | (go_at_call 15; exact rest_q hr5 hle _))
              go_wp2
              go_round
              case rel => exact ⟨k + 1, by omega, by go_num, ⟨m4, bad4, hr5.drewN nq, henv5.drewN nq⟩, Below.drewN (hbs.out.grown hg5 hbs.out.size (fun j hj => by injection hj with hj; omega)) nq⟩
              case measure => simp [intOf]; omega
        by_cases hin2 : 8 < n
        · obtain ⟨hnum, hnumSt, hG8⟩ := num_kind l m bad true n (by simp; omega)
          go_wp2_with (first
            | (go_at_call 10; with_reducible refine (part_at n henv2.out hlm).mono ?_; rintro e w4 ⟨m4, bad4, rfl, hst4, henv4, hbl4, hcl4⟩; have hr4 := hide (hr2.out.low hbl4 hgy); have hb4 := hide (hb2.out.trans (hbl4.mono (Nat.le_of_lt henv4.xy))); have henv4' := hide henv4; clear henv4))
          have hgs := strW_grown w4 ((stOf l m true).got n)
          have hcw := strW_cell w4 ((stOf l m true).got n)
          have hrs := hide (hr4.out.keep hgs (by simp))
          have henvs := hide (henv4'.out.keep hgs (by simp))
          have hbs := hide (hb4.out.grown hgs hb4.out.size (by simp))
          generalize hG : (stOf l m true).got n = G at *
          have HG := hide hG
          clear hG hgs hr4 henv4' hb4 hbl4 hcl4 hsb
          generalize strW w4 G = ws at *
          generalize strC w4 G = cw at *
          generalize w4.heap.size = bw at *
          go_loop [13, 86] (fun v i => ∃ j : Nat, j ≤ G.length ∧ i = .int .i64 j ∧ v = .int .u64 (val (G.take j) : Int)) (fun _ i => G.length - (intOf i).toNat)
          case atStart => exact ⟨0, by omega, rfl, rfl⟩
          case round =>
            obtain ⟨j, hj, rfl, rfl⟩ := hrel
            by_cases hjl : j < G.length
            · have hcj := hcw j hjl
              have hvl := val_take_lt G j hG8 hjl
              have HV := hide (val_take G j hjl)
              generalize val (G.take j) = a at *
              generalize hy0 : G[j] = y0 at *
              have HY := hide hy0
              clear hcw hy0
              go_wp2
              go_round
              case rel => exact ⟨j + 1, by omega, by go_num, by rw [HV.out, wrap_add_byte a y0 hvl]⟩
              case measure => simp [intOf]; omega
            · obtain rfl : j = G.length := by omega
              rw [List.take_length]
              clear hcw
              go_wp2_with (go_at_call 12; with_reducible refine (num_any n hrs.out hst).mono ?_; rw [hnum, hnumSt, hst4]; rintro e w5 ⟨rfl, hr5, hg5⟩)
              have henv5 := henvs.out.keep hg5 (fun j hj => by injection hj with hj; omega)
              have c1 := henv5.cb
              have c2 := henv5.ca
              have c3 := henv5.cd
              have hle := henv5.le
              go_quiet (first
                | (go_at_call 14; exact bad_q hr5 _)
                | (go_at_call 15; exact rest_q hr5 hle _))
              go_wp2
              go_round
              case rel => exact ⟨k + 1, by omega, by go_num, ⟨m4, bad4, hr5.drewN nq, henv5.drewN nq⟩, Below.drewN (hbs.out.grown hg5 hbs.out.size (fun j hj => by injection hj with hj; omega)) nq⟩
              case measure => simp [intOf]; omega
        · obtain ⟨hnum, hnumSt, hG8⟩ := num_kind l m bad bad n (by simp; omega)
          go_wp2_with (first
            | (go_at_call 10; with_reducible refine (part_at n henv1.out hlm).mono ?_; rintro e w4 ⟨m4, bad4, rfl, hst4, henv4, hbl4, hcl4⟩; have hr4 := hide (hr1.out.low hbl4 hgy); have hb4 := hide (hbe1.out.trans (hbl4.mono (Nat.le_of_lt henv4.xy))); have henv4' := hide henv4; clear henv4))
          have hgs := strW_grown w4 ((stOf l m bad).got n)
          have hcw := strW_cell w4 ((stOf l m bad).got n)
          have hrs := hide (hr4.out.keep hgs (by simp))
          have henvs := hide (henv4'.out.keep hgs (by simp))
          have hbs := hide (hb4.out.grown hgs hb4.out.size (by simp))
          generalize hG : (stOf l m bad).got n = G at *
          have HG := hide hG
          clear hG hgs hr4 henv4' hb4 hbl4 hcl4 hsb
          generalize strW w4 G = ws at *
          generalize strC w4 G = cw at *
          generalize w4.heap.size = bw at *
          go_loop [13, 86] (fun v i => ∃ j : Nat, j ≤ G.length ∧ i = .int .i64 j ∧ v = .int .u64 (val (G.take j) : Int)) (fun _ i => G.length - (intOf i).toNat)
          case atStart => exact ⟨0, by omega, rfl, rfl⟩
          case round =>
            obtain ⟨j, hj, rfl, rfl⟩ := hrel
            by_cases hjl : j < G.length
            · have hcj := hcw j hjl
              have hvl := val_take_lt G j hG8 hjl
              have HV := hide (val_take G j hjl)
              generalize val (G.take j) = a at *
              generalize hy0 : G[j] = y0 at *
              have HY := hide hy0
              clear hcw hy0
              go_wp2
              go_round
              case rel => exact ⟨j + 1, by omega, by go_num, by rw [HV.out, wrap_add_byte a y0 hvl]⟩
              case measure => simp [intOf]; omega
            · obtain rfl : j = G.length := by omega
              rw [List.take_length]
              clear hcw
              go_wp2_with (go_at_call 12; with_reducible refine (num_any n hrs.out hst).mono ?_; rw [hnum, hnumSt, hst4]; rintro e w5 ⟨rfl, hr5, hg5⟩)
              have henv5 := henvs.out.keep hg5 (fun j hj => by injection hj with hj; omega)
              have c1 := henv5.cb
              have c2 := henv5.ca
              have c3 := henv5.cd
              have hle := henv5.le
              go_quiet (first
                | (go_at_call 14; exact bad_q hr5 _)
                | (go_at_call 15; exact rest_q hr5 hle _))
              go_wp2
              go_round
              case rel => exact ⟨k + 1, by omega, by go_num, ⟨m4, bad4, hr5.drewN nq, henv5.drewN nq⟩, Below.drewN (hbs.out.grown hg5 hbs.out.size (fun j hj => by injection hj with hj; omega)) nq⟩
              case measure => simp [intOf]; omega
      · rcases got_one l m bad with hg1 | ⟨b, hg1⟩
        · go_wp2_with (first
            | (go_at_call 10; with_reducible refine (part_at 1 henv1.out hlm).mono ?_; rw [hg1]; rintro e w4 ⟨m4, bad4, rfl, hst4, henv4, hbl4, hcl4⟩; have hr4 := hide (hr1.out.low hbl4 hgy); have hb4 := hide (hbe1.out.trans (hbl4.mono (Nat.le_of_lt henv4.xy))); have henv4' := hide henv4; clear henv4; obtain ⟨hT, hTS⟩ := text_none_of hst4 hg1)
            | (go_at_call 10; with_reducible refine (part_at 0 henv4'.out hlm).mono ?_; rintro e w5 ⟨m5, bad5, rfl, hst5, henv5, hbl5, hcl5⟩; have hr5 := hide (hr4.out.low hbl5 hgy); have hb5 := hide (hb4.out.trans (hbl5.mono (Nat.le_of_lt henv5.xy))); have henv5' := hide henv5; clear henv5)
            | (go_at_call 13; with_reducible refine (text_any_r hr5.out hst).mono ?_; rw [hT, hTS, hst5]; rintro e w6 ⟨rfl, hr6, hg6⟩))
          have henv6 := henv5'.out.keep hg6 (fun j hj => by injection hj with hj; omega)
          have c1 := henv6.cb
          have c2 := henv6.ca
          have c3 := henv6.cd
          have hle := henv6.le
          go_quiet (first
            | (go_at_call 14; exact bad_q hr6 _)
            | (go_at_call 15; exact rest_q hr6 hle _))
          go_wp2
          go_round
          case rel => exact ⟨k + 1, by omega, by go_num, ⟨m5, bad5, hr6.drewN nq, henv6.drewN nq⟩, Below.drewN (hb5.out.grown hg6 hb5.out.size (fun j hj => by injection hj with hj; omega)) nq⟩
          case measure => simp [intOf]; omega
        · have hwb : wrap64 ((((⟨#[b]⟩ : ByteArray)[0]'(Nat.lt_succ_self 0)).toNat : Nat) : Int) = (b.toNat : Int) := IntWalk.wrap64_in _ (by have := b.toNat_lt; show -9223372036854775808 ≤ (b.toNat : Int) ∧ (b.toNat : Int) ≤ 9223372036854775807; omega)
          go_wp2_with (first
            | (go_at_call 10; with_reducible refine (part_at 1 henv1.out hlm).mono ?_; rw [hg1]; rintro e w4 ⟨m4, bad4, rfl, hst4, henv4, hbl4, hcl4⟩; have hr4 := hide (hr1.out.low hbl4 hgy); have hb4 := hide (hbe1.out.trans (hbl4.mono (Nat.le_of_lt henv4.xy))); have henv4' := hide henv4; clear henv4; obtain ⟨hT, hTS⟩ := text_one_of hst4 hg1)
            | (go_at_call 10; with_reducible refine (part_at (b.toNat : Int) henv4'.out hlm).mono ?_; rintro e w5 ⟨m5, bad5, rfl, hst5, henv5, hbl5, hcl5⟩; have hr5 := hide (hr4.out.low hbl5 hgy); have hb5 := hide (hb4.out.trans (hbl5.mono (Nat.le_of_lt henv5.xy))); have henv5' := hide henv5; clear henv5)
            | (go_at_call 13; with_reducible refine (text_any_r hr5.out hst).mono ?_; rw [hT, hTS, hst5]; rintro e w6 ⟨rfl, hr6, hg6⟩))
          have henv6 := henv5'.out.keep hg6 (fun j hj => by injection hj with hj; omega)
          have c1 := henv6.cb
          have c2 := henv6.ca
          have c3 := henv6.cd
          have hle := henv6.le
          go_quiet (first
            | (go_at_call 14; exact bad_q hr6 _)
            | (go_at_call 15; exact rest_q hr6 hle _))
          go_wp2
          go_round
          case rel => exact ⟨k + 1, by omega, by go_num, ⟨m5, bad5, hr6.drewN nq, henv6.drewN nq⟩, Below.drewN (hb5.out.grown hg6 hb5.out.size (fun j hj => by injection hj with hj; omega)) nq⟩
          case measure => simp [intOf]; omega
    · obtain rfl : k = cs.length := by omega
      go_wp2
      go_ret
      exact ⟨rfl, hbe⟩
end Go.Proofs.Ytalojooicpkdhaa
