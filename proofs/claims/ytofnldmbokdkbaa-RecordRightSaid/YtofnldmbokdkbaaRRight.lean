/-
  The walk of RecordRight.
-/
import Derived.Test.YtofnldmbokdkbaaLRight
import Derived.Test.YtofnldmbokdkbaaGrow
namespace Go.Proofs.Ytofnldmbokdkbaa
open Go.RowKit

set_option linter.unusedSimpArgs false
set_option linter.unusedVariables false

/-- A boxed record, and all that was there. -/
structure Bxr (w0 w : World) (cs : Array Value) : Prop where
  bel : Below w0.heap.size w0 w
  blk : Blk w w0.heap.size 28 cs
theorem Bxr.below {w0 w w' : World} {cs : Array Value} (h : Bxr w0 w cs) (hb : Below w.heap.size w w') : Bxr w0 w' cs := ⟨h.bel.trans (hb.mono h.bel.size), h.blk.below hb⟩
theorem Bxr.cells {w0 w : World} {x0 x1 x2 x3 x4 x5 x6 x7 : Value} (h : Bxr w0 w #[x0, x1, x2, x3, x4, x5, x6, x7]) : w.cell? ⟨w0.heap.size, 0, none⟩ = some x0 ∧ w.cell? ⟨w0.heap.size, 1, none⟩ = some x1 ∧ w.cell? ⟨w0.heap.size, 2, none⟩ = some x2 ∧ w.cell? ⟨w0.heap.size, 3, none⟩ = some x3 ∧
    w.cell? ⟨w0.heap.size, 4, none⟩ = some x4 ∧ w.cell? ⟨w0.heap.size, 5, none⟩ = some x5 ∧ w.cell? ⟨w0.heap.size, 6, none⟩ = some x6 ∧ w.cell? ⟨w0.heap.size, 7, none⟩ = some x7 :=
  ⟨h.blk.cell 0 _ rfl, h.blk.cell 1 _ rfl, h.blk.cell 2 _ rfl, h.blk.cell 3 _ rfl, h.blk.cell 4 _ rfl, h.blk.cell 5 _ rfl, h.blk.cell 6 _ rfl, h.blk.cell 7 _ rfl⟩
theorem light_grow {x : Bool} {k t p s : Int} {sb sa si : ByteArray} {A : Option Addr} {n c : Nat} (w : World) (h : lightB sb sa si n = x) :
    Calls Try.prog 17 #[.agg #[.int .i64 k, .int .i64 t, .int .i64 p, .int .i64 s, .string sb, .string sa, .string si, .slice A n c]] w fun e w' => ∃ v, e = .returned v ∧ (Say.is (.bool x)).p w' v ∧ Below w.heap.size w w' :=
  (light_told w h).mono fun _ _ ⟨h1, h2⟩ => ⟨_, h1, rfl, h2⟩
theorem right_grow (k t p s : Int) (sb sa si : ByteArray) (A : Option Addr) (n c : Nat) (w : World) :
    Calls Try.prog 14 #[.agg #[.int .i64 k, .int .i64 t, .int .i64 p, .int .i64 s, .string sb, .string sa, .string si, .slice A n c]] w fun e w' => ∃ v, e = .returned v ∧ (Say.is (.bool (rightB k t p s sb sa si n))).p w' v ∧ Below w.heap.size w w' :=
  (right_any k t p s sb sa si A n c w).mono fun _ _ ⟨h1, h2⟩ => ⟨_, h1, rfl, h2⟩
theorem lright_grow (k t p s : Int) (sb sa si : ByteArray) (A : Option Addr) (n c : Nat) (w : World) :
    Calls Try.prog 18 #[.agg #[.int .i64 k, .int .i64 t, .int .i64 p, .int .i64 s, .string sb, .string sa, .string si, .slice A n c]] w fun e w' => ∃ v, e = .returned v ∧ (Say.is (.bool (rightB k t p s sb sa si n))).p w' v ∧ Below w.heap.size w w' :=
  (lright_any k t p s sb sa si A n c w).mono fun _ _ ⟨h1, h2⟩ => ⟨_, h1, rfl, h2⟩
set_option maxHeartbeats 2000000 in
theorem rr_false {k t p s : Int} {sb sa si : ByteArray} {A : Option Addr} {n c : Nat} (w : World) (hl : lightB sb sa si n = false) :
    Calls Try.prog 4 #[.agg #[.int .i64 k, .int .i64 t, .int .i64 p, .int .i64 s, .string sb, .string sa, .string si, .slice A n c]] w fun e w' => e = .returned (.bool true) ∧ Below w.heap.size w w' := by
  have T0 : Bxr w (w.alloc (.cells #[.int .i64 k, .int .i64 t, .int .i64 p, .int .i64 s, .string sb, .string sa, .string si, .slice A n c] 28)) #[.int .i64 k, .int .i64 t, .int .i64 p, .int .i64 s, .string sb, .string sa, .string si, .slice A n c] := ⟨(Below.refl _ _).alloc (Nat.le_refl _) _, heap_new w _⟩
  go_enter Try.func4, Try.ntmps4
  go_wp2_with (go_at_call 10; refine (fit_any _).mono ?_; rintro e w1 ⟨rfl, hb1⟩)
  have T1 := T0.below hb1
  obtain ⟨p0, p1, p2, p3, p4, p5, p6, p7⟩ := T1.cells
  have hlt := hide T1.blk.lt
  clear hb1 T0
  refine region_grows [Say.is (.agg #[.int .i64 k, .int .i64 t, .int .i64 p, .int .i64 s, .string sb, .string sa, .string si, .slice A n c]), Say.is (.bool false), Say.is (.bool true), Say.is (.bool true), Say.is (undef), Say.is (undef), Say.is (undef), Say.is (undef), Say.is (undef), Say.is (.bool true), Say.is (.bool true)] (by kernel_rfl) (by kernel_rfl) (by kernel_rfl) (by kernel_rfl) ?_ ?_
  · intro i o ho a w2 hb hsz old dep
    match i, ho with
    | 0, ho =>
      obtain rfl := Option.some.inj ho
      have o1 : a.tmps.getD 1 undef = _ := old 1 (by kernel_rfl)
      rw [if_pos (wanted_none rfl)]
      have g0 := (hb.cell (p := ⟨w.heap.size, 0, none⟩) hlt.out).trans p0
      have g1 := (hb.cell (p := ⟨w.heap.size, 1, none⟩) hlt.out).trans p1
      have g2 := (hb.cell (p := ⟨w.heap.size, 2, none⟩) hlt.out).trans p2
      have g3 := (hb.cell (p := ⟨w.heap.size, 3, none⟩) hlt.out).trans p3
      have g4 := (hb.cell (p := ⟨w.heap.size, 4, none⟩) hlt.out).trans p4
      have g5 := (hb.cell (p := ⟨w.heap.size, 5, none⟩) hlt.out).trans p5
      have g6 := (hb.cell (p := ⟨w.heap.size, 6, none⟩) hlt.out).trans p6
      have g7 := (hb.cell (p := ⟨w.heap.size, 7, none⟩) hlt.out).trans p7
      refine grow_same (v := .agg #[.int .i64 k, .int .i64 t, .int .i64 p, .int .i64 s, .string sb, .string sa, .string si, .slice A n c]) ?_ rfl
      clear old dep ho hsz hb
      go_simp
    | 1, ho =>
      obtain rfl := Option.some.inj ho
      have d0 : a.tmps.getD 5 undef = .agg #[.int .i64 k, .int .i64 t, .int .i64 p, .int .i64 s, .string sb, .string sa, .string si, .slice A n c] := dep 0 _ _ (by kernel_rfl) rfl rfl
      have e0 : a.tmps[5]?.getD undef = _ := (Array.getD_eq_getD_getElem? ..).symm.trans d0
      rw [if_pos (wanted_none rfl)]
      refine grow_enters (f := 17) (args := #[.agg #[.int .i64 k, .int .i64 t, .int .i64 p, .int .i64 s, .string sb, .string sa, .string si, .slice A n c]]) ?_ (light_grow _ hl)
      clear old dep ho hsz hb
      go_simp
    | 2, ho =>
      obtain rfl := Option.some.inj ho
      have d1 : a.tmps.getD 6 undef = .bool false := dep 1 _ _ (by kernel_rfl) rfl rfl
      have e1 : a.tmps[6]?.getD undef = _ := (Array.getD_eq_getD_getElem? ..).symm.trans d1
      rw [if_pos (wanted_none rfl)]
      refine grow_same (v := .bool true) ?_ rfl
      clear old dep ho hsz hb
      go_simp
    | 3, ho =>
      obtain rfl := Option.some.inj ho
      have d2 : a.tmps.getD 7 undef = .bool true := dep 2 _ _ (by kernel_rfl) rfl rfl
      have e2 : a.tmps[7]?.getD undef = _ := (Array.getD_eq_getD_getElem? ..).symm.trans d2
      rw [if_pos (wanted_none rfl)]
      refine grow_same (v := .bool true) ?_ rfl
      clear old dep ho hsz hb
      go_simp
    | 4, ho =>
      obtain rfl := Option.some.inj ho
      have d3 : a.tmps.getD 8 undef = .bool true := dep 3 _ _ (by kernel_rfl) rfl rfl
      have e3 : a.tmps[8]?.getD undef = _ := (Array.getD_eq_getD_getElem? ..).symm.trans d3
      rw [if_neg (wanted_not rfl rfl rfl (by rw [hsz]; exact of_decide_eq_true rfl) d3 rfl)]
      exact rfl
    | 5, ho =>
      obtain rfl := Option.some.inj ho
      have d3 : a.tmps.getD 8 undef = .bool true := dep 3 _ _ (by kernel_rfl) rfl rfl
      have e3 : a.tmps[8]?.getD undef = _ := (Array.getD_eq_getD_getElem? ..).symm.trans d3
      rw [if_neg (wanted_not rfl rfl rfl (by rw [hsz]; exact of_decide_eq_true rfl) d3 rfl)]
      exact rfl
    | 6, ho =>
      obtain rfl := Option.some.inj ho
      have d3 : a.tmps.getD 8 undef = .bool true := dep 3 _ _ (by kernel_rfl) rfl rfl
      have e3 : a.tmps[8]?.getD undef = _ := (Array.getD_eq_getD_getElem? ..).symm.trans d3
      rw [if_neg (wanted_not rfl rfl rfl (by rw [hsz]; exact of_decide_eq_true rfl) d3 rfl)]
      exact rfl
    | 7, ho =>
      obtain rfl := Option.some.inj ho
      have d3 : a.tmps.getD 8 undef = .bool true := dep 3 _ _ (by kernel_rfl) rfl rfl
      have e3 : a.tmps[8]?.getD undef = _ := (Array.getD_eq_getD_getElem? ..).symm.trans d3
      rw [if_neg (wanted_not rfl rfl rfl (by rw [hsz]; exact of_decide_eq_true rfl) d3 rfl)]
      exact rfl
    | 8, ho =>
      obtain rfl := Option.some.inj ho
      have d3 : a.tmps.getD 8 undef = .bool true := dep 3 _ _ (by kernel_rfl) rfl rfl
      have e3 : a.tmps[8]?.getD undef = _ := (Array.getD_eq_getD_getElem? ..).symm.trans d3
      rw [if_neg (wanted_not rfl rfl rfl (by rw [hsz]; exact of_decide_eq_true rfl) d3 rfl)]
      exact rfl
    | 9, ho =>
      obtain rfl := Option.some.inj ho
      have d3 : a.tmps.getD 8 undef = .bool true := dep 3 _ _ (by kernel_rfl) rfl rfl
      have e3 : a.tmps[8]?.getD undef = _ := (Array.getD_eq_getD_getElem? ..).symm.trans d3
      have d8 : a.tmps.getD 13 undef = undef := dep 8 _ _ (by kernel_rfl) rfl rfl
      have e8 : a.tmps[13]?.getD undef = _ := (Array.getD_eq_getD_getElem? ..).symm.trans d8
      rw [if_pos (wanted_none rfl)]
      refine grow_same (v := .bool true) ?_ rfl
      clear old dep ho hsz hb
      go_simp
    | 10, ho =>
      obtain rfl := Option.some.inj ho
      have d9 : a.tmps.getD 14 undef = .bool true := dep 9 _ _ (by kernel_rfl) rfl rfl
      have e9 : a.tmps[14]?.getD undef = _ := (Array.getD_eq_getD_getElem? ..).symm.trans d9
      rw [if_pos (wanted_none rfl)]
      refine grow_same (v := .bool true) ?_ rfl
      clear old dep ho hsz hb
      go_simp
    | i + 11, ho => exact absurd ho (by simp)
  · intro a w2 hb hsz hdf fin keep
    obtain ⟨tm, df⟩ := a
    have hx := frame_of [5, 6, 7, 8, 9, 10, 11, 12, 13, 14, 2] (by kernel_rfl) hsz keep
    dsimp only at hdf hx
    simp only [List.foldl_cons, List.foldl_nil] at hx
    subst hdf
    clear hsz keep
    have kn : tm.getD 5 undef = .agg #[.int .i64 k, .int .i64 t, .int .i64 p, .int .i64 s, .string sb, .string sa, .string si, .slice A n c] := fin 0 _ _ rfl rfl
    rw [kn] at hx
    clear kn
    have kn : tm.getD 6 undef = .bool false := fin 1 _ _ rfl rfl
    rw [kn] at hx
    clear kn
    have kn : tm.getD 7 undef = .bool true := fin 2 _ _ rfl rfl
    rw [kn] at hx
    clear kn
    have kn : tm.getD 8 undef = .bool true := fin 3 _ _ rfl rfl
    rw [kn] at hx
    clear kn
    have kn : tm.getD 9 undef = undef := fin 4 _ _ rfl rfl
    rw [kn] at hx
    clear kn
    have kn : tm.getD 10 undef = undef := fin 5 _ _ rfl rfl
    rw [kn] at hx
    clear kn
    have kn : tm.getD 11 undef = undef := fin 6 _ _ rfl rfl
    rw [kn] at hx
    clear kn
    have kn : tm.getD 12 undef = undef := fin 7 _ _ rfl rfl
    rw [kn] at hx
    clear kn
    have kn : tm.getD 13 undef = undef := fin 8 _ _ rfl rfl
    rw [kn] at hx
    clear kn
    have kn : tm.getD 14 undef = .bool true := fin 9 _ _ rfl rfl
    rw [kn] at hx
    clear kn
    have kn : tm.getD 2 undef = .bool true := fin 10 _ _ rfl rfl
    rw [kn] at hx
    clear kn
    clear fin
    simp only [List.setIfInBounds_toArray, List.set_cons_succ, List.set_cons_zero] at hx
    subst hx
    have T2 := T1.below hb
    clear hb
    go_wp2
    go_ret
    exact ⟨rfl, T2.bel⟩
set_option maxHeartbeats 2000000 in
theorem rr_true {k t p s : Int} {sb sa si : ByteArray} {A : Option Addr} {n c : Nat} (w : World) (hl : lightB sb sa si n = true) :
    Calls Try.prog 4 #[.agg #[.int .i64 k, .int .i64 t, .int .i64 p, .int .i64 s, .string sb, .string sa, .string si, .slice A n c]] w fun e w' => e = .returned (.bool true) ∧ Below w.heap.size w w' := by
  have T0 : Bxr w (w.alloc (.cells #[.int .i64 k, .int .i64 t, .int .i64 p, .int .i64 s, .string sb, .string sa, .string si, .slice A n c] 28)) #[.int .i64 k, .int .i64 t, .int .i64 p, .int .i64 s, .string sb, .string sa, .string si, .slice A n c] := ⟨(Below.refl _ _).alloc (Nat.le_refl _) _, heap_new w _⟩
  go_enter Try.func4, Try.ntmps4
  go_wp2_with (go_at_call 10; refine (fit_any _).mono ?_; rintro e w1 ⟨rfl, hb1⟩)
  have T1 := T0.below hb1
  obtain ⟨p0, p1, p2, p3, p4, p5, p6, p7⟩ := T1.cells
  have hlt := hide T1.blk.lt
  clear hb1 T0
  refine region_grows [Say.is (.agg #[.int .i64 k, .int .i64 t, .int .i64 p, .int .i64 s, .string sb, .string sa, .string si, .slice A n c]), Say.is (.bool true), Say.is (.bool false), Say.is (.bool false), Say.is (.agg #[.int .i64 k, .int .i64 t, .int .i64 p, .int .i64 s, .string sb, .string sa, .string si, .slice A n c]), Say.is (.bool (rightB k t p s sb sa si n)), Say.is (.agg #[.int .i64 k, .int .i64 t, .int .i64 p, .int .i64 s, .string sb, .string sa, .string si, .slice A n c]), Say.is (.bool (rightB k t p s sb sa si n)), Say.is (.bool true), Say.is (.bool true), Say.is (.bool true)] (by kernel_rfl) (by kernel_rfl) (by kernel_rfl) (by kernel_rfl) ?_ ?_
  · intro i o ho a w2 hb hsz old dep
    match i, ho with
    | 0, ho =>
      obtain rfl := Option.some.inj ho
      have o1 : a.tmps.getD 1 undef = _ := old 1 (by kernel_rfl)
      rw [if_pos (wanted_none rfl)]
      have g0 := (hb.cell (p := ⟨w.heap.size, 0, none⟩) hlt.out).trans p0
      have g1 := (hb.cell (p := ⟨w.heap.size, 1, none⟩) hlt.out).trans p1
      have g2 := (hb.cell (p := ⟨w.heap.size, 2, none⟩) hlt.out).trans p2
      have g3 := (hb.cell (p := ⟨w.heap.size, 3, none⟩) hlt.out).trans p3
      have g4 := (hb.cell (p := ⟨w.heap.size, 4, none⟩) hlt.out).trans p4
      have g5 := (hb.cell (p := ⟨w.heap.size, 5, none⟩) hlt.out).trans p5
      have g6 := (hb.cell (p := ⟨w.heap.size, 6, none⟩) hlt.out).trans p6
      have g7 := (hb.cell (p := ⟨w.heap.size, 7, none⟩) hlt.out).trans p7
      refine grow_same (v := .agg #[.int .i64 k, .int .i64 t, .int .i64 p, .int .i64 s, .string sb, .string sa, .string si, .slice A n c]) ?_ rfl
      clear old dep ho hsz hb
      go_simp
    | 1, ho =>
      obtain rfl := Option.some.inj ho
      have d0 : a.tmps.getD 5 undef = .agg #[.int .i64 k, .int .i64 t, .int .i64 p, .int .i64 s, .string sb, .string sa, .string si, .slice A n c] := dep 0 _ _ (by kernel_rfl) rfl rfl
      have e0 : a.tmps[5]?.getD undef = _ := (Array.getD_eq_getD_getElem? ..).symm.trans d0
      rw [if_pos (wanted_none rfl)]
      refine grow_enters (f := 17) (args := #[.agg #[.int .i64 k, .int .i64 t, .int .i64 p, .int .i64 s, .string sb, .string sa, .string si, .slice A n c]]) ?_ (light_grow _ hl)
      clear old dep ho hsz hb
      go_simp
    | 2, ho =>
      obtain rfl := Option.some.inj ho
      have d1 : a.tmps.getD 6 undef = .bool true := dep 1 _ _ (by kernel_rfl) rfl rfl
      have e1 : a.tmps[6]?.getD undef = _ := (Array.getD_eq_getD_getElem? ..).symm.trans d1
      rw [if_pos (wanted_none rfl)]
      refine grow_same (v := .bool false) ?_ rfl
      clear old dep ho hsz hb
      go_simp
    | 3, ho =>
      obtain rfl := Option.some.inj ho
      have d2 : a.tmps.getD 7 undef = .bool false := dep 2 _ _ (by kernel_rfl) rfl rfl
      have e2 : a.tmps[7]?.getD undef = _ := (Array.getD_eq_getD_getElem? ..).symm.trans d2
      rw [if_pos (wanted_none rfl)]
      refine grow_same (v := .bool false) ?_ rfl
      clear old dep ho hsz hb
      go_simp
    | 4, ho =>
      obtain rfl := Option.some.inj ho
      have o1 : a.tmps.getD 1 undef = _ := old 1 (by kernel_rfl)
      have d3 : a.tmps.getD 8 undef = .bool false := dep 3 _ _ (by kernel_rfl) rfl rfl
      have e3 : a.tmps[8]?.getD undef = _ := (Array.getD_eq_getD_getElem? ..).symm.trans d3
      rw [if_pos (wanted_some rfl rfl rfl (by rw [hsz]; exact of_decide_eq_true rfl) d3)]
      have g0 := (hb.cell (p := ⟨w.heap.size, 0, none⟩) hlt.out).trans p0
      have g1 := (hb.cell (p := ⟨w.heap.size, 1, none⟩) hlt.out).trans p1
      have g2 := (hb.cell (p := ⟨w.heap.size, 2, none⟩) hlt.out).trans p2
      have g3 := (hb.cell (p := ⟨w.heap.size, 3, none⟩) hlt.out).trans p3
      have g4 := (hb.cell (p := ⟨w.heap.size, 4, none⟩) hlt.out).trans p4
      have g5 := (hb.cell (p := ⟨w.heap.size, 5, none⟩) hlt.out).trans p5
      have g6 := (hb.cell (p := ⟨w.heap.size, 6, none⟩) hlt.out).trans p6
      have g7 := (hb.cell (p := ⟨w.heap.size, 7, none⟩) hlt.out).trans p7
      refine grow_same (v := .agg #[.int .i64 k, .int .i64 t, .int .i64 p, .int .i64 s, .string sb, .string sa, .string si, .slice A n c]) ?_ rfl
      clear old dep ho hsz hb
      go_simp
    | 5, ho =>
      obtain rfl := Option.some.inj ho
      have d4 : a.tmps.getD 9 undef = .agg #[.int .i64 k, .int .i64 t, .int .i64 p, .int .i64 s, .string sb, .string sa, .string si, .slice A n c] := dep 4 _ _ (by kernel_rfl) rfl rfl
      have e4 : a.tmps[9]?.getD undef = _ := (Array.getD_eq_getD_getElem? ..).symm.trans d4
      have d3 : a.tmps.getD 8 undef = .bool false := dep 3 _ _ (by kernel_rfl) rfl rfl
      have e3 : a.tmps[8]?.getD undef = _ := (Array.getD_eq_getD_getElem? ..).symm.trans d3
      rw [if_pos (wanted_some rfl rfl rfl (by rw [hsz]; exact of_decide_eq_true rfl) d3)]
      refine grow_enters (f := 14) (args := #[.agg #[.int .i64 k, .int .i64 t, .int .i64 p, .int .i64 s, .string sb, .string sa, .string si, .slice A n c]]) ?_ (right_grow k t p s sb sa si A n c _)
      clear old dep ho hsz hb
      go_simp
    | 6, ho =>
      obtain rfl := Option.some.inj ho
      have o1 : a.tmps.getD 1 undef = _ := old 1 (by kernel_rfl)
      have d3 : a.tmps.getD 8 undef = .bool false := dep 3 _ _ (by kernel_rfl) rfl rfl
      have e3 : a.tmps[8]?.getD undef = _ := (Array.getD_eq_getD_getElem? ..).symm.trans d3
      rw [if_pos (wanted_some rfl rfl rfl (by rw [hsz]; exact of_decide_eq_true rfl) d3)]
      have g0 := (hb.cell (p := ⟨w.heap.size, 0, none⟩) hlt.out).trans p0
      have g1 := (hb.cell (p := ⟨w.heap.size, 1, none⟩) hlt.out).trans p1
      have g2 := (hb.cell (p := ⟨w.heap.size, 2, none⟩) hlt.out).trans p2
      have g3 := (hb.cell (p := ⟨w.heap.size, 3, none⟩) hlt.out).trans p3
      have g4 := (hb.cell (p := ⟨w.heap.size, 4, none⟩) hlt.out).trans p4
      have g5 := (hb.cell (p := ⟨w.heap.size, 5, none⟩) hlt.out).trans p5
      have g6 := (hb.cell (p := ⟨w.heap.size, 6, none⟩) hlt.out).trans p6
      have g7 := (hb.cell (p := ⟨w.heap.size, 7, none⟩) hlt.out).trans p7
      refine grow_same (v := .agg #[.int .i64 k, .int .i64 t, .int .i64 p, .int .i64 s, .string sb, .string sa, .string si, .slice A n c]) ?_ rfl
      clear old dep ho hsz hb
      go_simp
    | 7, ho =>
      obtain rfl := Option.some.inj ho
      have d6 : a.tmps.getD 11 undef = .agg #[.int .i64 k, .int .i64 t, .int .i64 p, .int .i64 s, .string sb, .string sa, .string si, .slice A n c] := dep 6 _ _ (by kernel_rfl) rfl rfl
      have e6 : a.tmps[11]?.getD undef = _ := (Array.getD_eq_getD_getElem? ..).symm.trans d6
      have d3 : a.tmps.getD 8 undef = .bool false := dep 3 _ _ (by kernel_rfl) rfl rfl
      have e3 : a.tmps[8]?.getD undef = _ := (Array.getD_eq_getD_getElem? ..).symm.trans d3
      rw [if_pos (wanted_some rfl rfl rfl (by rw [hsz]; exact of_decide_eq_true rfl) d3)]
      refine grow_enters (f := 18) (args := #[.agg #[.int .i64 k, .int .i64 t, .int .i64 p, .int .i64 s, .string sb, .string sa, .string si, .slice A n c]]) ?_ (lright_grow k t p s sb sa si A n c _)
      clear old dep ho hsz hb
      go_simp
    | 8, ho =>
      obtain rfl := Option.some.inj ho
      have d5 : a.tmps.getD 10 undef = .bool (rightB k t p s sb sa si n) := dep 5 _ _ (by kernel_rfl) rfl rfl
      have e5 : a.tmps[10]?.getD undef = _ := (Array.getD_eq_getD_getElem? ..).symm.trans d5
      have d7 : a.tmps.getD 12 undef = .bool (rightB k t p s sb sa si n) := dep 7 _ _ (by kernel_rfl) rfl rfl
      have e7 : a.tmps[12]?.getD undef = _ := (Array.getD_eq_getD_getElem? ..).symm.trans d7
      have d3 : a.tmps.getD 8 undef = .bool false := dep 3 _ _ (by kernel_rfl) rfl rfl
      have e3 : a.tmps[8]?.getD undef = _ := (Array.getD_eq_getD_getElem? ..).symm.trans d3
      rw [if_pos (wanted_some rfl rfl rfl (by rw [hsz]; exact of_decide_eq_true rfl) d3)]
      refine grow_same (v := .bool true) ?_ rfl
      clear old dep ho hsz hb
      go_simp
    | 9, ho =>
      obtain rfl := Option.some.inj ho
      have d3 : a.tmps.getD 8 undef = .bool false := dep 3 _ _ (by kernel_rfl) rfl rfl
      have e3 : a.tmps[8]?.getD undef = _ := (Array.getD_eq_getD_getElem? ..).symm.trans d3
      have d8 : a.tmps.getD 13 undef = .bool true := dep 8 _ _ (by kernel_rfl) rfl rfl
      have e8 : a.tmps[13]?.getD undef = _ := (Array.getD_eq_getD_getElem? ..).symm.trans d8
      rw [if_pos (wanted_none rfl)]
      refine grow_same (v := .bool true) ?_ rfl
      clear old dep ho hsz hb
      go_simp
    | 10, ho =>
      obtain rfl := Option.some.inj ho
      have d9 : a.tmps.getD 14 undef = .bool true := dep 9 _ _ (by kernel_rfl) rfl rfl
      have e9 : a.tmps[14]?.getD undef = _ := (Array.getD_eq_getD_getElem? ..).symm.trans d9
      rw [if_pos (wanted_none rfl)]
      refine grow_same (v := .bool true) ?_ rfl
      clear old dep ho hsz hb
      go_simp
    | i + 11, ho => exact absurd ho (by simp)
  · intro a w2 hb hsz hdf fin keep
    obtain ⟨tm, df⟩ := a
    have hx := frame_of [5, 6, 7, 8, 9, 10, 11, 12, 13, 14, 2] (by kernel_rfl) hsz keep
    dsimp only at hdf hx
    simp only [List.foldl_cons, List.foldl_nil] at hx
    subst hdf
    clear hsz keep
    have kn : tm.getD 5 undef = .agg #[.int .i64 k, .int .i64 t, .int .i64 p, .int .i64 s, .string sb, .string sa, .string si, .slice A n c] := fin 0 _ _ rfl rfl
    rw [kn] at hx
    clear kn
    have kn : tm.getD 6 undef = .bool true := fin 1 _ _ rfl rfl
    rw [kn] at hx
    clear kn
    have kn : tm.getD 7 undef = .bool false := fin 2 _ _ rfl rfl
    rw [kn] at hx
    clear kn
    have kn : tm.getD 8 undef = .bool false := fin 3 _ _ rfl rfl
    rw [kn] at hx
    clear kn
    have kn : tm.getD 9 undef = .agg #[.int .i64 k, .int .i64 t, .int .i64 p, .int .i64 s, .string sb, .string sa, .string si, .slice A n c] := fin 4 _ _ rfl rfl
    rw [kn] at hx
    clear kn
    have kn : tm.getD 10 undef = .bool (rightB k t p s sb sa si n) := fin 5 _ _ rfl rfl
    rw [kn] at hx
    clear kn
    have kn : tm.getD 11 undef = .agg #[.int .i64 k, .int .i64 t, .int .i64 p, .int .i64 s, .string sb, .string sa, .string si, .slice A n c] := fin 6 _ _ rfl rfl
    rw [kn] at hx
    clear kn
    have kn : tm.getD 12 undef = .bool (rightB k t p s sb sa si n) := fin 7 _ _ rfl rfl
    rw [kn] at hx
    clear kn
    have kn : tm.getD 13 undef = .bool true := fin 8 _ _ rfl rfl
    rw [kn] at hx
    clear kn
    have kn : tm.getD 14 undef = .bool true := fin 9 _ _ rfl rfl
    rw [kn] at hx
    clear kn
    have kn : tm.getD 2 undef = .bool true := fin 10 _ _ rfl rfl
    rw [kn] at hx
    clear kn
    clear fin
    simp only [List.setIfInBounds_toArray, List.set_cons_succ, List.set_cons_zero] at hx
    subst hx
    have T2 := T1.below hb
    clear hb
    go_wp2
    go_ret
    exact ⟨rfl, T2.bel⟩
theorem rright_walk (k t p s : Int) (sb sa si : ByteArray) (A : Option Addr) (n c : Nat) (w : World) :
    Calls Try.prog 4 #[.agg #[.int .i64 k, .int .i64 t, .int .i64 p, .int .i64 s, .string sb, .string sa, .string si, .slice A n c]] w fun e w' => e = .returned (.bool true) ∧ Below w.heap.size w w' := by
  cases hl : lightB sb sa si n
  · exact rr_false w hl
  · exact rr_true w hl
end Go.Proofs.Ytofnldmbokdkbaa
