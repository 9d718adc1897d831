/-
  Contract of package index: find.
-/
import Derived.Test.YtkcomkllnhdohaaPos
namespace Go.Proofs.Ytkcomkllnhdohaa
open Go.RowKit
set_option maxRecDepth 20000
set_option linter.unusedSimpArgs false
set_option linter.unusedVariables false

set_option maxHeartbeats 4000000 in
theorem find_in {w : World} {g : Nat} {r : Option Nat} {xs : List It} {yt : Int} {yk : ByteArray} {x : It} (h : Ix w g r xs) (hp : xs[posL (sought yt yk) xs]? = some x) :
    Calls Try.prog 20 #[.pointer (some ⟨g, 0, none⟩), .int .i64 yt, .string yk] w fun e w' => e = .returned (.tuple #[.int .i64 (posL (sought yt yk) xs : Nat), .bool (!itB (sought yt yk) x)]) ∧ Below w.heap.size w w' := by
  have hb1 : Below w.heap.size w (w.alloc (.cells #[.int .i64 yt, .string yk, .string ⟨#[]⟩] 30)) := (Below.refl _ w).alloc (Nat.le_refl _) _
  have X1 := h.below hb1
  have B1 : Blk (w.alloc (.cells #[.int .i64 yt, .string yk, .string ⟨#[]⟩] 30)) w.heap.size 30 (sought yt yk).rowc := heap_new w _
  have hf := first_any (p := .pointer (some ⟨w.heap.size, 0, none⟩)) (K := 29) (q := fun a => !itB a (sought yt yk)) X1 ⟨fun args W => enters_of Try.func29 (by kernel_rfl) rfl args W, fun x _ W hW => ge_find x (B1.below hW)⟩ (itB_ge_mono h.srt _)
  have HF := hide hf
  have HX := hide X1
  have HB1 := hide hb1
  have HS := hide B1
  have hp2 := hide hp
  have hle := hide (posL_le (sought yt yk) xs)
  have hcn : cnt (fun a => !itB a (sought yt yk)) xs = posL (sought yt yk) xs := rfl
  rw [hcn] at HF
  clear hf X1 hb1 B1 h hp hcn
  have HA := hp2
  have hlt := hide (List.getElem?_eq_some_iff.1 hp2.out).1
  have hl := fun W => less_it (sought yt yk) x W
  have HL := hide hl
  clear hl
  generalize posL (sought yt yk) xs = m at *
  generalize itB (sought yt yk) _ = b at *
  obtain ⟨t, kk, vv, pp, ss⟩ := x
  unfold It.row sought at HL
  dsimp only at HL
  go_enter Try.func20, Try.ntmps20
  go_wp2_with (go_at_call 25; refine HF.out.mono ?_; rintro e w2 ⟨rfl, hb⟩; have XX := hide (HX.out.below hb); have XS := hide (HS.out.below hb); have HBB := hide (HB1.out.trans (hb.mono HB1.out.size)); clear hb)
  clear HX HS HF HB1
  generalize w2 = W at *
  obtain ⟨v, hv, hit, _⟩ := XX.out.v
  obtain ⟨k, c, rfl, _, _⟩ := hit.block (by have := hlt.out; omega)
  have XV := hide hv
  have XI := hide hit
  have HI := hide (show (0 : Int) ≤ (m : Int) ∧ (m : Int) < (xs.length : Int) by have := hlt.out; omega)
  have HM := hide (show (m : Int) < (xs.length : Int) by have := hlt.out; omega)
  have HN := hide (rfl : xs.length = xs.length)
  clear hv hit
  refine region_grows [Say.is (.int .i64 (m : Int)), Say.is (.int .i64 (m : Int)), Say.is (.pointer (some ⟨g, 0, none⟩)), Say.is (.int .i64 (xs.length : Int)), Say.is (.bool true), Say.is (.bool true), Say.is (.agg #[.int .i64 yt, .string yk, .string ⟨#[]⟩]), Say.is (.pointer (some ⟨g, 0, none⟩)), Say.is (.pointer (some ⟨g, 0, none⟩)), Say.is (.pointer (some ⟨g, 0, none⟩)), Say.is (.slice (some ⟨k, 0, none⟩) xs.length c), Say.is (.int .i64 (m : Int)), Say.is (.pointer (some ⟨k, m * 5, none⟩)), Say.is (.pointer (some ⟨k, m * 5, none⟩)), Say.is (.agg #[.int .i64 t, .string kk, .string vv]), Say.is (.bool b), Say.is (.bool (!b)), Say.is (.bool (!b)), Say.is (.int .i64 (m : Int)), Say.is (.bool (!b))] (by kernel_rfl) (by kernel_rfl) (by kernel_rfl) (by kernel_rfl) ?_ ?_
  · intro i o ho a w2 hb hsz old dep
    match i, ho with
    | 0, ho =>
      obtain rfl := Option.some.inj ho
      have o9 : a.tmps.getD 9 undef = _ := old 9 (by kernel_rfl)
      rw [if_pos (wanted_none rfl)]
      refine grow_same (v := .int .i64 (m : Int)) ?_ rfl
      clear old dep ho hsz hb
      go_simp
    | 1, ho =>
      obtain rfl := Option.some.inj ho
      have o9 : a.tmps.getD 9 undef = _ := old 9 (by kernel_rfl)
      rw [if_pos (wanted_none rfl)]
      refine grow_same (v := .int .i64 (m : Int)) ?_ rfl
      clear old dep ho hsz hb
      go_simp
    | 2, ho =>
      obtain rfl := Option.some.inj ho
      have o0 : a.tmps.getD 0 undef = _ := old 0 (by kernel_rfl)
      rw [if_pos (wanted_none rfl)]
      refine grow_same (v := .pointer (some ⟨g, 0, none⟩)) ?_ rfl
      clear old dep ho hsz hb
      go_simp
    | 3, ho =>
      obtain rfl := Option.some.inj ho
      have d2 : a.tmps.getD 18 undef = .pointer (some ⟨g, 0, none⟩) := dep 2 _ _ (by kernel_rfl) rfl rfl
      have e2 : a.tmps[18]?.getD undef = _ := (Array.getD_eq_getD_getElem? ..).symm.trans d2
      rw [if_pos (wanted_none rfl)]
      refine grow_enters (f := 16) (args := #[.pointer (some ⟨g, 0, none⟩)]) ?_ ((len_any (XX.out.below hb)).mono fun e w3 h => ⟨_, h.1, rfl, h.2 ▸ Below.refl _ _⟩)
      clear old dep ho hsz hb
      go_simp
    | 4, ho =>
      obtain rfl := Option.some.inj ho
      have d1 : a.tmps.getD 17 undef = .int .i64 (m : Int) := dep 1 _ _ (by kernel_rfl) rfl rfl
      have e1 : a.tmps[17]?.getD undef = _ := (Array.getD_eq_getD_getElem? ..).symm.trans d1
      have d3 : a.tmps.getD 19 undef = .int .i64 (xs.length : Int) := dep 3 _ _ (by kernel_rfl) rfl rfl
      have e3 : a.tmps[19]?.getD undef = _ := (Array.getD_eq_getD_getElem? ..).symm.trans d3
      rw [if_pos (wanted_none rfl)]
      have q1 := HM.out
      refine grow_same (v := .bool true) ?_ rfl
      clear old dep ho hsz hb
      go_simp
    | 5, ho =>
      obtain rfl := Option.some.inj ho
      have d4 : a.tmps.getD 20 undef = .bool true := dep 4 _ _ (by kernel_rfl) rfl rfl
      have e4 : a.tmps[20]?.getD undef = _ := (Array.getD_eq_getD_getElem? ..).symm.trans d4
      rw [if_pos (wanted_none rfl)]
      refine grow_same (v := .bool true) ?_ rfl
      clear old dep ho hsz hb
      go_simp
    | 6, ho =>
      obtain rfl := Option.some.inj ho
      have o8 : a.tmps.getD 8 undef = _ := old 8 (by kernel_rfl)
      have d5 : a.tmps.getD 21 undef = .bool true := dep 5 _ _ (by kernel_rfl) rfl rfl
      have e5 : a.tmps[21]?.getD undef = _ := (Array.getD_eq_getD_getElem? ..).symm.trans d5
      rw [if_pos (wanted_some rfl rfl rfl (by rw [hsz]; exact of_decide_eq_true rfl) d5)]
      obtain ⟨g0, g1, g2⟩ := row_cells (XS.out.below hb)
      dsimp only [sought] at g0 g1 g2
      refine grow_same (v := .agg #[.int .i64 yt, .string yk, .string ⟨#[]⟩]) ?_ rfl
      clear old dep ho hsz hb
      go_simp
    | 7, ho =>
      obtain rfl := Option.some.inj ho
      have o0 : a.tmps.getD 0 undef = _ := old 0 (by kernel_rfl)
      have d5 : a.tmps.getD 21 undef = .bool true := dep 5 _ _ (by kernel_rfl) rfl rfl
      have e5 : a.tmps[21]?.getD undef = _ := (Array.getD_eq_getD_getElem? ..).symm.trans d5
      rw [if_pos (wanted_some rfl rfl rfl (by rw [hsz]; exact of_decide_eq_true rfl) d5)]
      refine grow_same (v := .pointer (some ⟨g, 0, none⟩)) ?_ rfl
      clear old dep ho hsz hb
      go_simp
    | 8, ho =>
      obtain rfl := Option.some.inj ho
      have d7 : a.tmps.getD 23 undef = .pointer (some ⟨g, 0, none⟩) := dep 7 _ _ (by kernel_rfl) rfl rfl
      have e7 : a.tmps[23]?.getD undef = _ := (Array.getD_eq_getD_getElem? ..).symm.trans d7
      have d5 : a.tmps.getD 21 undef = .bool true := dep 5 _ _ (by kernel_rfl) rfl rfl
      have e5 : a.tmps[21]?.getD undef = _ := (Array.getD_eq_getD_getElem? ..).symm.trans d5
      rw [if_pos (wanted_some rfl rfl rfl (by rw [hsz]; exact of_decide_eq_true rfl) d5)]
      refine grow_same (v := .pointer (some ⟨g, 0, none⟩)) ?_ rfl
      clear old dep ho hsz hb
      go_simp
    | 9, ho =>
      obtain rfl := Option.some.inj ho
      have d8 : a.tmps.getD 24 undef = .pointer (some ⟨g, 0, none⟩) := dep 8 _ _ (by kernel_rfl) rfl rfl
      have e8 : a.tmps[24]?.getD undef = _ := (Array.getD_eq_getD_getElem? ..).symm.trans d8
      have d5 : a.tmps.getD 21 undef = .bool true := dep 5 _ _ (by kernel_rfl) rfl rfl
      have e5 : a.tmps[21]?.getD undef = _ := (Array.getD_eq_getD_getElem? ..).symm.trans d5
      rw [if_pos (wanted_some rfl rfl rfl (by rw [hsz]; exact of_decide_eq_true rfl) d5)]
      refine grow_same (v := .pointer (some ⟨g, 0, none⟩)) ?_ rfl
      clear old dep ho hsz hb
      go_simp
    | 10, ho =>
      obtain rfl := Option.some.inj ho
      have d9 : a.tmps.getD 25 undef = .pointer (some ⟨g, 0, none⟩) := dep 9 _ _ (by kernel_rfl) rfl rfl
      have e9 : a.tmps[25]?.getD undef = _ := (Array.getD_eq_getD_getElem? ..).symm.trans d9
      have d5 : a.tmps.getD 21 undef = .bool true := dep 5 _ _ (by kernel_rfl) rfl rfl
      have e5 : a.tmps[21]?.getD undef = _ := (Array.getD_eq_getD_getElem? ..).symm.trans d5
      rw [if_pos (wanted_some rfl rfl rfl (by rw [hsz]; exact of_decide_eq_true rfl) d5)]
      have g0 := (XV.out.below hb).cell 0 _ rfl
      refine grow_same (v := .slice (some ⟨k, 0, none⟩) xs.length c) ?_ rfl
      clear old dep ho hsz hb
      go_simp
    | 11, ho =>
      obtain rfl := Option.some.inj ho
      have o9 : a.tmps.getD 9 undef = _ := old 9 (by kernel_rfl)
      have d5 : a.tmps.getD 21 undef = .bool true := dep 5 _ _ (by kernel_rfl) rfl rfl
      have e5 : a.tmps[21]?.getD undef = _ := (Array.getD_eq_getD_getElem? ..).symm.trans d5
      rw [if_pos (wanted_some rfl rfl rfl (by rw [hsz]; exact of_decide_eq_true rfl) d5)]
      refine grow_same (v := .int .i64 (m : Int)) ?_ rfl
      clear old dep ho hsz hb
      go_simp
    | 12, ho =>
      obtain rfl := Option.some.inj ho
      have d10 : a.tmps.getD 26 undef = .slice (some ⟨k, 0, none⟩) xs.length c := dep 10 _ _ (by kernel_rfl) rfl rfl
      have e10 : a.tmps[26]?.getD undef = _ := (Array.getD_eq_getD_getElem? ..).symm.trans d10
      have d11 : a.tmps.getD 27 undef = .int .i64 (m : Int) := dep 11 _ _ (by kernel_rfl) rfl rfl
      have e11 : a.tmps[27]?.getD undef = _ := (Array.getD_eq_getD_getElem? ..).symm.trans d11
      have d5 : a.tmps.getD 21 undef = .bool true := dep 5 _ _ (by kernel_rfl) rfl rfl
      have e5 : a.tmps[21]?.getD undef = _ := (Array.getD_eq_getD_getElem? ..).symm.trans d5
      rw [if_pos (wanted_some rfl rfl rfl (by rw [hsz]; exact of_decide_eq_true rfl) d5)]
      have q0 := HI.out.1
      have q1 := HI.out.2
      refine grow_same (v := .pointer (some ⟨k, m * 5, none⟩)) ?_ rfl
      clear old dep ho hsz hb
      go_simp
    | 13, ho =>
      obtain rfl := Option.some.inj ho
      have d12 : a.tmps.getD 28 undef = .pointer (some ⟨k, m * 5, none⟩) := dep 12 _ _ (by kernel_rfl) rfl rfl
      have e12 : a.tmps[28]?.getD undef = _ := (Array.getD_eq_getD_getElem? ..).symm.trans d12
      have d5 : a.tmps.getD 21 undef = .bool true := dep 5 _ _ (by kernel_rfl) rfl rfl
      have e5 : a.tmps[21]?.getD undef = _ := (Array.getD_eq_getD_getElem? ..).symm.trans d5
      rw [if_pos (wanted_some rfl rfl rfl (by rw [hsz]; exact of_decide_eq_true rfl) d5)]
      refine grow_same (v := .pointer (some ⟨k, m * 5, none⟩)) ?_ rfl
      clear old dep ho hsz hb
      go_simp
    | 14, ho =>
      obtain rfl := Option.some.inj ho
      have d13 : a.tmps.getD 29 undef = .pointer (some ⟨k, m * 5, none⟩) := dep 13 _ _ (by kernel_rfl) rfl rfl
      have e13 : a.tmps[29]?.getD undef = _ := (Array.getD_eq_getD_getElem? ..).symm.trans d13
      have d5 : a.tmps.getD 21 undef = .bool true := dep 5 _ _ (by kernel_rfl) rfl rfl
      have e5 : a.tmps[21]?.getD undef = _ := (Array.getD_eq_getD_getElem? ..).symm.trans d5
      rw [if_pos (wanted_some rfl rfl rfl (by rw [hsz]; exact of_decide_eq_true rfl) d5)]
      obtain ⟨g0, g1, g2, _⟩ := (XI.out.below hb).cells HN.out HA.out
      refine grow_same (v := .agg #[.int .i64 t, .string kk, .string vv]) ?_ rfl
      clear old dep ho hsz hb
      go_simp
    | 15, ho =>
      obtain rfl := Option.some.inj ho
      have d6 : a.tmps.getD 22 undef = .agg #[.int .i64 yt, .string yk, .string ⟨#[]⟩] := dep 6 _ _ (by kernel_rfl) rfl rfl
      have e6 : a.tmps[22]?.getD undef = _ := (Array.getD_eq_getD_getElem? ..).symm.trans d6
      have d14 : a.tmps.getD 30 undef = .agg #[.int .i64 t, .string kk, .string vv] := dep 14 _ _ (by kernel_rfl) rfl rfl
      have e14 : a.tmps[30]?.getD undef = _ := (Array.getD_eq_getD_getElem? ..).symm.trans d14
      have d5 : a.tmps.getD 21 undef = .bool true := dep 5 _ _ (by kernel_rfl) rfl rfl
      have e5 : a.tmps[21]?.getD undef = _ := (Array.getD_eq_getD_getElem? ..).symm.trans d5
      rw [if_pos (wanted_some rfl rfl rfl (by rw [hsz]; exact of_decide_eq_true rfl) d5)]
      refine grow_enters (f := 27) (args := #[.agg #[.int .i64 yt, .string yk, .string ⟨#[]⟩], .agg #[.int .i64 t, .string kk, .string vv]]) ?_ ((HL.out w2).mono fun e w3 h => ⟨_, h.1, rfl, h.2⟩)
      clear old dep ho hsz hb
      go_simp
    | 16, ho =>
      obtain rfl := Option.some.inj ho
      have d15 : a.tmps.getD 31 undef = .bool b := dep 15 _ _ (by kernel_rfl) rfl rfl
      have e15 : a.tmps[31]?.getD undef = _ := (Array.getD_eq_getD_getElem? ..).symm.trans d15
      have d5 : a.tmps.getD 21 undef = .bool true := dep 5 _ _ (by kernel_rfl) rfl rfl
      have e5 : a.tmps[21]?.getD undef = _ := (Array.getD_eq_getD_getElem? ..).symm.trans d5
      rw [if_pos (wanted_some rfl rfl rfl (by rw [hsz]; exact of_decide_eq_true rfl) d5)]
      refine grow_same (v := .bool (!b)) ?_ rfl
      clear old dep ho hsz hb
      go_simp
    | 17, ho =>
      obtain rfl := Option.some.inj ho
      have d5 : a.tmps.getD 21 undef = .bool true := dep 5 _ _ (by kernel_rfl) rfl rfl
      have e5 : a.tmps[21]?.getD undef = _ := (Array.getD_eq_getD_getElem? ..).symm.trans d5
      have d16 : a.tmps.getD 32 undef = .bool (!b) := dep 16 _ _ (by kernel_rfl) rfl rfl
      have e16 : a.tmps[32]?.getD undef = _ := (Array.getD_eq_getD_getElem? ..).symm.trans d16
      rw [if_pos (wanted_none rfl)]
      refine grow_same (v := .bool (!b)) ?_ rfl
      clear old dep ho hsz hb
      go_simp
    | 18, ho =>
      obtain rfl := Option.some.inj ho
      have d0 : a.tmps.getD 16 undef = .int .i64 (m : Int) := dep 0 _ _ (by kernel_rfl) rfl rfl
      have e0 : a.tmps[16]?.getD undef = _ := (Array.getD_eq_getD_getElem? ..).symm.trans d0
      rw [if_pos (wanted_none rfl)]
      refine grow_same (v := .int .i64 (m : Int)) ?_ rfl
      clear old dep ho hsz hb
      go_simp
    | 19, ho =>
      obtain rfl := Option.some.inj ho
      have d17 : a.tmps.getD 33 undef = .bool (!b) := dep 17 _ _ (by kernel_rfl) rfl rfl
      have e17 : a.tmps[33]?.getD undef = _ := (Array.getD_eq_getD_getElem? ..).symm.trans d17
      rw [if_pos (wanted_none rfl)]
      refine grow_same (v := .bool (!b)) ?_ rfl
      clear old dep ho hsz hb
      go_simp
    | i + 20, ho => exact absurd ho (by simp)
  · intro a w2 hb hsz hdf fin keep
    obtain ⟨tm, df⟩ := a
    have hx := frame_of [16, 17, 18, 19, 20, 21, 22, 23, 24, 25, 26, 27, 28, 29, 30, 31, 32, 33, 6, 7] (by kernel_rfl) hsz keep
    dsimp only at hdf hx
    simp only [List.foldl_cons, List.foldl_nil] at hx
    subst hdf
    clear hsz keep
    have kn : tm.getD 16 undef = .int .i64 (m : Int) := fin 0 _ _ rfl rfl
    rw [kn] at hx
    clear kn
    have kn : tm.getD 17 undef = .int .i64 (m : Int) := fin 1 _ _ rfl rfl
    rw [kn] at hx
    clear kn
    have kn : tm.getD 18 undef = .pointer (some ⟨g, 0, none⟩) := fin 2 _ _ rfl rfl
    rw [kn] at hx
    clear kn
    have kn : tm.getD 19 undef = .int .i64 (xs.length : Int) := fin 3 _ _ rfl rfl
    rw [kn] at hx
    clear kn
    have kn : tm.getD 20 undef = .bool true := fin 4 _ _ rfl rfl
    rw [kn] at hx
    clear kn
    have kn : tm.getD 21 undef = .bool true := fin 5 _ _ rfl rfl
    rw [kn] at hx
    clear kn
    have kn : tm.getD 22 undef = .agg #[.int .i64 yt, .string yk, .string ⟨#[]⟩] := fin 6 _ _ rfl rfl
    rw [kn] at hx
    clear kn
    have kn : tm.getD 23 undef = .pointer (some ⟨g, 0, none⟩) := fin 7 _ _ rfl rfl
    rw [kn] at hx
    clear kn
    have kn : tm.getD 24 undef = .pointer (some ⟨g, 0, none⟩) := fin 8 _ _ rfl rfl
    rw [kn] at hx
    clear kn
    have kn : tm.getD 25 undef = .pointer (some ⟨g, 0, none⟩) := fin 9 _ _ rfl rfl
    rw [kn] at hx
    clear kn
    have kn : tm.getD 26 undef = .slice (some ⟨k, 0, none⟩) xs.length c := fin 10 _ _ rfl rfl
    rw [kn] at hx
    clear kn
    have kn : tm.getD 27 undef = .int .i64 (m : Int) := fin 11 _ _ rfl rfl
    rw [kn] at hx
    clear kn
    have kn : tm.getD 28 undef = .pointer (some ⟨k, m * 5, none⟩) := fin 12 _ _ rfl rfl
    rw [kn] at hx
    clear kn
    have kn : tm.getD 29 undef = .pointer (some ⟨k, m * 5, none⟩) := fin 13 _ _ rfl rfl
    rw [kn] at hx
    clear kn
    have kn : tm.getD 30 undef = .agg #[.int .i64 t, .string kk, .string vv] := fin 14 _ _ rfl rfl
    rw [kn] at hx
    clear kn
    have kn : tm.getD 31 undef = .bool b := fin 15 _ _ rfl rfl
    rw [kn] at hx
    clear kn
    have kn : tm.getD 32 undef = .bool (!b) := fin 16 _ _ rfl rfl
    rw [kn] at hx
    clear kn
    have kn : tm.getD 33 undef = .bool (!b) := fin 17 _ _ rfl rfl
    rw [kn] at hx
    clear kn
    have kn : tm.getD 6 undef = .int .i64 (m : Int) := fin 18 _ _ rfl rfl
    rw [kn] at hx
    clear kn
    have kn : tm.getD 7 undef = .bool (!b) := fin 19 _ _ rfl rfl
    rw [kn] at hx
    clear kn
    clear fin
    simp only [List.setIfInBounds_toArray, List.set_cons_succ, List.set_cons_zero] at hx
    subst hx
    go_wp2
    go_ret2
    exact ⟨rfl, HBB.out.trans (hb.mono HBB.out.size)⟩
set_option maxHeartbeats 4000000 in
theorem find_out {w : World} {g : Nat} {r : Option Nat} {xs : List It} {yt : Int} {yk : ByteArray} (h : Ix w g r xs) (hp : ¬ posL (sought yt yk) xs < xs.length) :
    Calls Try.prog 20 #[.pointer (some ⟨g, 0, none⟩), .int .i64 yt, .string yk] w fun e w' => e = .returned (.tuple #[.int .i64 (posL (sought yt yk) xs : Nat), .bool (false)]) ∧ Below w.heap.size w w' := by
  have hb1 : Below w.heap.size w (w.alloc (.cells #[.int .i64 yt, .string yk, .string ⟨#[]⟩] 30)) := (Below.refl _ w).alloc (Nat.le_refl _) _
  have X1 := h.below hb1
  have B1 : Blk (w.alloc (.cells #[.int .i64 yt, .string yk, .string ⟨#[]⟩] 30)) w.heap.size 30 (sought yt yk).rowc := heap_new w _
  have hf := first_any (p := .pointer (some ⟨w.heap.size, 0, none⟩)) (K := 29) (q := fun a => !itB a (sought yt yk)) X1 ⟨fun args W => enters_of Try.func29 (by kernel_rfl) rfl args W, fun x _ W hW => ge_find x (B1.below hW)⟩ (itB_ge_mono h.srt _)
  have HF := hide hf
  have HX := hide X1
  have HB1 := hide hb1
  have HS := hide B1
  have hp2 := hide hp
  have hle := hide (posL_le (sought yt yk) xs)
  have hcn : cnt (fun a => !itB a (sought yt yk)) xs = posL (sought yt yk) xs := rfl
  rw [hcn] at HF
  clear hf X1 hb1 B1 h hp hcn
  generalize posL (sought yt yk) xs = m at *
  go_enter Try.func20, Try.ntmps20
  go_wp2_with (go_at_call 25; refine HF.out.mono ?_; rintro e w2 ⟨rfl, hb⟩; have XX := hide (HX.out.below hb); have XS := hide (HS.out.below hb); have HBB := hide (HB1.out.trans (hb.mono HB1.out.size)); clear hb)
  clear HX HS HF HB1
  generalize w2 = W at *
  have HM := hide (show ¬ (m : Int) < (xs.length : Int) by have := hp2.out; omega)
  refine region_grows [Say.is (.int .i64 (m : Int)), Say.is (.int .i64 (m : Int)), Say.is (.pointer (some ⟨g, 0, none⟩)), Say.is (.int .i64 (xs.length : Int)), Say.is (.bool false), Say.is (.bool false), Say.is (undef), Say.is (undef), Say.is (undef), Say.is (undef), Say.is (undef), Say.is (undef), Say.is (undef), Say.is (undef), Say.is (undef), Say.is (undef), Say.is (undef), Say.is (.bool false), Say.is (.int .i64 (m : Int)), Say.is (.bool false)] (by kernel_rfl) (by kernel_rfl) (by kernel_rfl) (by kernel_rfl) ?_ ?_
  · intro i o ho a w2 hb hsz old dep
    match i, ho with
    | 0, ho =>
      obtain rfl := Option.some.inj ho
      have o9 : a.tmps.getD 9 undef = _ := old 9 (by kernel_rfl)
      rw [if_pos (wanted_none rfl)]
      refine grow_same (v := .int .i64 (m : Int)) ?_ rfl
      clear old dep ho hsz hb
      go_simp
    | 1, ho =>
      obtain rfl := Option.some.inj ho
      have o9 : a.tmps.getD 9 undef = _ := old 9 (by kernel_rfl)
      rw [if_pos (wanted_none rfl)]
      refine grow_same (v := .int .i64 (m : Int)) ?_ rfl
      clear old dep ho hsz hb
      go_simp
    | 2, ho =>
      obtain rfl := Option.some.inj ho
      have o0 : a.tmps.getD 0 undef = _ := old 0 (by kernel_rfl)
      rw [if_pos (wanted_none rfl)]
      refine grow_same (v := .pointer (some ⟨g, 0, none⟩)) ?_ rfl
      clear old dep ho hsz hb
      go_simp
    | 3, ho =>
      obtain rfl := Option.some.inj ho
      have d2 : a.tmps.getD 18 undef = .pointer (some ⟨g, 0, none⟩) := dep 2 _ _ (by kernel_rfl) rfl rfl
      have e2 : a.tmps[18]?.getD undef = _ := (Array.getD_eq_getD_getElem? ..).symm.trans d2
      rw [if_pos (wanted_none rfl)]
      refine grow_enters (f := 16) (args := #[.pointer (some ⟨g, 0, none⟩)]) ?_ ((len_any (XX.out.below hb)).mono fun e w3 h => ⟨_, h.1, rfl, h.2 ▸ Below.refl _ _⟩)
      clear old dep ho hsz hb
      go_simp
    | 4, ho =>
      obtain rfl := Option.some.inj ho
      have d1 : a.tmps.getD 17 undef = .int .i64 (m : Int) := dep 1 _ _ (by kernel_rfl) rfl rfl
      have e1 : a.tmps[17]?.getD undef = _ := (Array.getD_eq_getD_getElem? ..).symm.trans d1
      have d3 : a.tmps.getD 19 undef = .int .i64 (xs.length : Int) := dep 3 _ _ (by kernel_rfl) rfl rfl
      have e3 : a.tmps[19]?.getD undef = _ := (Array.getD_eq_getD_getElem? ..).symm.trans d3
      rw [if_pos (wanted_none rfl)]
      have q1 := HM.out
      refine grow_same (v := .bool false) ?_ rfl
      clear old dep ho hsz hb
      go_simp
    | 5, ho =>
      obtain rfl := Option.some.inj ho
      have d4 : a.tmps.getD 20 undef = .bool false := dep 4 _ _ (by kernel_rfl) rfl rfl
      have e4 : a.tmps[20]?.getD undef = _ := (Array.getD_eq_getD_getElem? ..).symm.trans d4
      rw [if_pos (wanted_none rfl)]
      refine grow_same (v := .bool false) ?_ rfl
      clear old dep ho hsz hb
      go_simp
    | 6, ho =>
      obtain rfl := Option.some.inj ho
      have d5 : a.tmps.getD 21 undef = .bool false := dep 5 _ _ (by kernel_rfl) rfl rfl
      have e5 : a.tmps[21]?.getD undef = _ := (Array.getD_eq_getD_getElem? ..).symm.trans d5
      rw [if_neg (wanted_not rfl rfl rfl (by rw [hsz]; exact of_decide_eq_true rfl) d5 rfl)]
      exact rfl
    | 7, ho =>
      obtain rfl := Option.some.inj ho
      have d5 : a.tmps.getD 21 undef = .bool false := dep 5 _ _ (by kernel_rfl) rfl rfl
      have e5 : a.tmps[21]?.getD undef = _ := (Array.getD_eq_getD_getElem? ..).symm.trans d5
      rw [if_neg (wanted_not rfl rfl rfl (by rw [hsz]; exact of_decide_eq_true rfl) d5 rfl)]
      exact rfl
    | 8, ho =>
      obtain rfl := Option.some.inj ho
      have d5 : a.tmps.getD 21 undef = .bool false := dep 5 _ _ (by kernel_rfl) rfl rfl
      have e5 : a.tmps[21]?.getD undef = _ := (Array.getD_eq_getD_getElem? ..).symm.trans d5
      rw [if_neg (wanted_not rfl rfl rfl (by rw [hsz]; exact of_decide_eq_true rfl) d5 rfl)]
      exact rfl
    | 9, ho =>
      obtain rfl := Option.some.inj ho
      have d5 : a.tmps.getD 21 undef = .bool false := dep 5 _ _ (by kernel_rfl) rfl rfl
      have e5 : a.tmps[21]?.getD undef = _ := (Array.getD_eq_getD_getElem? ..).symm.trans d5
      rw [if_neg (wanted_not rfl rfl rfl (by rw [hsz]; exact of_decide_eq_true rfl) d5 rfl)]
      exact rfl
    | 10, ho =>
      obtain rfl := Option.some.inj ho
      have d5 : a.tmps.getD 21 undef = .bool false := dep 5 _ _ (by kernel_rfl) rfl rfl
      have e5 : a.tmps[21]?.getD undef = _ := (Array.getD_eq_getD_getElem? ..).symm.trans d5
      rw [if_neg (wanted_not rfl rfl rfl (by rw [hsz]; exact of_decide_eq_true rfl) d5 rfl)]
      exact rfl
    | 11, ho =>
      obtain rfl := Option.some.inj ho
      have d5 : a.tmps.getD 21 undef = .bool false := dep 5 _ _ (by kernel_rfl) rfl rfl
      have e5 : a.tmps[21]?.getD undef = _ := (Array.getD_eq_getD_getElem? ..).symm.trans d5
      rw [if_neg (wanted_not rfl rfl rfl (by rw [hsz]; exact of_decide_eq_true rfl) d5 rfl)]
      exact rfl
    | 12, ho =>
      obtain rfl := Option.some.inj ho
      have d5 : a.tmps.getD 21 undef = .bool false := dep 5 _ _ (by kernel_rfl) rfl rfl
      have e5 : a.tmps[21]?.getD undef = _ := (Array.getD_eq_getD_getElem? ..).symm.trans d5
      rw [if_neg (wanted_not rfl rfl rfl (by rw [hsz]; exact of_decide_eq_true rfl) d5 rfl)]
      exact rfl
    | 13, ho =>
      obtain rfl := Option.some.inj ho
      have d5 : a.tmps.getD 21 undef = .bool false := dep 5 _ _ (by kernel_rfl) rfl rfl
      have e5 : a.tmps[21]?.getD undef = _ := (Array.getD_eq_getD_getElem? ..).symm.trans d5
      rw [if_neg (wanted_not rfl rfl rfl (by rw [hsz]; exact of_decide_eq_true rfl) d5 rfl)]
      exact rfl
    | 14, ho =>
      obtain rfl := Option.some.inj ho
      have d5 : a.tmps.getD 21 undef = .bool false := dep 5 _ _ (by kernel_rfl) rfl rfl
      have e5 : a.tmps[21]?.getD undef = _ := (Array.getD_eq_getD_getElem? ..).symm.trans d5
      rw [if_neg (wanted_not rfl rfl rfl (by rw [hsz]; exact of_decide_eq_true rfl) d5 rfl)]
      exact rfl
    | 15, ho =>
      obtain rfl := Option.some.inj ho
      have d5 : a.tmps.getD 21 undef = .bool false := dep 5 _ _ (by kernel_rfl) rfl rfl
      have e5 : a.tmps[21]?.getD undef = _ := (Array.getD_eq_getD_getElem? ..).symm.trans d5
      rw [if_neg (wanted_not rfl rfl rfl (by rw [hsz]; exact of_decide_eq_true rfl) d5 rfl)]
      exact rfl
    | 16, ho =>
      obtain rfl := Option.some.inj ho
      have d5 : a.tmps.getD 21 undef = .bool false := dep 5 _ _ (by kernel_rfl) rfl rfl
      have e5 : a.tmps[21]?.getD undef = _ := (Array.getD_eq_getD_getElem? ..).symm.trans d5
      rw [if_neg (wanted_not rfl rfl rfl (by rw [hsz]; exact of_decide_eq_true rfl) d5 rfl)]
      exact rfl
    | 17, ho =>
      obtain rfl := Option.some.inj ho
      have d5 : a.tmps.getD 21 undef = .bool false := dep 5 _ _ (by kernel_rfl) rfl rfl
      have e5 : a.tmps[21]?.getD undef = _ := (Array.getD_eq_getD_getElem? ..).symm.trans d5
      have d16 : a.tmps.getD 32 undef = undef := dep 16 _ _ (by kernel_rfl) rfl rfl
      have e16 : a.tmps[32]?.getD undef = _ := (Array.getD_eq_getD_getElem? ..).symm.trans d16
      rw [if_pos (wanted_none rfl)]
      refine grow_same (v := .bool false) ?_ rfl
      clear old dep ho hsz hb
      go_simp
    | 18, ho =>
      obtain rfl := Option.some.inj ho
      have d0 : a.tmps.getD 16 undef = .int .i64 (m : Int) := dep 0 _ _ (by kernel_rfl) rfl rfl
      have e0 : a.tmps[16]?.getD undef = _ := (Array.getD_eq_getD_getElem? ..).symm.trans d0
      rw [if_pos (wanted_none rfl)]
      refine grow_same (v := .int .i64 (m : Int)) ?_ rfl
      clear old dep ho hsz hb
      go_simp
    | 19, ho =>
      obtain rfl := Option.some.inj ho
      have d17 : a.tmps.getD 33 undef = .bool false := dep 17 _ _ (by kernel_rfl) rfl rfl
      have e17 : a.tmps[33]?.getD undef = _ := (Array.getD_eq_getD_getElem? ..).symm.trans d17
      rw [if_pos (wanted_none rfl)]
      refine grow_same (v := .bool false) ?_ rfl
      clear old dep ho hsz hb
      go_simp
    | i + 20, ho => exact absurd ho (by simp)
  · intro a w2 hb hsz hdf fin keep
    obtain ⟨tm, df⟩ := a
    have hx := frame_of [16, 17, 18, 19, 20, 21, 22, 23, 24, 25, 26, 27, 28, 29, 30, 31, 32, 33, 6, 7] (by kernel_rfl) hsz keep
    dsimp only at hdf hx
    simp only [List.foldl_cons, List.foldl_nil] at hx
    subst hdf
    clear hsz keep
    have kn : tm.getD 16 undef = .int .i64 (m : Int) := fin 0 _ _ rfl rfl
    rw [kn] at hx
    clear kn
    have kn : tm.getD 17 undef = .int .i64 (m : Int) := fin 1 _ _ rfl rfl
    rw [kn] at hx
    clear kn
    have kn : tm.getD 18 undef = .pointer (some ⟨g, 0, none⟩) := fin 2 _ _ rfl rfl
    rw [kn] at hx
    clear kn
    have kn : tm.getD 19 undef = .int .i64 (xs.length : Int) := fin 3 _ _ rfl rfl
    rw [kn] at hx
    clear kn
    have kn : tm.getD 20 undef = .bool false := fin 4 _ _ rfl rfl
    rw [kn] at hx
    clear kn
    have kn : tm.getD 21 undef = .bool false := fin 5 _ _ rfl rfl
    rw [kn] at hx
    clear kn
    have kn : tm.getD 22 undef = undef := fin 6 _ _ rfl rfl
    rw [kn] at hx
    clear kn
    have kn : tm.getD 23 undef = undef := fin 7 _ _ rfl rfl
    rw [kn] at hx
    clear kn
    have kn : tm.getD 24 undef = undef := fin 8 _ _ rfl rfl
    rw [kn] at hx
    clear kn
    have kn : tm.getD 25 undef = undef := fin 9 _ _ rfl rfl
    rw [kn] at hx
    clear kn
    have kn : tm.getD 26 undef = undef := fin 10 _ _ rfl rfl
    rw [kn] at hx
    clear kn
    have kn : tm.getD 27 undef = undef := fin 11 _ _ rfl rfl
    rw [kn] at hx
    clear kn
    have kn : tm.getD 28 undef = undef := fin 12 _ _ rfl rfl
    rw [kn] at hx
    clear kn
    have kn : tm.getD 29 undef = undef := fin 13 _ _ rfl rfl
    rw [kn] at hx
    clear kn
    have kn : tm.getD 30 undef = undef := fin 14 _ _ rfl rfl
    rw [kn] at hx
    clear kn
    have kn : tm.getD 31 undef = undef := fin 15 _ _ rfl rfl
    rw [kn] at hx
    clear kn
    have kn : tm.getD 32 undef = undef := fin 16 _ _ rfl rfl
    rw [kn] at hx
    clear kn
    have kn : tm.getD 33 undef = .bool false := fin 17 _ _ rfl rfl
    rw [kn] at hx
    clear kn
    have kn : tm.getD 6 undef = .int .i64 (m : Int) := fin 18 _ _ rfl rfl
    rw [kn] at hx
    clear kn
    have kn : tm.getD 7 undef = .bool false := fin 19 _ _ rfl rfl
    rw [kn] at hx
    clear kn
    clear fin
    simp only [List.setIfInBounds_toArray, List.set_cons_succ, List.set_cons_zero] at hx
    subst hx
    go_wp2
    go_ret2
    exact ⟨rfl, HBB.out.trans (hb.mono HBB.out.size)⟩
/-- find. -/
theorem find_any {w : World} {g : Nat} {r : Option Nat} {xs : List It} {yt : Int} {yk : ByteArray} (h : Ix w g r xs) :
    Calls Try.prog 20 #[.pointer (some ⟨g, 0, none⟩), .int .i64 yt, .string yk] w fun e w' => e = .returned (.tuple #[.int .i64 (posL (sought yt yk) xs : Nat), .bool (hasL (sought yt yk) xs)]) ∧ Below w.heap.size w w' := by
  by_cases hp : posL (sought yt yk) xs < xs.length
  · have := find_in h (List.getElem?_eq_getElem hp)
    cases hb : itB (sought yt yk) xs[posL (sought yt yk) xs]
    · rw [hb] at this
      rw [(has_yes h.srt hp hb).1]
      exact this
    · rw [hb] at this
      rw [(has_no h.srt (fun _ => hb)).1]
      exact this
  · have := find_out h hp
    rw [(has_no h.srt (fun hp2 => absurd hp2 hp)).1]
    exact this
end Go.Proofs.Ytkcomkllnhdohaa
