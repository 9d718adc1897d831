/-
  The walk of DiskRuns: its pieces, the switch whole, and the loop over the calls.
-/
import Derived.Test.YthlclhfepnmaeaaRunsE
import Derived.Test.YthlclhfepnmaeaaRunsF
import Derived.Deep.MidRow
namespace Go.Proofs.Ythlclhfepnmaeaa
open Go.RowKit
set_option linter.unusedSimpArgs false
set_option linter.unusedVariables false

theorem sw_all {w0 w : World} {gm d bx n k : Nat} {D : Ds} {PC : Array Value} {dat : Nat → Nat → List UInt8} {wt : Nat → List CallD} {lf : Nat → Int} {vs : Nat → Value} {kd r s : Int} {A : Option Addr} {m c : Nat} {l : List UInt8} {mask : Nat} (h : SB w0 w gm d bx n k D PC dat wt lf vs kd r s A m c l mask) (hk : k ≤ 200) {K : Int} (hK0 : 0 ≤ K) (hK5 : K < 5) {tm : Array Value} (hs : tm.size = 264) (f3 : tm[3]? = some (ptr d)) (f4 : tm[4]? = some (ptr gm)) (f5 : tm[5]? = some (.int .i64 (n : Int))) (f7 : tm[7]? = some (ptr bx)) (f9 : tm[9]? = some (.int .i64 r)) (f10 : tm[10]? = some (.int .i64 s)) (f8 : tm[8]? = some (.bool (decide (0 ≤ r ∧ r < 3 ∧ 0 ≤ s ∧ s < 8)))) (f65 : tm[65]? = some (.int .i64 K)) (f89 : tm[89]? = some (.bool (decide (K = 0)))) {Q : Exit → Act → World → Prop} (hK : ∀ (tm' : Array Value) w' (n' : Nat) D PC dat wt lf vs, Keeps SW tm tm' → tm'[5]? = some (.int .i64 (n' : Int)) → St w0 w' gm d n' (k + 1) D PC dat wt lf vs → Q .normal ⟨tm', []⟩ w') :
    Code.wp Try.prog (subC (Try.f3.body.getD .skip) [1,1,1,1,1,1,0,1,0,0,1,1,0,0,1,1,1,1,0,1,0,1]) Q ⟨tm, []⟩ w := by
  have h5 : K = 0 ∨ K = 1 ∨ K = 2 ∨ K = 3 ∨ K = 4 := by omega
  rcases h5 with rfl | rfl | rfl | rfl | rfl
  · have f89' : tm[89]? = some (.bool true) := f89
    by_cases hin : 0 ≤ r ∧ r < 3 ∧ 0 ≤ s ∧ s < 8
    · rw [decide_eq_true hin] at f8
      obtain ⟨rn, rfl⟩ : ∃ q : Nat, r = (q : Int) := ⟨r.toNat, by omega⟩
      by_cases hm : m ≤ 64
      · by_cases hd : lf rn = 0
        · exact sw_write_down h hk (by omega) hin.2.2 hm hd hs f3 f4 f5 f7 f9 f10 f8 f89' hK
        · exact sw_write_ok h hk (by omega) hin.2.2 hm hd hs f3 f4 f5 f7 f9 f10 f8 f89' hK
      · exact sw_write_long h hk (by omega) hs f3 f4 f5 f7 f9 f10 f8 f89' hK
    · rw [decide_eq_false hin] at f8
      exact sw_write_none h hk hin hs f3 f4 f5 f7 f9 f10 f8 f89' hK
  · have f89' : tm[89]? = some (.bool false) := f89
    by_cases h1 : r < 0
    · exact sw_bar_low h hk h1 hs f3 f4 f5 f7 f9 f10 f65 f89' hK
    · by_cases h2 : 3 ≤ r
      · exact sw_bar_high h hk h2 hs f3 f4 f5 f7 f9 f10 f65 f89' hK
      · obtain ⟨rn, rfl⟩ : ∃ q : Nat, r = (q : Int) := ⟨r.toNat, by omega⟩
        by_cases hd : lf rn = 0
        · exact sw_bar_down h hk (by omega) hd hs f3 f4 f5 f7 f9 f10 f65 f89' hK
        · exact sw_bar_ok h hk (by omega) hd hs f3 f4 f5 f7 f9 f10 f65 f89' hK
  · exact sw_crash h hk hs f3 f4 f5 f7 f9 f10 f65 f89 hK
  · have f89' : tm[89]? = some (.bool false) := f89
    by_cases h1 : r < 0
    · exact sw_arm_low h hk h1 hs f3 f4 f5 f7 f9 f10 f65 f89' hK
    · by_cases h2 : 3 ≤ r
      · exact sw_arm_high h hk h2 hs f3 f4 f5 f7 f9 f10 f65 f89' hK
      · obtain ⟨rn, rfl⟩ : ∃ q : Nat, r = (q : Int) := ⟨r.toNat, by omega⟩
        exact sw_arm_ok h hk (by omega) hs f3 f4 f5 f7 f9 f10 f65 f89' hK
  · have f89' : tm[89]? = some (.bool false) := f89
    by_cases hin : 0 ≤ r ∧ r < 3 ∧ 0 ≤ s ∧ s < 8
    · rw [decide_eq_true hin] at f8
      obtain ⟨rn, rfl⟩ : ∃ q : Nat, r = (q : Int) := ⟨r.toNat, by omega⟩
      exact sw_read_ok h hk (by omega) hin.2.2 hs f3 f4 f5 f7 f9 f10 f65 f89' f8 hK
    · rw [decide_eq_false hin] at f8
      exact sw_read_bad h hk hin hs f3 f4 f5 f7 f9 f10 f65 f89' f8 hK
def S13 (t : Nat) : Bool := t == 8 || (decide (39 ≤ t) && decide (t ≤ 56))
set_option maxHeartbeats 4000000 in
theorem runs_13 {w : World} {bx : Nat} {kd r s : Int} {A : Option Addr} {m c mask : Nat} (hx : Blk w bx 36 #[.int .i64 kd, .int .i64 r, .int .i64 s, .slice A m c, .int .u64 (mask : Int)])
    {tm : Array Value} (hs : tm.size = 264) (f7 : tm[7]? = some (ptr bx)) {Q : Exit → Act → World → Prop}
    (hK : ∀ tm' w', Keeps S13 tm tm' → tm'[8]? = some (.bool (decide (0 ≤ r ∧ r < 3 ∧ 0 ≤ s ∧ s < 8))) → Below w.heap.size w w' → Q .normal ⟨tm', []⟩ w') :
    Code.wp Try.prog (subC (Try.f3.body.getD .skip) [1,1,1,1,1,1,0,1,0,0,1,1,0,0,1,1,0]) Q ⟨tm, []⟩ w := by
  conv => arg 2; whnf
  have k7 := slot_at f7 (by omega)
  have HC1 := hide (hx.cell 1 _ rfl)
  have HC2 := hide (hx.cell 2 _ rfl)
  have HBL := hide hx.lt
  clear f7 hx
  unfold ptr at k7
  by_cases h1 : 0 ≤ r
  · skip
    by_cases h2 : r < 3
    · skip
      by_cases h3 : 0 ≤ s
      · skip
        by_cases h4 : s < 8
        · skip
          have HQ1 := hide (show decide (0 ≤ r) = true by simp <;> omega)
          have HQ2 := hide (show decide (r < 3) = true by simp <;> omega)
          have HQ3 := hide (show decide (0 ≤ s) = true by simp <;> omega)
          have HQ4 := hide (show decide (s < 8) = true by simp <;> omega)
          refine region_grows_p 264 (by simp [hs, k7, ptr]) [Say.is (.pointer (some ⟨bx, 1, none⟩)), Say.is (.int .i64 r), Say.is (.bool true), Say.is (.bool true), Say.is (.pointer (some ⟨bx, 1, none⟩)), Say.is (.int .i64 r), Say.is (.bool true), Say.is (.bool true), Say.is (.bool true), Say.is (.pointer (some ⟨bx, 2, none⟩)), Say.is (.int .i64 s), Say.is (.bool true), Say.is (.bool true), Say.is (.bool true), Say.is (.pointer (some ⟨bx, 2, none⟩)), Say.is (.int .i64 s), Say.is (.bool true), Say.is (.bool true), Say.is (.bool true)] (by kernel_rfl) (by kernel_rfl) (by kernel_rfl) ?_ ?_
          · intro i o ho a w2 hb hsz old dep
            match i, ho with
            | 0, ho =>
              obtain rfl := Option.some.inj ho
              have o7 : a.tmps.getD 7 undef = .pointer (some ⟨bx, 0, none⟩) := (old 7 (by kernel_rfl)).trans (by simp [Array.getD_eq_getD_getElem?, hs, k7, ptr])
              have oe7 : a.tmps[7]?.getD undef = _ := (Array.getD_eq_getD_getElem? ..).symm.trans o7
              rw [if_pos (wanted_none rfl)]
              refine grow_same (v := .pointer (some ⟨bx, 1, none⟩)) ?_ rfl
              clear old dep ho hsz hb
              go_simp
            | 1, ho =>
              obtain rfl := Option.some.inj ho
              have d0 : a.tmps.getD 39 undef = .pointer (some ⟨bx, 1, none⟩) := dep 0 _ _ (by kernel_rfl) rfl rfl
              have e0 : a.tmps[39]?.getD undef = _ := (Array.getD_eq_getD_getElem? ..).symm.trans d0
              rw [if_pos (wanted_none rfl)]
              have g0 := (hb.cell (p := ⟨bx, 1, none⟩) HBL.out).trans HC1.out
              refine grow_same (v := .int .i64 r) ?_ rfl
              clear old dep ho hsz hb
              go_simp
            | 2, ho =>
              obtain rfl := Option.some.inj ho
              have d1 : a.tmps.getD 40 undef = .int .i64 r := dep 1 _ _ (by kernel_rfl) rfl rfl
              have e1 : a.tmps[40]?.getD undef = _ := (Array.getD_eq_getD_getElem? ..).symm.trans d1
              rw [if_pos (wanted_none rfl)]
              have hq := HQ1.out
              refine grow_same (v := .bool true) ?_ rfl
              clear old dep ho hsz hb
              go_simp
            | 3, ho =>
              obtain rfl := Option.some.inj ho
              have d2 : a.tmps.getD 41 undef = .bool true := dep 2 _ _ (by kernel_rfl) rfl rfl
              have e2 : a.tmps[41]?.getD undef = _ := (Array.getD_eq_getD_getElem? ..).symm.trans d2
              rw [if_pos (wanted_none rfl)]
              refine grow_same (v := .bool true) ?_ rfl
              clear old dep ho hsz hb
              go_simp
            | 4, ho =>
              obtain rfl := Option.some.inj ho
              have o7 : a.tmps.getD 7 undef = .pointer (some ⟨bx, 0, none⟩) := (old 7 (by kernel_rfl)).trans (by simp [Array.getD_eq_getD_getElem?, hs, k7, ptr])
              have oe7 : a.tmps[7]?.getD undef = _ := (Array.getD_eq_getD_getElem? ..).symm.trans o7
              have d3 : a.tmps.getD 42 undef = .bool true := dep 3 _ _ (by kernel_rfl) rfl rfl
              have e3 : a.tmps[42]?.getD undef = _ := (Array.getD_eq_getD_getElem? ..).symm.trans d3
              rw [if_pos (wanted_some rfl rfl rfl (by rw [hsz]; simp [hs, k7, ptr]) d3)]
              refine grow_same (v := .pointer (some ⟨bx, 1, none⟩)) ?_ rfl
              clear old dep ho hsz hb
              go_simp
            | 5, ho =>
              obtain rfl := Option.some.inj ho
              have d4 : a.tmps.getD 43 undef = .pointer (some ⟨bx, 1, none⟩) := dep 4 _ _ (by kernel_rfl) rfl rfl
              have e4 : a.tmps[43]?.getD undef = _ := (Array.getD_eq_getD_getElem? ..).symm.trans d4
              have d3 : a.tmps.getD 42 undef = .bool true := dep 3 _ _ (by kernel_rfl) rfl rfl
              have e3 : a.tmps[42]?.getD undef = _ := (Array.getD_eq_getD_getElem? ..).symm.trans d3
              rw [if_pos (wanted_some rfl rfl rfl (by rw [hsz]; simp [hs, k7, ptr]) d3)]
              have g0 := (hb.cell (p := ⟨bx, 1, none⟩) HBL.out).trans HC1.out
              refine grow_same (v := .int .i64 r) ?_ rfl
              clear old dep ho hsz hb
              go_simp
            | 6, ho =>
              obtain rfl := Option.some.inj ho
              have d5 : a.tmps.getD 44 undef = .int .i64 r := dep 5 _ _ (by kernel_rfl) rfl rfl
              have e5 : a.tmps[44]?.getD undef = _ := (Array.getD_eq_getD_getElem? ..).symm.trans d5
              have d3 : a.tmps.getD 42 undef = .bool true := dep 3 _ _ (by kernel_rfl) rfl rfl
              have e3 : a.tmps[42]?.getD undef = _ := (Array.getD_eq_getD_getElem? ..).symm.trans d3
              rw [if_pos (wanted_some rfl rfl rfl (by rw [hsz]; simp [hs, k7, ptr]) d3)]
              have hq := HQ2.out
              refine grow_same (v := .bool true) ?_ rfl
              clear old dep ho hsz hb
              go_simp
            | 7, ho =>
              obtain rfl := Option.some.inj ho
              have d3 : a.tmps.getD 42 undef = .bool true := dep 3 _ _ (by kernel_rfl) rfl rfl
              have e3 : a.tmps[42]?.getD undef = _ := (Array.getD_eq_getD_getElem? ..).symm.trans d3
              have d6 : a.tmps.getD 45 undef = .bool true := dep 6 _ _ (by kernel_rfl) rfl rfl
              have e6 : a.tmps[45]?.getD undef = _ := (Array.getD_eq_getD_getElem? ..).symm.trans d6
              rw [if_pos (wanted_none rfl)]
              refine grow_same (v := .bool true) ?_ rfl
              clear old dep ho hsz hb
              go_simp
            | 8, ho =>
              obtain rfl := Option.some.inj ho
              have d7 : a.tmps.getD 46 undef = .bool true := dep 7 _ _ (by kernel_rfl) rfl rfl
              have e7 : a.tmps[46]?.getD undef = _ := (Array.getD_eq_getD_getElem? ..).symm.trans d7
              rw [if_pos (wanted_none rfl)]
              refine grow_same (v := .bool true) ?_ rfl
              clear old dep ho hsz hb
              go_simp
            | 9, ho =>
              obtain rfl := Option.some.inj ho
              have o7 : a.tmps.getD 7 undef = .pointer (some ⟨bx, 0, none⟩) := (old 7 (by kernel_rfl)).trans (by simp [Array.getD_eq_getD_getElem?, hs, k7, ptr])
              have oe7 : a.tmps[7]?.getD undef = _ := (Array.getD_eq_getD_getElem? ..).symm.trans o7
              have d8 : a.tmps.getD 47 undef = .bool true := dep 8 _ _ (by kernel_rfl) rfl rfl
              have e8 : a.tmps[47]?.getD undef = _ := (Array.getD_eq_getD_getElem? ..).symm.trans d8
              rw [if_pos (wanted_some rfl rfl rfl (by rw [hsz]; simp [hs, k7, ptr]) d8)]
              refine grow_same (v := .pointer (some ⟨bx, 2, none⟩)) ?_ rfl
              clear old dep ho hsz hb
              go_simp
            | 10, ho =>
              obtain rfl := Option.some.inj ho
              have d9 : a.tmps.getD 48 undef = .pointer (some ⟨bx, 2, none⟩) := dep 9 _ _ (by kernel_rfl) rfl rfl
              have e9 : a.tmps[48]?.getD undef = _ := (Array.getD_eq_getD_getElem? ..).symm.trans d9
              have d8 : a.tmps.getD 47 undef = .bool true := dep 8 _ _ (by kernel_rfl) rfl rfl
              have e8 : a.tmps[47]?.getD undef = _ := (Array.getD_eq_getD_getElem? ..).symm.trans d8
              rw [if_pos (wanted_some rfl rfl rfl (by rw [hsz]; simp [hs, k7, ptr]) d8)]
              have g0 := (hb.cell (p := ⟨bx, 2, none⟩) HBL.out).trans HC2.out
              refine grow_same (v := .int .i64 s) ?_ rfl
              clear old dep ho hsz hb
              go_simp
            | 11, ho =>
              obtain rfl := Option.some.inj ho
              have d10 : a.tmps.getD 49 undef = .int .i64 s := dep 10 _ _ (by kernel_rfl) rfl rfl
              have e10 : a.tmps[49]?.getD undef = _ := (Array.getD_eq_getD_getElem? ..).symm.trans d10
              have d8 : a.tmps.getD 47 undef = .bool true := dep 8 _ _ (by kernel_rfl) rfl rfl
              have e8 : a.tmps[47]?.getD undef = _ := (Array.getD_eq_getD_getElem? ..).symm.trans d8
              rw [if_pos (wanted_some rfl rfl rfl (by rw [hsz]; simp [hs, k7, ptr]) d8)]
              have hq := HQ3.out
              refine grow_same (v := .bool true) ?_ rfl
              clear old dep ho hsz hb
              go_simp
            | 12, ho =>
              obtain rfl := Option.some.inj ho
              have d8 : a.tmps.getD 47 undef = .bool true := dep 8 _ _ (by kernel_rfl) rfl rfl
              have e8 : a.tmps[47]?.getD undef = _ := (Array.getD_eq_getD_getElem? ..).symm.trans d8
              have d11 : a.tmps.getD 50 undef = .bool true := dep 11 _ _ (by kernel_rfl) rfl rfl
              have e11 : a.tmps[50]?.getD undef = _ := (Array.getD_eq_getD_getElem? ..).symm.trans d11
              rw [if_pos (wanted_none rfl)]
              refine grow_same (v := .bool true) ?_ rfl
              clear old dep ho hsz hb
              go_simp
            | 13, ho =>
              obtain rfl := Option.some.inj ho
              have d12 : a.tmps.getD 51 undef = .bool true := dep 12 _ _ (by kernel_rfl) rfl rfl
              have e12 : a.tmps[51]?.getD undef = _ := (Array.getD_eq_getD_getElem? ..).symm.trans d12
              rw [if_pos (wanted_none rfl)]
              refine grow_same (v := .bool true) ?_ rfl
              clear old dep ho hsz hb
              go_simp
            | 14, ho =>
              obtain rfl := Option.some.inj ho
              have o7 : a.tmps.getD 7 undef = .pointer (some ⟨bx, 0, none⟩) := (old 7 (by kernel_rfl)).trans (by simp [Array.getD_eq_getD_getElem?, hs, k7, ptr])
              have oe7 : a.tmps[7]?.getD undef = _ := (Array.getD_eq_getD_getElem? ..).symm.trans o7
              have d13 : a.tmps.getD 52 undef = .bool true := dep 13 _ _ (by kernel_rfl) rfl rfl
              have e13 : a.tmps[52]?.getD undef = _ := (Array.getD_eq_getD_getElem? ..).symm.trans d13
              rw [if_pos (wanted_some rfl rfl rfl (by rw [hsz]; simp [hs, k7, ptr]) d13)]
              refine grow_same (v := .pointer (some ⟨bx, 2, none⟩)) ?_ rfl
              clear old dep ho hsz hb
              go_simp
            | 15, ho =>
              obtain rfl := Option.some.inj ho
              have d14 : a.tmps.getD 53 undef = .pointer (some ⟨bx, 2, none⟩) := dep 14 _ _ (by kernel_rfl) rfl rfl
              have e14 : a.tmps[53]?.getD undef = _ := (Array.getD_eq_getD_getElem? ..).symm.trans d14
              have d13 : a.tmps.getD 52 undef = .bool true := dep 13 _ _ (by kernel_rfl) rfl rfl
              have e13 : a.tmps[52]?.getD undef = _ := (Array.getD_eq_getD_getElem? ..).symm.trans d13
              rw [if_pos (wanted_some rfl rfl rfl (by rw [hsz]; simp [hs, k7, ptr]) d13)]
              have g0 := (hb.cell (p := ⟨bx, 2, none⟩) HBL.out).trans HC2.out
              refine grow_same (v := .int .i64 s) ?_ rfl
              clear old dep ho hsz hb
              go_simp
            | 16, ho =>
              obtain rfl := Option.some.inj ho
              have d15 : a.tmps.getD 54 undef = .int .i64 s := dep 15 _ _ (by kernel_rfl) rfl rfl
              have e15 : a.tmps[54]?.getD undef = _ := (Array.getD_eq_getD_getElem? ..).symm.trans d15
              have d13 : a.tmps.getD 52 undef = .bool true := dep 13 _ _ (by kernel_rfl) rfl rfl
              have e13 : a.tmps[52]?.getD undef = _ := (Array.getD_eq_getD_getElem? ..).symm.trans d13
              rw [if_pos (wanted_some rfl rfl rfl (by rw [hsz]; simp [hs, k7, ptr]) d13)]
              have hq := HQ4.out
              refine grow_same (v := .bool true) ?_ rfl
              clear old dep ho hsz hb
              go_simp
            | 17, ho =>
              obtain rfl := Option.some.inj ho
              have d13 : a.tmps.getD 52 undef = .bool true := dep 13 _ _ (by kernel_rfl) rfl rfl
              have e13 : a.tmps[52]?.getD undef = _ := (Array.getD_eq_getD_getElem? ..).symm.trans d13
              have d16 : a.tmps.getD 55 undef = .bool true := dep 16 _ _ (by kernel_rfl) rfl rfl
              have e16 : a.tmps[55]?.getD undef = _ := (Array.getD_eq_getD_getElem? ..).symm.trans d16
              rw [if_pos (wanted_none rfl)]
              refine grow_same (v := .bool true) ?_ rfl
              clear old dep ho hsz hb
              go_simp
            | 18, ho =>
              obtain rfl := Option.some.inj ho
              have d17 : a.tmps.getD 56 undef = .bool true := dep 17 _ _ (by kernel_rfl) rfl rfl
              have e17 : a.tmps[56]?.getD undef = _ := (Array.getD_eq_getD_getElem? ..).symm.trans d17
              rw [if_pos (wanted_none rfl)]
              refine grow_same (v := .bool true) ?_ rfl
              clear old dep ho hsz hb
              go_simp
            | i + 19, ho => exact absurd ho (by simp)
          · intro a w1 hb hsz hdf fin keep
            have kptm2 : Keeps S13 tm a.tmps := Keeps.region hsz keep (by kernel_rfl) (Keeps.refl _ _)
            have hstm2 : a.tmps.size = 264 := hsz.trans (by simp [hs, k7, ptr])
            have vtm2_8 : a.tmps[8]? = some (.bool true) := slot_get (fin 18 _ _ rfl rfl) (by omega)
            obtain ⟨tm2, df⟩ := a
            dsimp only at hdf hsz kptm2 hstm2 vtm2_8
            subst hdf
            clear fin keep hsz
            exact hK _ _ kptm2 (by rw [decide_eq_true (show 0 ≤ r ∧ r < 3 ∧ 0 ≤ s ∧ s < 8 by omega)]; exact vtm2_8) hb
        · skip
          have HQ1 := hide (show decide (0 ≤ r) = true by simp <;> omega)
          have HQ2 := hide (show decide (r < 3) = true by simp <;> omega)
          have HQ3 := hide (show decide (0 ≤ s) = true by simp <;> omega)
          have HQ4 := hide (show decide (s < 8) = false by simp <;> omega)
          refine region_grows_p 264 (by simp [hs, k7, ptr]) [Say.is (.pointer (some ⟨bx, 1, none⟩)), Say.is (.int .i64 r), Say.is (.bool true), Say.is (.bool true), Say.is (.pointer (some ⟨bx, 1, none⟩)), Say.is (.int .i64 r), Say.is (.bool true), Say.is (.bool true), Say.is (.bool true), Say.is (.pointer (some ⟨bx, 2, none⟩)), Say.is (.int .i64 s), Say.is (.bool true), Say.is (.bool true), Say.is (.bool true), Say.is (.pointer (some ⟨bx, 2, none⟩)), Say.is (.int .i64 s), Say.is (.bool false), Say.is (.bool false), Say.is (.bool false)] (by kernel_rfl) (by kernel_rfl) (by kernel_rfl) ?_ ?_
          · intro i o ho a w2 hb hsz old dep
            match i, ho with
            | 0, ho =>
              obtain rfl := Option.some.inj ho
              have o7 : a.tmps.getD 7 undef = .pointer (some ⟨bx, 0, none⟩) := (old 7 (by kernel_rfl)).trans (by simp [Array.getD_eq_getD_getElem?, hs, k7, ptr])
              have oe7 : a.tmps[7]?.getD undef = _ := (Array.getD_eq_getD_getElem? ..).symm.trans o7
              rw [if_pos (wanted_none rfl)]
              refine grow_same (v := .pointer (some ⟨bx, 1, none⟩)) ?_ rfl
              clear old dep ho hsz hb
              go_simp
            | 1, ho =>
              obtain rfl := Option.some.inj ho
              have d0 : a.tmps.getD 39 undef = .pointer (some ⟨bx, 1, none⟩) := dep 0 _ _ (by kernel_rfl) rfl rfl
              have e0 : a.tmps[39]?.getD undef = _ := (Array.getD_eq_getD_getElem? ..).symm.trans d0
              rw [if_pos (wanted_none rfl)]
              have g0 := (hb.cell (p := ⟨bx, 1, none⟩) HBL.out).trans HC1.out
              refine grow_same (v := .int .i64 r) ?_ rfl
              clear old dep ho hsz hb
              go_simp
            | 2, ho =>
              obtain rfl := Option.some.inj ho
              have d1 : a.tmps.getD 40 undef = .int .i64 r := dep 1 _ _ (by kernel_rfl) rfl rfl
              have e1 : a.tmps[40]?.getD undef = _ := (Array.getD_eq_getD_getElem? ..).symm.trans d1
              rw [if_pos (wanted_none rfl)]
              have hq := HQ1.out
              refine grow_same (v := .bool true) ?_ rfl
              clear old dep ho hsz hb
              go_simp
            | 3, ho =>
              obtain rfl := Option.some.inj ho
              have d2 : a.tmps.getD 41 undef = .bool true := dep 2 _ _ (by kernel_rfl) rfl rfl
              have e2 : a.tmps[41]?.getD undef = _ := (Array.getD_eq_getD_getElem? ..).symm.trans d2
              rw [if_pos (wanted_none rfl)]
              refine grow_same (v := .bool true) ?_ rfl
              clear old dep ho hsz hb
              go_simp
            | 4, ho =>
              obtain rfl := Option.some.inj ho
              have o7 : a.tmps.getD 7 undef = .pointer (some ⟨bx, 0, none⟩) := (old 7 (by kernel_rfl)).trans (by simp [Array.getD_eq_getD_getElem?, hs, k7, ptr])
              have oe7 : a.tmps[7]?.getD undef = _ := (Array.getD_eq_getD_getElem? ..).symm.trans o7
              have d3 : a.tmps.getD 42 undef = .bool true := dep 3 _ _ (by kernel_rfl) rfl rfl
              have e3 : a.tmps[42]?.getD undef = _ := (Array.getD_eq_getD_getElem? ..).symm.trans d3
              rw [if_pos (wanted_some rfl rfl rfl (by rw [hsz]; simp [hs, k7, ptr]) d3)]
              refine grow_same (v := .pointer (some ⟨bx, 1, none⟩)) ?_ rfl
              clear old dep ho hsz hb
              go_simp
            | 5, ho =>
              obtain rfl := Option.some.inj ho
              have d4 : a.tmps.getD 43 undef = .pointer (some ⟨bx, 1, none⟩) := dep 4 _ _ (by kernel_rfl) rfl rfl
              have e4 : a.tmps[43]?.getD undef = _ := (Array.getD_eq_getD_getElem? ..).symm.trans d4
              have d3 : a.tmps.getD 42 undef = .bool true := dep 3 _ _ (by kernel_rfl) rfl rfl
              have e3 : a.tmps[42]?.getD undef = _ := (Array.getD_eq_getD_getElem? ..).symm.trans d3
              rw [if_pos (wanted_some rfl rfl rfl (by rw [hsz]; simp [hs, k7, ptr]) d3)]
              have g0 := (hb.cell (p := ⟨bx, 1, none⟩) HBL.out).trans HC1.out
              refine grow_same (v := .int .i64 r) ?_ rfl
              clear old dep ho hsz hb
              go_simp
            | 6, ho =>
              obtain rfl := Option.some.inj ho
              have d5 : a.tmps.getD 44 undef = .int .i64 r := dep 5 _ _ (by kernel_rfl) rfl rfl
              have e5 : a.tmps[44]?.getD undef = _ := (Array.getD_eq_getD_getElem? ..).symm.trans d5
              have d3 : a.tmps.getD 42 undef = .bool true := dep 3 _ _ (by kernel_rfl) rfl rfl
              have e3 : a.tmps[42]?.getD undef = _ := (Array.getD_eq_getD_getElem? ..).symm.trans d3
              rw [if_pos (wanted_some rfl rfl rfl (by rw [hsz]; simp [hs, k7, ptr]) d3)]
              have hq := HQ2.out
              refine grow_same (v := .bool true) ?_ rfl
              clear old dep ho hsz hb
              go_simp
            | 7, ho =>
              obtain rfl := Option.some.inj ho
              have d3 : a.tmps.getD 42 undef = .bool true := dep 3 _ _ (by kernel_rfl) rfl rfl
              have e3 : a.tmps[42]?.getD undef = _ := (Array.getD_eq_getD_getElem? ..).symm.trans d3
              have d6 : a.tmps.getD 45 undef = .bool true := dep 6 _ _ (by kernel_rfl) rfl rfl
              have e6 : a.tmps[45]?.getD undef = _ := (Array.getD_eq_getD_getElem? ..).symm.trans d6
              rw [if_pos (wanted_none rfl)]
              refine grow_same (v := .bool true) ?_ rfl
              clear old dep ho hsz hb
              go_simp
            | 8, ho =>
              obtain rfl := Option.some.inj ho
              have d7 : a.tmps.getD 46 undef = .bool true := dep 7 _ _ (by kernel_rfl) rfl rfl
              have e7 : a.tmps[46]?.getD undef = _ := (Array.getD_eq_getD_getElem? ..).symm.trans d7
              rw [if_pos (wanted_none rfl)]
              refine grow_same (v := .bool true) ?_ rfl
              clear old dep ho hsz hb
              go_simp
            | 9, ho =>
              obtain rfl := Option.some.inj ho
              have o7 : a.tmps.getD 7 undef = .pointer (some ⟨bx, 0, none⟩) := (old 7 (by kernel_rfl)).trans (by simp [Array.getD_eq_getD_getElem?, hs, k7, ptr])
              have oe7 : a.tmps[7]?.getD undef = _ := (Array.getD_eq_getD_getElem? ..).symm.trans o7
              have d8 : a.tmps.getD 47 undef = .bool true := dep 8 _ _ (by kernel_rfl) rfl rfl
              have e8 : a.tmps[47]?.getD undef = _ := (Array.getD_eq_getD_getElem? ..).symm.trans d8
              rw [if_pos (wanted_some rfl rfl rfl (by rw [hsz]; simp [hs, k7, ptr]) d8)]
              refine grow_same (v := .pointer (some ⟨bx, 2, none⟩)) ?_ rfl
              clear old dep ho hsz hb
              go_simp
            | 10, ho =>
              obtain rfl := Option.some.inj ho
              have d9 : a.tmps.getD 48 undef = .pointer (some ⟨bx, 2, none⟩) := dep 9 _ _ (by kernel_rfl) rfl rfl
              have e9 : a.tmps[48]?.getD undef = _ := (Array.getD_eq_getD_getElem? ..).symm.trans d9
              have d8 : a.tmps.getD 47 undef = .bool true := dep 8 _ _ (by kernel_rfl) rfl rfl
              have e8 : a.tmps[47]?.getD undef = _ := (Array.getD_eq_getD_getElem? ..).symm.trans d8
              rw [if_pos (wanted_some rfl rfl rfl (by rw [hsz]; simp [hs, k7, ptr]) d8)]
              have g0 := (hb.cell (p := ⟨bx, 2, none⟩) HBL.out).trans HC2.out
              refine grow_same (v := .int .i64 s) ?_ rfl
              clear old dep ho hsz hb
              go_simp
            | 11, ho =>
              obtain rfl := Option.some.inj ho
              have d10 : a.tmps.getD 49 undef = .int .i64 s := dep 10 _ _ (by kernel_rfl) rfl rfl
              have e10 : a.tmps[49]?.getD undef = _ := (Array.getD_eq_getD_getElem? ..).symm.trans d10
              have d8 : a.tmps.getD 47 undef = .bool true := dep 8 _ _ (by kernel_rfl) rfl rfl
              have e8 : a.tmps[47]?.getD undef = _ := (Array.getD_eq_getD_getElem? ..).symm.trans d8
              rw [if_pos (wanted_some rfl rfl rfl (by rw [hsz]; simp [hs, k7, ptr]) d8)]
              have hq := HQ3.out
              refine grow_same (v := .bool true) ?_ rfl
              clear old dep ho hsz hb
              go_simp
            | 12, ho =>
              obtain rfl := Option.some.inj ho
              have d8 : a.tmps.getD 47 undef = .bool true := dep 8 _ _ (by kernel_rfl) rfl rfl
              have e8 : a.tmps[47]?.getD undef = _ := (Array.getD_eq_getD_getElem? ..).symm.trans d8
              have d11 : a.tmps.getD 50 undef = .bool true := dep 11 _ _ (by kernel_rfl) rfl rfl
              have e11 : a.tmps[50]?.getD undef = _ := (Array.getD_eq_getD_getElem? ..).symm.trans d11
              rw [if_pos (wanted_none rfl)]
              refine grow_same (v := .bool true) ?_ rfl
              clear old dep ho hsz hb
              go_simp
            | 13, ho =>
              obtain rfl := Option.some.inj ho
              have d12 : a.tmps.getD 51 undef = .bool true := dep 12 _ _ (by kernel_rfl) rfl rfl
              have e12 : a.tmps[51]?.getD undef = _ := (Array.getD_eq_getD_getElem? ..).symm.trans d12
              rw [if_pos (wanted_none rfl)]
              refine grow_same (v := .bool true) ?_ rfl
              clear old dep ho hsz hb
              go_simp
            | 14, ho =>
              obtain rfl := Option.some.inj ho
              have o7 : a.tmps.getD 7 undef = .pointer (some ⟨bx, 0, none⟩) := (old 7 (by kernel_rfl)).trans (by simp [Array.getD_eq_getD_getElem?, hs, k7, ptr])
              have oe7 : a.tmps[7]?.getD undef = _ := (Array.getD_eq_getD_getElem? ..).symm.trans o7
              have d13 : a.tmps.getD 52 undef = .bool true := dep 13 _ _ (by kernel_rfl) rfl rfl
              have e13 : a.tmps[52]?.getD undef = _ := (Array.getD_eq_getD_getElem? ..).symm.trans d13
              rw [if_pos (wanted_some rfl rfl rfl (by rw [hsz]; simp [hs, k7, ptr]) d13)]
              refine grow_same (v := .pointer (some ⟨bx, 2, none⟩)) ?_ rfl
              clear old dep ho hsz hb
              go_simp
            | 15, ho =>
              obtain rfl := Option.some.inj ho
              have d14 : a.tmps.getD 53 undef = .pointer (some ⟨bx, 2, none⟩) := dep 14 _ _ (by kernel_rfl) rfl rfl
              have e14 : a.tmps[53]?.getD undef = _ := (Array.getD_eq_getD_getElem? ..).symm.trans d14
              have d13 : a.tmps.getD 52 undef = .bool true := dep 13 _ _ (by kernel_rfl) rfl rfl
              have e13 : a.tmps[52]?.getD undef = _ := (Array.getD_eq_getD_getElem? ..).symm.trans d13
              rw [if_pos (wanted_some rfl rfl rfl (by rw [hsz]; simp [hs, k7, ptr]) d13)]
              have g0 := (hb.cell (p := ⟨bx, 2, none⟩) HBL.out).trans HC2.out
              refine grow_same (v := .int .i64 s) ?_ rfl
              clear old dep ho hsz hb
              go_simp
            | 16, ho =>
              obtain rfl := Option.some.inj ho
              have d15 : a.tmps.getD 54 undef = .int .i64 s := dep 15 _ _ (by kernel_rfl) rfl rfl
              have e15 : a.tmps[54]?.getD undef = _ := (Array.getD_eq_getD_getElem? ..).symm.trans d15
              have d13 : a.tmps.getD 52 undef = .bool true := dep 13 _ _ (by kernel_rfl) rfl rfl
              have e13 : a.tmps[52]?.getD undef = _ := (Array.getD_eq_getD_getElem? ..).symm.trans d13
              rw [if_pos (wanted_some rfl rfl rfl (by rw [hsz]; simp [hs, k7, ptr]) d13)]
              have hq := HQ4.out
              refine grow_same (v := .bool false) ?_ rfl
              clear old dep ho hsz hb
              go_simp
            | 17, ho =>
              obtain rfl := Option.some.inj ho
              have d13 : a.tmps.getD 52 undef = .bool true := dep 13 _ _ (by kernel_rfl) rfl rfl
              have e13 : a.tmps[52]?.getD undef = _ := (Array.getD_eq_getD_getElem? ..).symm.trans d13
              have d16 : a.tmps.getD 55 undef = .bool false := dep 16 _ _ (by kernel_rfl) rfl rfl
              have e16 : a.tmps[55]?.getD undef = _ := (Array.getD_eq_getD_getElem? ..).symm.trans d16
              rw [if_pos (wanted_none rfl)]
              refine grow_same (v := .bool false) ?_ rfl
              clear old dep ho hsz hb
              go_simp
            | 18, ho =>
              obtain rfl := Option.some.inj ho
              have d17 : a.tmps.getD 56 undef = .bool false := dep 17 _ _ (by kernel_rfl) rfl rfl
              have e17 : a.tmps[56]?.getD undef = _ := (Array.getD_eq_getD_getElem? ..).symm.trans d17
              rw [if_pos (wanted_none rfl)]
              refine grow_same (v := .bool false) ?_ rfl
              clear old dep ho hsz hb
              go_simp
            | i + 19, ho => exact absurd ho (by simp)
          · intro a w1 hb hsz hdf fin keep
            have kptm2 : Keeps S13 tm a.tmps := Keeps.region hsz keep (by kernel_rfl) (Keeps.refl _ _)
            have hstm2 : a.tmps.size = 264 := hsz.trans (by simp [hs, k7, ptr])
            have vtm2_8 : a.tmps[8]? = some (.bool false) := slot_get (fin 18 _ _ rfl rfl) (by omega)
            obtain ⟨tm2, df⟩ := a
            dsimp only at hdf hsz kptm2 hstm2 vtm2_8
            subst hdf
            clear fin keep hsz
            exact hK _ _ kptm2 (by rw [decide_eq_false (show ¬ (0 ≤ r ∧ r < 3 ∧ 0 ≤ s ∧ s < 8) by omega)]; exact vtm2_8) hb
      · skip
        have HQ1 := hide (show decide (0 ≤ r) = true by simp <;> omega)
        have HQ2 := hide (show decide (r < 3) = true by simp <;> omega)
        have HQ3 := hide (show decide (0 ≤ s) = false by simp <;> omega)
        refine region_grows_p 264 (by simp [hs, k7, ptr]) [Say.is (.pointer (some ⟨bx, 1, none⟩)), Say.is (.int .i64 r), Say.is (.bool true), Say.is (.bool true), Say.is (.pointer (some ⟨bx, 1, none⟩)), Say.is (.int .i64 r), Say.is (.bool true), Say.is (.bool true), Say.is (.bool true), Say.is (.pointer (some ⟨bx, 2, none⟩)), Say.is (.int .i64 s), Say.is (.bool false), Say.is (.bool false), Say.is (.bool false), Say.is (undef), Say.is (undef), Say.is (undef), Say.is (.bool false), Say.is (.bool false)] (by kernel_rfl) (by kernel_rfl) (by kernel_rfl) ?_ ?_
        · intro i o ho a w2 hb hsz old dep
          match i, ho with
          | 0, ho =>
            obtain rfl := Option.some.inj ho
            have o7 : a.tmps.getD 7 undef = .pointer (some ⟨bx, 0, none⟩) := (old 7 (by kernel_rfl)).trans (by simp [Array.getD_eq_getD_getElem?, hs, k7, ptr])
            have oe7 : a.tmps[7]?.getD undef = _ := (Array.getD_eq_getD_getElem? ..).symm.trans o7
            rw [if_pos (wanted_none rfl)]
            refine grow_same (v := .pointer (some ⟨bx, 1, none⟩)) ?_ rfl
            clear old dep ho hsz hb
            go_simp
          | 1, ho =>
            obtain rfl := Option.some.inj ho
            have d0 : a.tmps.getD 39 undef = .pointer (some ⟨bx, 1, none⟩) := dep 0 _ _ (by kernel_rfl) rfl rfl
            have e0 : a.tmps[39]?.getD undef = _ := (Array.getD_eq_getD_getElem? ..).symm.trans d0
            rw [if_pos (wanted_none rfl)]
            have g0 := (hb.cell (p := ⟨bx, 1, none⟩) HBL.out).trans HC1.out
            refine grow_same (v := .int .i64 r) ?_ rfl
            clear old dep ho hsz hb
            go_simp
          | 2, ho =>
            obtain rfl := Option.some.inj ho
            have d1 : a.tmps.getD 40 undef = .int .i64 r := dep 1 _ _ (by kernel_rfl) rfl rfl
            have e1 : a.tmps[40]?.getD undef = _ := (Array.getD_eq_getD_getElem? ..).symm.trans d1
            rw [if_pos (wanted_none rfl)]
            have hq := HQ1.out
            refine grow_same (v := .bool true) ?_ rfl
            clear old dep ho hsz hb
            go_simp
          | 3, ho =>
            obtain rfl := Option.some.inj ho
            have d2 : a.tmps.getD 41 undef = .bool true := dep 2 _ _ (by kernel_rfl) rfl rfl
            have e2 : a.tmps[41]?.getD undef = _ := (Array.getD_eq_getD_getElem? ..).symm.trans d2
            rw [if_pos (wanted_none rfl)]
            refine grow_same (v := .bool true) ?_ rfl
            clear old dep ho hsz hb
            go_simp
          | 4, ho =>
            obtain rfl := Option.some.inj ho
            have o7 : a.tmps.getD 7 undef = .pointer (some ⟨bx, 0, none⟩) := (old 7 (by kernel_rfl)).trans (by simp [Array.getD_eq_getD_getElem?, hs, k7, ptr])
            have oe7 : a.tmps[7]?.getD undef = _ := (Array.getD_eq_getD_getElem? ..).symm.trans o7
            have d3 : a.tmps.getD 42 undef = .bool true := dep 3 _ _ (by kernel_rfl) rfl rfl
            have e3 : a.tmps[42]?.getD undef = _ := (Array.getD_eq_getD_getElem? ..).symm.trans d3
            rw [if_pos (wanted_some rfl rfl rfl (by rw [hsz]; simp [hs, k7, ptr]) d3)]
            refine grow_same (v := .pointer (some ⟨bx, 1, none⟩)) ?_ rfl
            clear old dep ho hsz hb
            go_simp
          | 5, ho =>
            obtain rfl := Option.some.inj ho
            have d4 : a.tmps.getD 43 undef = .pointer (some ⟨bx, 1, none⟩) := dep 4 _ _ (by kernel_rfl) rfl rfl
            have e4 : a.tmps[43]?.getD undef = _ := (Array.getD_eq_getD_getElem? ..).symm.trans d4
            have d3 : a.tmps.getD 42 undef = .bool true := dep 3 _ _ (by kernel_rfl) rfl rfl
            have e3 : a.tmps[42]?.getD undef = _ := (Array.getD_eq_getD_getElem? ..).symm.trans d3
            rw [if_pos (wanted_some rfl rfl rfl (by rw [hsz]; simp [hs, k7, ptr]) d3)]
            have g0 := (hb.cell (p := ⟨bx, 1, none⟩) HBL.out).trans HC1.out
            refine grow_same (v := .int .i64 r) ?_ rfl
            clear old dep ho hsz hb
            go_simp
          | 6, ho =>
            obtain rfl := Option.some.inj ho
            have d5 : a.tmps.getD 44 undef = .int .i64 r := dep 5 _ _ (by kernel_rfl) rfl rfl
            have e5 : a.tmps[44]?.getD undef = _ := (Array.getD_eq_getD_getElem? ..).symm.trans d5
            have d3 : a.tmps.getD 42 undef = .bool true := dep 3 _ _ (by kernel_rfl) rfl rfl
            have e3 : a.tmps[42]?.getD undef = _ := (Array.getD_eq_getD_getElem? ..).symm.trans d3
            rw [if_pos (wanted_some rfl rfl rfl (by rw [hsz]; simp [hs, k7, ptr]) d3)]
            have hq := HQ2.out
            refine grow_same (v := .bool true) ?_ rfl
            clear old dep ho hsz hb
            go_simp
          | 7, ho =>
            obtain rfl := Option.some.inj ho
            have d3 : a.tmps.getD 42 undef = .bool true := dep 3 _ _ (by kernel_rfl) rfl rfl
            have e3 : a.tmps[42]?.getD undef = _ := (Array.getD_eq_getD_getElem? ..).symm.trans d3
            have d6 : a.tmps.getD 45 undef = .bool true := dep 6 _ _ (by kernel_rfl) rfl rfl
            have e6 : a.tmps[45]?.getD undef = _ := (Array.getD_eq_getD_getElem? ..).symm.trans d6
            rw [if_pos (wanted_none rfl)]
            refine grow_same (v := .bool true) ?_ rfl
            clear old dep ho hsz hb
            go_simp
          | 8, ho =>
            obtain rfl := Option.some.inj ho
            have d7 : a.tmps.getD 46 undef = .bool true := dep 7 _ _ (by kernel_rfl) rfl rfl
            have e7 : a.tmps[46]?.getD undef = _ := (Array.getD_eq_getD_getElem? ..).symm.trans d7
            rw [if_pos (wanted_none rfl)]
            refine grow_same (v := .bool true) ?_ rfl
            clear old dep ho hsz hb
            go_simp
          | 9, ho =>
            obtain rfl := Option.some.inj ho
            have o7 : a.tmps.getD 7 undef = .pointer (some ⟨bx, 0, none⟩) := (old 7 (by kernel_rfl)).trans (by simp [Array.getD_eq_getD_getElem?, hs, k7, ptr])
            have oe7 : a.tmps[7]?.getD undef = _ := (Array.getD_eq_getD_getElem? ..).symm.trans o7
            have d8 : a.tmps.getD 47 undef = .bool true := dep 8 _ _ (by kernel_rfl) rfl rfl
            have e8 : a.tmps[47]?.getD undef = _ := (Array.getD_eq_getD_getElem? ..).symm.trans d8
            rw [if_pos (wanted_some rfl rfl rfl (by rw [hsz]; simp [hs, k7, ptr]) d8)]
            refine grow_same (v := .pointer (some ⟨bx, 2, none⟩)) ?_ rfl
            clear old dep ho hsz hb
            go_simp
          | 10, ho =>
            obtain rfl := Option.some.inj ho
            have d9 : a.tmps.getD 48 undef = .pointer (some ⟨bx, 2, none⟩) := dep 9 _ _ (by kernel_rfl) rfl rfl
            have e9 : a.tmps[48]?.getD undef = _ := (Array.getD_eq_getD_getElem? ..).symm.trans d9
            have d8 : a.tmps.getD 47 undef = .bool true := dep 8 _ _ (by kernel_rfl) rfl rfl
            have e8 : a.tmps[47]?.getD undef = _ := (Array.getD_eq_getD_getElem? ..).symm.trans d8
            rw [if_pos (wanted_some rfl rfl rfl (by rw [hsz]; simp [hs, k7, ptr]) d8)]
            have g0 := (hb.cell (p := ⟨bx, 2, none⟩) HBL.out).trans HC2.out
            refine grow_same (v := .int .i64 s) ?_ rfl
            clear old dep ho hsz hb
            go_simp
          | 11, ho =>
            obtain rfl := Option.some.inj ho
            have d10 : a.tmps.getD 49 undef = .int .i64 s := dep 10 _ _ (by kernel_rfl) rfl rfl
            have e10 : a.tmps[49]?.getD undef = _ := (Array.getD_eq_getD_getElem? ..).symm.trans d10
            have d8 : a.tmps.getD 47 undef = .bool true := dep 8 _ _ (by kernel_rfl) rfl rfl
            have e8 : a.tmps[47]?.getD undef = _ := (Array.getD_eq_getD_getElem? ..).symm.trans d8
            rw [if_pos (wanted_some rfl rfl rfl (by rw [hsz]; simp [hs, k7, ptr]) d8)]
            have hq := HQ3.out
            refine grow_same (v := .bool false) ?_ rfl
            clear old dep ho hsz hb
            go_simp
          | 12, ho =>
            obtain rfl := Option.some.inj ho
            have d8 : a.tmps.getD 47 undef = .bool true := dep 8 _ _ (by kernel_rfl) rfl rfl
            have e8 : a.tmps[47]?.getD undef = _ := (Array.getD_eq_getD_getElem? ..).symm.trans d8
            have d11 : a.tmps.getD 50 undef = .bool false := dep 11 _ _ (by kernel_rfl) rfl rfl
            have e11 : a.tmps[50]?.getD undef = _ := (Array.getD_eq_getD_getElem? ..).symm.trans d11
            rw [if_pos (wanted_none rfl)]
            refine grow_same (v := .bool false) ?_ rfl
            clear old dep ho hsz hb
            go_simp
          | 13, ho =>
            obtain rfl := Option.some.inj ho
            have d12 : a.tmps.getD 51 undef = .bool false := dep 12 _ _ (by kernel_rfl) rfl rfl
            have e12 : a.tmps[51]?.getD undef = _ := (Array.getD_eq_getD_getElem? ..).symm.trans d12
            rw [if_pos (wanted_none rfl)]
            refine grow_same (v := .bool false) ?_ rfl
            clear old dep ho hsz hb
            go_simp
          | 14, ho =>
            obtain rfl := Option.some.inj ho
            have d13 : a.tmps.getD 52 undef = .bool false := dep 13 _ _ (by kernel_rfl) rfl rfl
            have e13 : a.tmps[52]?.getD undef = _ := (Array.getD_eq_getD_getElem? ..).symm.trans d13
            rw [if_neg (wanted_not rfl rfl rfl (by rw [hsz]; simp [hs, k7, ptr]) d13 rfl)]
            exact rfl
          | 15, ho =>
            obtain rfl := Option.some.inj ho
            have d13 : a.tmps.getD 52 undef = .bool false := dep 13 _ _ (by kernel_rfl) rfl rfl
            have e13 : a.tmps[52]?.getD undef = _ := (Array.getD_eq_getD_getElem? ..).symm.trans d13
            rw [if_neg (wanted_not rfl rfl rfl (by rw [hsz]; simp [hs, k7, ptr]) d13 rfl)]
            exact rfl
          | 16, ho =>
            obtain rfl := Option.some.inj ho
            have d13 : a.tmps.getD 52 undef = .bool false := dep 13 _ _ (by kernel_rfl) rfl rfl
            have e13 : a.tmps[52]?.getD undef = _ := (Array.getD_eq_getD_getElem? ..).symm.trans d13
            rw [if_neg (wanted_not rfl rfl rfl (by rw [hsz]; simp [hs, k7, ptr]) d13 rfl)]
            exact rfl
          | 17, ho =>
            obtain rfl := Option.some.inj ho
            have d13 : a.tmps.getD 52 undef = .bool false := dep 13 _ _ (by kernel_rfl) rfl rfl
            have e13 : a.tmps[52]?.getD undef = _ := (Array.getD_eq_getD_getElem? ..).symm.trans d13
            have d16 : a.tmps.getD 55 undef = undef := dep 16 _ _ (by kernel_rfl) rfl rfl
            have e16 : a.tmps[55]?.getD undef = _ := (Array.getD_eq_getD_getElem? ..).symm.trans d16
            rw [if_pos (wanted_none rfl)]
            refine grow_same (v := .bool false) ?_ rfl
            clear old dep ho hsz hb
            go_simp
          | 18, ho =>
            obtain rfl := Option.some.inj ho
            have d17 : a.tmps.getD 56 undef = .bool false := dep 17 _ _ (by kernel_rfl) rfl rfl
            have e17 : a.tmps[56]?.getD undef = _ := (Array.getD_eq_getD_getElem? ..).symm.trans d17
            rw [if_pos (wanted_none rfl)]
            refine grow_same (v := .bool false) ?_ rfl
            clear old dep ho hsz hb
            go_simp
          | i + 19, ho => exact absurd ho (by simp)
        · intro a w1 hb hsz hdf fin keep
          have kptm2 : Keeps S13 tm a.tmps := Keeps.region hsz keep (by kernel_rfl) (Keeps.refl _ _)
          have hstm2 : a.tmps.size = 264 := hsz.trans (by simp [hs, k7, ptr])
          have vtm2_8 : a.tmps[8]? = some (.bool false) := slot_get (fin 18 _ _ rfl rfl) (by omega)
          obtain ⟨tm2, df⟩ := a
          dsimp only at hdf hsz kptm2 hstm2 vtm2_8
          subst hdf
          clear fin keep hsz
          exact hK _ _ kptm2 (by rw [decide_eq_false (show ¬ (0 ≤ r ∧ r < 3 ∧ 0 ≤ s ∧ s < 8) by omega)]; exact vtm2_8) hb
    · skip
      have HQ1 := hide (show decide (0 ≤ r) = true by simp <;> omega)
      have HQ2 := hide (show decide (r < 3) = false by simp <;> omega)
      refine region_grows_p 264 (by simp [hs, k7, ptr]) [Say.is (.pointer (some ⟨bx, 1, none⟩)), Say.is (.int .i64 r), Say.is (.bool true), Say.is (.bool true), Say.is (.pointer (some ⟨bx, 1, none⟩)), Say.is (.int .i64 r), Say.is (.bool false), Say.is (.bool false), Say.is (.bool false), Say.is (undef), Say.is (undef), Say.is (undef), Say.is (.bool false), Say.is (.bool false), Say.is (undef), Say.is (undef), Say.is (undef), Say.is (.bool false), Say.is (.bool false)] (by kernel_rfl) (by kernel_rfl) (by kernel_rfl) ?_ ?_
      · intro i o ho a w2 hb hsz old dep
        match i, ho with
        | 0, ho =>
          obtain rfl := Option.some.inj ho
          have o7 : a.tmps.getD 7 undef = .pointer (some ⟨bx, 0, none⟩) := (old 7 (by kernel_rfl)).trans (by simp [Array.getD_eq_getD_getElem?, hs, k7, ptr])
          have oe7 : a.tmps[7]?.getD undef = _ := (Array.getD_eq_getD_getElem? ..).symm.trans o7
          rw [if_pos (wanted_none rfl)]
          refine grow_same (v := .pointer (some ⟨bx, 1, none⟩)) ?_ rfl
          clear old dep ho hsz hb
          go_simp
        | 1, ho =>
          obtain rfl := Option.some.inj ho
          have d0 : a.tmps.getD 39 undef = .pointer (some ⟨bx, 1, none⟩) := dep 0 _ _ (by kernel_rfl) rfl rfl
          have e0 : a.tmps[39]?.getD undef = _ := (Array.getD_eq_getD_getElem? ..).symm.trans d0
          rw [if_pos (wanted_none rfl)]
          have g0 := (hb.cell (p := ⟨bx, 1, none⟩) HBL.out).trans HC1.out
          refine grow_same (v := .int .i64 r) ?_ rfl
          clear old dep ho hsz hb
          go_simp
        | 2, ho =>
          obtain rfl := Option.some.inj ho
          have d1 : a.tmps.getD 40 undef = .int .i64 r := dep 1 _ _ (by kernel_rfl) rfl rfl
          have e1 : a.tmps[40]?.getD undef = _ := (Array.getD_eq_getD_getElem? ..).symm.trans d1
          rw [if_pos (wanted_none rfl)]
          have hq := HQ1.out
          refine grow_same (v := .bool true) ?_ rfl
          clear old dep ho hsz hb
          go_simp
        | 3, ho =>
          obtain rfl := Option.some.inj ho
          have d2 : a.tmps.getD 41 undef = .bool true := dep 2 _ _ (by kernel_rfl) rfl rfl
          have e2 : a.tmps[41]?.getD undef = _ := (Array.getD_eq_getD_getElem? ..).symm.trans d2
          rw [if_pos (wanted_none rfl)]
          refine grow_same (v := .bool true) ?_ rfl
          clear old dep ho hsz hb
          go_simp
        | 4, ho =>
          obtain rfl := Option.some.inj ho
          have o7 : a.tmps.getD 7 undef = .pointer (some ⟨bx, 0, none⟩) := (old 7 (by kernel_rfl)).trans (by simp [Array.getD_eq_getD_getElem?, hs, k7, ptr])
          have oe7 : a.tmps[7]?.getD undef = _ := (Array.getD_eq_getD_getElem? ..).symm.trans o7
          have d3 : a.tmps.getD 42 undef = .bool true := dep 3 _ _ (by kernel_rfl) rfl rfl
          have e3 : a.tmps[42]?.getD undef = _ := (Array.getD_eq_getD_getElem? ..).symm.trans d3
          rw [if_pos (wanted_some rfl rfl rfl (by rw [hsz]; simp [hs, k7, ptr]) d3)]
          refine grow_same (v := .pointer (some ⟨bx, 1, none⟩)) ?_ rfl
          clear old dep ho hsz hb
          go_simp
        | 5, ho =>
          obtain rfl := Option.some.inj ho
          have d4 : a.tmps.getD 43 undef = .pointer (some ⟨bx, 1, none⟩) := dep 4 _ _ (by kernel_rfl) rfl rfl
          have e4 : a.tmps[43]?.getD undef = _ := (Array.getD_eq_getD_getElem? ..).symm.trans d4
          have d3 : a.tmps.getD 42 undef = .bool true := dep 3 _ _ (by kernel_rfl) rfl rfl
          have e3 : a.tmps[42]?.getD undef = _ := (Array.getD_eq_getD_getElem? ..).symm.trans d3
          rw [if_pos (wanted_some rfl rfl rfl (by rw [hsz]; simp [hs, k7, ptr]) d3)]
          have g0 := (hb.cell (p := ⟨bx, 1, none⟩) HBL.out).trans HC1.out
          refine grow_same (v := .int .i64 r) ?_ rfl
          clear old dep ho hsz hb
          go_simp
        | 6, ho =>
          obtain rfl := Option.some.inj ho
          have d5 : a.tmps.getD 44 undef = .int .i64 r := dep 5 _ _ (by kernel_rfl) rfl rfl
          have e5 : a.tmps[44]?.getD undef = _ := (Array.getD_eq_getD_getElem? ..).symm.trans d5
          have d3 : a.tmps.getD 42 undef = .bool true := dep 3 _ _ (by kernel_rfl) rfl rfl
          have e3 : a.tmps[42]?.getD undef = _ := (Array.getD_eq_getD_getElem? ..).symm.trans d3
          rw [if_pos (wanted_some rfl rfl rfl (by rw [hsz]; simp [hs, k7, ptr]) d3)]
          have hq := HQ2.out
          refine grow_same (v := .bool false) ?_ rfl
          clear old dep ho hsz hb
          go_simp
        | 7, ho =>
          obtain rfl := Option.some.inj ho
          have d3 : a.tmps.getD 42 undef = .bool true := dep 3 _ _ (by kernel_rfl) rfl rfl
          have e3 : a.tmps[42]?.getD undef = _ := (Array.getD_eq_getD_getElem? ..).symm.trans d3
          have d6 : a.tmps.getD 45 undef = .bool false := dep 6 _ _ (by kernel_rfl) rfl rfl
          have e6 : a.tmps[45]?.getD undef = _ := (Array.getD_eq_getD_getElem? ..).symm.trans d6
          rw [if_pos (wanted_none rfl)]
          refine grow_same (v := .bool false) ?_ rfl
          clear old dep ho hsz hb
          go_simp
        | 8, ho =>
          obtain rfl := Option.some.inj ho
          have d7 : a.tmps.getD 46 undef = .bool false := dep 7 _ _ (by kernel_rfl) rfl rfl
          have e7 : a.tmps[46]?.getD undef = _ := (Array.getD_eq_getD_getElem? ..).symm.trans d7
          rw [if_pos (wanted_none rfl)]
          refine grow_same (v := .bool false) ?_ rfl
          clear old dep ho hsz hb
          go_simp
        | 9, ho =>
          obtain rfl := Option.some.inj ho
          have d8 : a.tmps.getD 47 undef = .bool false := dep 8 _ _ (by kernel_rfl) rfl rfl
          have e8 : a.tmps[47]?.getD undef = _ := (Array.getD_eq_getD_getElem? ..).symm.trans d8
          rw [if_neg (wanted_not rfl rfl rfl (by rw [hsz]; simp [hs, k7, ptr]) d8 rfl)]
          exact rfl
        | 10, ho =>
          obtain rfl := Option.some.inj ho
          have d8 : a.tmps.getD 47 undef = .bool false := dep 8 _ _ (by kernel_rfl) rfl rfl
          have e8 : a.tmps[47]?.getD undef = _ := (Array.getD_eq_getD_getElem? ..).symm.trans d8
          rw [if_neg (wanted_not rfl rfl rfl (by rw [hsz]; simp [hs, k7, ptr]) d8 rfl)]
          exact rfl
        | 11, ho =>
          obtain rfl := Option.some.inj ho
          have d8 : a.tmps.getD 47 undef = .bool false := dep 8 _ _ (by kernel_rfl) rfl rfl
          have e8 : a.tmps[47]?.getD undef = _ := (Array.getD_eq_getD_getElem? ..).symm.trans d8
          rw [if_neg (wanted_not rfl rfl rfl (by rw [hsz]; simp [hs, k7, ptr]) d8 rfl)]
          exact rfl
        | 12, ho =>
          obtain rfl := Option.some.inj ho
          have d8 : a.tmps.getD 47 undef = .bool false := dep 8 _ _ (by kernel_rfl) rfl rfl
          have e8 : a.tmps[47]?.getD undef = _ := (Array.getD_eq_getD_getElem? ..).symm.trans d8
          have d11 : a.tmps.getD 50 undef = undef := dep 11 _ _ (by kernel_rfl) rfl rfl
          have e11 : a.tmps[50]?.getD undef = _ := (Array.getD_eq_getD_getElem? ..).symm.trans d11
          rw [if_pos (wanted_none rfl)]
          refine grow_same (v := .bool false) ?_ rfl
          clear old dep ho hsz hb
          go_simp
        | 13, ho =>
          obtain rfl := Option.some.inj ho
          have d12 : a.tmps.getD 51 undef = .bool false := dep 12 _ _ (by kernel_rfl) rfl rfl
          have e12 : a.tmps[51]?.getD undef = _ := (Array.getD_eq_getD_getElem? ..).symm.trans d12
          rw [if_pos (wanted_none rfl)]
          refine grow_same (v := .bool false) ?_ rfl
          clear old dep ho hsz hb
          go_simp
        | 14, ho =>
          obtain rfl := Option.some.inj ho
          have d13 : a.tmps.getD 52 undef = .bool false := dep 13 _ _ (by kernel_rfl) rfl rfl
          have e13 : a.tmps[52]?.getD undef = _ := (Array.getD_eq_getD_getElem? ..).symm.trans d13
          rw [if_neg (wanted_not rfl rfl rfl (by rw [hsz]; simp [hs, k7, ptr]) d13 rfl)]
          exact rfl
        | 15, ho =>
          obtain rfl := Option.some.inj ho
          have d13 : a.tmps.getD 52 undef = .bool false := dep 13 _ _ (by kernel_rfl) rfl rfl
          have e13 : a.tmps[52]?.getD undef = _ := (Array.getD_eq_getD_getElem? ..).symm.trans d13
          rw [if_neg (wanted_not rfl rfl rfl (by rw [hsz]; simp [hs, k7, ptr]) d13 rfl)]
          exact rfl
        | 16, ho =>
          obtain rfl := Option.some.inj ho
          have d13 : a.tmps.getD 52 undef = .bool false := dep 13 _ _ (by kernel_rfl) rfl rfl
          have e13 : a.tmps[52]?.getD undef = _ := (Array.getD_eq_getD_getElem? ..).symm.trans d13
          rw [if_neg (wanted_not rfl rfl rfl (by rw [hsz]; simp [hs, k7, ptr]) d13 rfl)]
          exact rfl
        | 17, ho =>
          obtain rfl := Option.some.inj ho
          have d13 : a.tmps.getD 52 undef = .bool false := dep 13 _ _ (by kernel_rfl) rfl rfl
          have e13 : a.tmps[52]?.getD undef = _ := (Array.getD_eq_getD_getElem? ..).symm.trans d13
          have d16 : a.tmps.getD 55 undef = undef := dep 16 _ _ (by kernel_rfl) rfl rfl
          have e16 : a.tmps[55]?.getD undef = _ := (Array.getD_eq_getD_getElem? ..).symm.trans d16
          rw [if_pos (wanted_none rfl)]
          refine grow_same (v := .bool false) ?_ rfl
          clear old dep ho hsz hb
          go_simp
        | 18, ho =>
          obtain rfl := Option.some.inj ho
          have d17 : a.tmps.getD 56 undef = .bool false := dep 17 _ _ (by kernel_rfl) rfl rfl
          have e17 : a.tmps[56]?.getD undef = _ := (Array.getD_eq_getD_getElem? ..).symm.trans d17
          rw [if_pos (wanted_none rfl)]
          refine grow_same (v := .bool false) ?_ rfl
          clear old dep ho hsz hb
          go_simp
        | i + 19, ho => exact absurd ho (by simp)
      · intro a w1 hb hsz hdf fin keep
        have kptm2 : Keeps S13 tm a.tmps := Keeps.region hsz keep (by kernel_rfl) (Keeps.refl _ _)
        have hstm2 : a.tmps.size = 264 := hsz.trans (by simp [hs, k7, ptr])
        have vtm2_8 : a.tmps[8]? = some (.bool false) := slot_get (fin 18 _ _ rfl rfl) (by omega)
        obtain ⟨tm2, df⟩ := a
        dsimp only at hdf hsz kptm2 hstm2 vtm2_8
        subst hdf
        clear fin keep hsz
        exact hK _ _ kptm2 (by rw [decide_eq_false (show ¬ (0 ≤ r ∧ r < 3 ∧ 0 ≤ s ∧ s < 8) by omega)]; exact vtm2_8) hb
  · skip
    have HQ1 := hide (show decide (0 ≤ r) = false by simp <;> omega)
    refine region_grows_p 264 (by simp [hs, k7, ptr]) [Say.is (.pointer (some ⟨bx, 1, none⟩)), Say.is (.int .i64 r), Say.is (.bool false), Say.is (.bool false), Say.is (undef), Say.is (undef), Say.is (undef), Say.is (.bool false), Say.is (.bool false), Say.is (undef), Say.is (undef), Say.is (undef), Say.is (.bool false), Say.is (.bool false), Say.is (undef), Say.is (undef), Say.is (undef), Say.is (.bool false), Say.is (.bool false)] (by kernel_rfl) (by kernel_rfl) (by kernel_rfl) ?_ ?_
    · intro i o ho a w2 hb hsz old dep
      match i, ho with
      | 0, ho =>
        obtain rfl := Option.some.inj ho
        have o7 : a.tmps.getD 7 undef = .pointer (some ⟨bx, 0, none⟩) := (old 7 (by kernel_rfl)).trans (by simp [Array.getD_eq_getD_getElem?, hs, k7, ptr])
        have oe7 : a.tmps[7]?.getD undef = _ := (Array.getD_eq_getD_getElem? ..).symm.trans o7
        rw [if_pos (wanted_none rfl)]
        refine grow_same (v := .pointer (some ⟨bx, 1, none⟩)) ?_ rfl
        clear old dep ho hsz hb
        go_simp
      | 1, ho =>
        obtain rfl := Option.some.inj ho
        have d0 : a.tmps.getD 39 undef = .pointer (some ⟨bx, 1, none⟩) := dep 0 _ _ (by kernel_rfl) rfl rfl
        have e0 : a.tmps[39]?.getD undef = _ := (Array.getD_eq_getD_getElem? ..).symm.trans d0
        rw [if_pos (wanted_none rfl)]
        have g0 := (hb.cell (p := ⟨bx, 1, none⟩) HBL.out).trans HC1.out
        refine grow_same (v := .int .i64 r) ?_ rfl
        clear old dep ho hsz hb
        go_simp
      | 2, ho =>
        obtain rfl := Option.some.inj ho
        have d1 : a.tmps.getD 40 undef = .int .i64 r := dep 1 _ _ (by kernel_rfl) rfl rfl
        have e1 : a.tmps[40]?.getD undef = _ := (Array.getD_eq_getD_getElem? ..).symm.trans d1
        rw [if_pos (wanted_none rfl)]
        have hq := HQ1.out
        refine grow_same (v := .bool false) ?_ rfl
        clear old dep ho hsz hb
        go_simp
      | 3, ho =>
        obtain rfl := Option.some.inj ho
        have d2 : a.tmps.getD 41 undef = .bool false := dep 2 _ _ (by kernel_rfl) rfl rfl
        have e2 : a.tmps[41]?.getD undef = _ := (Array.getD_eq_getD_getElem? ..).symm.trans d2
        rw [if_pos (wanted_none rfl)]
        refine grow_same (v := .bool false) ?_ rfl
        clear old dep ho hsz hb
        go_simp
      | 4, ho =>
        obtain rfl := Option.some.inj ho
        have d3 : a.tmps.getD 42 undef = .bool false := dep 3 _ _ (by kernel_rfl) rfl rfl
        have e3 : a.tmps[42]?.getD undef = _ := (Array.getD_eq_getD_getElem? ..).symm.trans d3
        rw [if_neg (wanted_not rfl rfl rfl (by rw [hsz]; simp [hs, k7, ptr]) d3 rfl)]
        exact rfl
      | 5, ho =>
        obtain rfl := Option.some.inj ho
        have d3 : a.tmps.getD 42 undef = .bool false := dep 3 _ _ (by kernel_rfl) rfl rfl
        have e3 : a.tmps[42]?.getD undef = _ := (Array.getD_eq_getD_getElem? ..).symm.trans d3
        rw [if_neg (wanted_not rfl rfl rfl (by rw [hsz]; simp [hs, k7, ptr]) d3 rfl)]
        exact rfl
      | 6, ho =>
        obtain rfl := Option.some.inj ho
        have d3 : a.tmps.getD 42 undef = .bool false := dep 3 _ _ (by kernel_rfl) rfl rfl
        have e3 : a.tmps[42]?.getD undef = _ := (Array.getD_eq_getD_getElem? ..).symm.trans d3
        rw [if_neg (wanted_not rfl rfl rfl (by rw [hsz]; simp [hs, k7, ptr]) d3 rfl)]
        exact rfl
      | 7, ho =>
        obtain rfl := Option.some.inj ho
        have d3 : a.tmps.getD 42 undef = .bool false := dep 3 _ _ (by kernel_rfl) rfl rfl
        have e3 : a.tmps[42]?.getD undef = _ := (Array.getD_eq_getD_getElem? ..).symm.trans d3
        have d6 : a.tmps.getD 45 undef = undef := dep 6 _ _ (by kernel_rfl) rfl rfl
        have e6 : a.tmps[45]?.getD undef = _ := (Array.getD_eq_getD_getElem? ..).symm.trans d6
        rw [if_pos (wanted_none rfl)]
        refine grow_same (v := .bool false) ?_ rfl
        clear old dep ho hsz hb
        go_simp
      | 8, ho =>
        obtain rfl := Option.some.inj ho
        have d7 : a.tmps.getD 46 undef = .bool false := dep 7 _ _ (by kernel_rfl) rfl rfl
        have e7 : a.tmps[46]?.getD undef = _ := (Array.getD_eq_getD_getElem? ..).symm.trans d7
        rw [if_pos (wanted_none rfl)]
        refine grow_same (v := .bool false) ?_ rfl
        clear old dep ho hsz hb
        go_simp
      | 9, ho =>
        obtain rfl := Option.some.inj ho
        have d8 : a.tmps.getD 47 undef = .bool false := dep 8 _ _ (by kernel_rfl) rfl rfl
        have e8 : a.tmps[47]?.getD undef = _ := (Array.getD_eq_getD_getElem? ..).symm.trans d8
        rw [if_neg (wanted_not rfl rfl rfl (by rw [hsz]; simp [hs, k7, ptr]) d8 rfl)]
        exact rfl
      | 10, ho =>
        obtain rfl := Option.some.inj ho
        have d8 : a.tmps.getD 47 undef = .bool false := dep 8 _ _ (by kernel_rfl) rfl rfl
        have e8 : a.tmps[47]?.getD undef = _ := (Array.getD_eq_getD_getElem? ..).symm.trans d8
        rw [if_neg (wanted_not rfl rfl rfl (by rw [hsz]; simp [hs, k7, ptr]) d8 rfl)]
        exact rfl
      | 11, ho =>
        obtain rfl := Option.some.inj ho
        have d8 : a.tmps.getD 47 undef = .bool false := dep 8 _ _ (by kernel_rfl) rfl rfl
        have e8 : a.tmps[47]?.getD undef = _ := (Array.getD_eq_getD_getElem? ..).symm.trans d8
        rw [if_neg (wanted_not rfl rfl rfl (by rw [hsz]; simp [hs, k7, ptr]) d8 rfl)]
        exact rfl
      | 12, ho =>
        obtain rfl := Option.some.inj ho
        have d8 : a.tmps.getD 47 undef = .bool false := dep 8 _ _ (by kernel_rfl) rfl rfl
        have e8 : a.tmps[47]?.getD undef = _ := (Array.getD_eq_getD_getElem? ..).symm.trans d8
        have d11 : a.tmps.getD 50 undef = undef := dep 11 _ _ (by kernel_rfl) rfl rfl
        have e11 : a.tmps[50]?.getD undef = _ := (Array.getD_eq_getD_getElem? ..).symm.trans d11
        rw [if_pos (wanted_none rfl)]
        refine grow_same (v := .bool false) ?_ rfl
        clear old dep ho hsz hb
        go_simp
      | 13, ho =>
        obtain rfl := Option.some.inj ho
        have d12 : a.tmps.getD 51 undef = .bool false := dep 12 _ _ (by kernel_rfl) rfl rfl
        have e12 : a.tmps[51]?.getD undef = _ := (Array.getD_eq_getD_getElem? ..).symm.trans d12
        rw [if_pos (wanted_none rfl)]
        refine grow_same (v := .bool false) ?_ rfl
        clear old dep ho hsz hb
        go_simp
      | 14, ho =>
        obtain rfl := Option.some.inj ho
        have d13 : a.tmps.getD 52 undef = .bool false := dep 13 _ _ (by kernel_rfl) rfl rfl
        have e13 : a.tmps[52]?.getD undef = _ := (Array.getD_eq_getD_getElem? ..).symm.trans d13
        rw [if_neg (wanted_not rfl rfl rfl (by rw [hsz]; simp [hs, k7, ptr]) d13 rfl)]
        exact rfl
      | 15, ho =>
        obtain rfl := Option.some.inj ho
        have d13 : a.tmps.getD 52 undef = .bool false := dep 13 _ _ (by kernel_rfl) rfl rfl
        have e13 : a.tmps[52]?.getD undef = _ := (Array.getD_eq_getD_getElem? ..).symm.trans d13
        rw [if_neg (wanted_not rfl rfl rfl (by rw [hsz]; simp [hs, k7, ptr]) d13 rfl)]
        exact rfl
      | 16, ho =>
        obtain rfl := Option.some.inj ho
        have d13 : a.tmps.getD 52 undef = .bool false := dep 13 _ _ (by kernel_rfl) rfl rfl
        have e13 : a.tmps[52]?.getD undef = _ := (Array.getD_eq_getD_getElem? ..).symm.trans d13
        rw [if_neg (wanted_not rfl rfl rfl (by rw [hsz]; simp [hs, k7, ptr]) d13 rfl)]
        exact rfl
      | 17, ho =>
        obtain rfl := Option.some.inj ho
        have d13 : a.tmps.getD 52 undef = .bool false := dep 13 _ _ (by kernel_rfl) rfl rfl
        have e13 : a.tmps[52]?.getD undef = _ := (Array.getD_eq_getD_getElem? ..).symm.trans d13
        have d16 : a.tmps.getD 55 undef = undef := dep 16 _ _ (by kernel_rfl) rfl rfl
        have e16 : a.tmps[55]?.getD undef = _ := (Array.getD_eq_getD_getElem? ..).symm.trans d16
        rw [if_pos (wanted_none rfl)]
        refine grow_same (v := .bool false) ?_ rfl
        clear old dep ho hsz hb
        go_simp
      | 18, ho =>
        obtain rfl := Option.some.inj ho
        have d17 : a.tmps.getD 56 undef = .bool false := dep 17 _ _ (by kernel_rfl) rfl rfl
        have e17 : a.tmps[56]?.getD undef = _ := (Array.getD_eq_getD_getElem? ..).symm.trans d17
        rw [if_pos (wanted_none rfl)]
        refine grow_same (v := .bool false) ?_ rfl
        clear old dep ho hsz hb
        go_simp
      | i + 19, ho => exact absurd ho (by simp)
    · intro a w1 hb hsz hdf fin keep
      have kptm2 : Keeps S13 tm a.tmps := Keeps.region hsz keep (by kernel_rfl) (Keeps.refl _ _)
      have hstm2 : a.tmps.size = 264 := hsz.trans (by simp [hs, k7, ptr])
      have vtm2_8 : a.tmps[8]? = some (.bool false) := slot_get (fin 18 _ _ rfl rfl) (by omega)
      obtain ⟨tm2, df⟩ := a
      dsimp only at hdf hsz kptm2 hstm2 vtm2_8
      subst hdf
      clear fin keep hsz
      exact hK _ _ kptm2 (by rw [decide_eq_false (show ¬ (0 ≤ r ∧ r < 3 ∧ 0 ≤ s ∧ s < 8) by omega)]; exact vtm2_8) hb
theorem sb_new {w0 w W : World} {gm d n k : Nat} {D : Ds} {PC : Array Value} {dat : Nat → Nat → List UInt8} {wt : Nat → List CallD} {lf : Nat → Int} {vs : Nat → Value} {kd r s : Int} {A : Option Addr} {m c : Nat} {l : List UInt8} {mask : Nat}
    (hS : St w0 w gm d n k D PC dat wt lf vs) (hfit : CallD.Fit w0 w0.heap.size ⟨kd, r, s, .slice A m c, l, mask⟩) (hlen : l.length = m) (hg0 : w0.heap.size ≤ gm) (hb : Below w.heap.size w W) (hs : W.heap.size = w.heap.size + 1) (hx : Blk W w.heap.size 36 #[.int .i64 kd, .int .i64 r, .int .i64 s, .slice A m c, .int .u64 (mask : Int)]) : SB w0 W gm d w.heap.size n k D PC dat wt lf vs kd r s A m c l mask :=
  ⟨hS.tie, hS.md.below hb, hS.many.more hb (fun k hk => by
    rcases hk with hk | hk
    · exact .inl hk
    · exact .inr ⟨by omega, by omega⟩), hS.le.trans (hb.mono hS.le.size), hx, hS.le.size, fun hmb => by
    rcases hmb with e | ⟨q, hq, e⟩
    · have := hS.md.blk.lt; omega
    · have := (World.ownsRow.lt (hS.md.own q hq) _ e).2; omega, hfit, hlen, hg0⟩
theorem kind5 (kd : Int) : 0 ≤ (kd.tmod 5 + 5).tmod 5 ∧ (kd.tmod 5 + 5).tmod 5 < 5 ∧ -5 < kd.tmod 5 ∧ kd.tmod 5 < 5 := by
  have h1 : kd.tmod 5 < 5 := Int.tmod_lt_of_pos kd (by decide)
  have h2 : -5 < kd.tmod 5 := Int.lt_tmod_of_pos kd (by decide)
  exact ⟨Int.tmod_nonneg _ (by omega), Int.tmod_lt_of_pos _ (by decide), h2, h1⟩
set_option maxHeartbeats 8000000 in
theorem runs_o {w0 w : World} {gm d : Nat} {D : Ds} {PC : Array Value} {dat : Nat → Nat → List UInt8} {wt : Nat → List CallD} {lf : Nat → Int} {vs : Nat → Value} {A0 : Option Addr} {N0 : Nat} {cs : List CallD} (hv : CallRow w0 w0.heap.size (.slice A0 cs.length N0) cs) (h200 : cs.length ≤ 200) (hg0 : w0.heap.size ≤ gm) (hS : St w0 w gm d 0 0 D PC dat wt lf vs)
    {tm : Array Value} (hF : tm.size = 264 ∧ tm[3]? = some (ptr d) ∧ tm[4]? = some (ptr gm) ∧ tm[5]? = some (.int .i64 (0 : Int)) ∧ tm[29]? = some (.slice A0 cs.length N0) ∧ tm[30]? = some (.int .i64 (cs.length : Int)) ∧ tm[31]? = some (.int .i64 (0 : Int))) {Q : Exit → Act → World → Prop}
    (hR : ∀ tm' w', tm'.size = 264 → tm'[2]? = some (.bool true) → Below w0.heap.size w0 w' → Q .ret ⟨tm', []⟩ w')
    (hK : ∀ (tm' : Array Value) w' (n : Nat) (D : Ds) (PC : Array Value) (dat : Nat → Nat → List UInt8) (wt : Nat → List CallD) (lf : Nat → Int) (vs : Nat → Value), tm'.size = 264 → tm'[3]? = some (ptr d) → tm'[5]? = some (.int .i64 (n : Int)) → St w0 w' gm d n cs.length D PC dat wt lf vs → Q (.exit 0) ⟨tm', []⟩ w') :
    Code.wp Try.prog (subC (Try.f3.body.getD .skip) [1,1,1,1,1,1,0,1,0]) Q ⟨tm, []⟩ w := by
  conv => arg 2; whnf
  refine wp_loop (fun a w' => ∃ (tm' : Array Value) (k n : Nat) (D : Ds) (PC : Array Value) (dat : Nat → Nat → List UInt8) (wt : Nat → List CallD) (lf : Nat → Int) (vs : Nat → Value), a = ⟨tm', []⟩ ∧ k ≤ cs.length ∧ (tm'.size = 264 ∧ tm'[3]? = some (ptr d) ∧ tm'[4]? = some (ptr gm) ∧ tm'[5]? = some (.int .i64 (n : Int)) ∧ tm'[29]? = some (.slice A0 cs.length N0) ∧ tm'[30]? = some (.int .i64 (cs.length : Int)) ∧ tm'[31]? = some (.int .i64 (k : Int))) ∧ St w0 w' gm d n k D PC dat wt lf vs) (fun a _ => cs.length - (intOf (a.tmps.getD 31 undef)).toNat) ⟨_, 0, 0, _, _, _, _, _, _, rfl, by omega, hF, hS⟩ ?_
  clear hF hS
  rintro a w' ⟨tm1, k, n, D, PC, dat, wt, lf, vs, rfl, hk, ⟨hs1, f3, f4, f5, f29, f30, f31⟩, hS⟩
  have hmu : intOf (tm1.getD 31 undef) = (k : Int) := by rw [slot_getD f31]; rfl
  by_cases hlt : k < cs.length
  · obtain ⟨b, o, c0, he, kd, r, s, A, m, c, l, mask, hck, hln, hn3, hmask, hrange, hrow, hkdb, hrb, hsb⟩ := call_at hv hS.le hlt
    injection he with e1 e2 e3
    subst e1
    subst e3
    obtain ⟨_, _, _, _, hfit⟩ := id hv
    have hfit := hfit _ (List.getElem_mem hlt)
    rw [hck] at hfit
    have k3 := slot_at f3 (by omega)
    have k4 := slot_at f4 (by omega)
    have k5 := slot_at f5 (by omega)
    have k29 := slot_at f29 (by omega)
    have k30 := slot_at f30 (by omega)
    have k31 := slot_at f31 (by omega)
    have HRG := hide hrange
    have XIC := hide infoCall
    have XAC := hide (all_call kd r s A m c (mask : Int))
    have HV := hide hv
    have HK := hide hK
    have hk0 : (0 : Int) ≤ (k : Int) := by omega
    have hk1 : (k : Int) < (cs.length : Int) := by omega
    clear f3 f4 f5 f29 f30 f31 hrange hck hrow hv hK hkdb hrb hsb
    by_cases hbig : 100 < m
    · have hbg : (100 : Int) < (m : Int) := by omega
      go_wp2
      refine wp_cond_true (by simp [Act.eval, hs1]) ?_
      go_upto_if 38 with (first | ((with_reducible refine wpList_load_mid rfl 36 (.tmp 33) rfl b (o + k * 5) ?_ [.int .i64 kd, .int .i64 r, .int .i64 s, .slice A m c, .int .u64 (mask : Int)] _ ?_ Try.underlying36 ?_ ?_ ?_); simp [Act.eval, hs1]; exact HRG.out; rfl; exact XIC.out) | ((with_reducible refine store_box 36 (.tmp 7) (.tmp 34) 5 _ #[.int .i64 kd, .int .i64 r, .int .i64 s, .slice A m c, .int .u64 (mask : Int)] rfl rfl ?_ ?_ ?_ ?_ ?_ ?_ ?_); rfl; rfl; simp [Act.eval, hs1]; simp [Act.eval, hs1]; exact XIC.out; exact XAC.out; intro W2 hb2 hs2 hx2; have HSB := hide (sb_new hS hfit hln hg0 hb2 hs2 hx2); have d3 := hx2.cell 3 _ rfl; clear hb2 hs2 hx2))
      refine wp_cond_true (by simp [Act.eval, hs1]) ?_
      go_wp2
      exact hR _ _ (by simp [hs1]) (by simp [hs1]) HSB.out.le
    have hbg : decide ((100 : Int) < (m : Int)) = false := by simp <;> omega
    clear hR
    go_wp2
    refine wp_cond_true (by simp [Act.eval, hs1]) ?_
    go_upto_if 38 with (first | ((with_reducible refine wpList_load_mid rfl 36 (.tmp 33) rfl b (o + k * 5) ?_ [.int .i64 kd, .int .i64 r, .int .i64 s, .slice A m c, .int .u64 (mask : Int)] _ ?_ Try.underlying36 ?_ ?_ ?_); simp [Act.eval, hs1]; exact HRG.out; rfl; exact XIC.out) | ((with_reducible refine store_box 36 (.tmp 7) (.tmp 34) 5 _ #[.int .i64 kd, .int .i64 r, .int .i64 s, .slice A m c, .int .u64 (mask : Int)] rfl rfl ?_ ?_ ?_ ?_ ?_ ?_ ?_); rfl; rfl; simp [Act.eval, hs1]; simp [Act.eval, hs1]; exact XIC.out; exact XAC.out; intro W2 hb2 hs2 hx2; have HSB := hide (sb_new hS hfit hln hg0 hb2 hs2 hx2); have d3 := hx2.cell 3 _ rfl; clear hb2 hs2 hx2))
    refine wp_cond_false (by simp [Act.eval, hs1]) ?_
    go_upto_region 13 with fail
    refine runs_13 HSB.out.box (by simp [hs1]) (by simp [hs1, ptr]) ?_
    intro tm2 w2 hkp2 f8 hb2
    have hs2 : tm2.size = 264 := hkp2.1.trans (by simp [hs1])
    have HSB2 := hide (HSB.out.below hb2)
    have z3 := slot_at (hkp2.get (t := 3) (v := ptr d) rfl (by simp [hs1, k3])) (by omega)
    have z4 := slot_at (hkp2.get (t := 4) (v := ptr gm) rfl (by simp [hs1, k4])) (by omega)
    have z5 := slot_at (hkp2.get (t := 5) (v := .int .i64 (n : Int)) rfl (by simp [hs1, k5])) (by omega)
    have z7 := slot_at (hkp2.get (t := 7) (v := ptr w'.heap.size) rfl (by simp [hs1, ptr])) (by omega)
    have z29 := slot_at (hkp2.get (t := 29) (v := .slice (some ⟨b, o, none⟩) cs.length N0) rfl (by simp [hs1, k29])) (by omega)
    have z30 := slot_at (hkp2.get (t := 30) (v := .int .i64 (cs.length : Int)) rfl (by simp [hs1, k30])) (by omega)
    have z31 := slot_at (hkp2.get (t := 31) (v := .int .i64 (k : Int)) rfl (by simp [hs1, k31])) (by omega)
    obtain ⟨bx, hbx⟩ : ∃ bx, w'.heap.size = bx := ⟨_, rfl⟩
    obtain ⟨th, hth⟩ : ∃ th, decide (0 ≤ r ∧ r < 3 ∧ 0 ≤ s ∧ s < 8) = th := ⟨_, rfl⟩
    rw [hbx] at z7 HSB2
    rw [hth] at f8
    have z8 := slot_at f8 (by omega)
    clear HSB hkp2 f8 hb2 d3 HRG HK XIC XAC hln hfit hS hs1 k3 k4 k5 k29 k30 k31 hbx
    have HC0 := hide (HSB2.out.box.cell 0 _ rfl)
    have HC1 := hide (HSB2.out.box.cell 1 _ rfl)
    have HC2 := hide (HSB2.out.box.cell 2 _ rfl)
    have HBL := hide HSB2.out.box.lt
    go_upto_region 14 with fail
    refine region_grows_n 264 (by simp [hs2, z3, z4, z5, z7, z8, z29, z30, z31, ptr]) [Say.is (.pointer (some ⟨bx, 1, none⟩)), Say.is (.int .i64 r), Say.is (.pointer (some ⟨bx, 2, none⟩)), Say.is (.int .i64 s), Say.is (.int .i64 r), Say.is (.int .i64 s)] (by kernel_rfl) (by kernel_rfl) (by kernel_rfl) (by kernel_rfl) ?_ ?_
    · intro i o ho a w2 hb hsz old dep
      match i, ho with
      | 0, ho =>
        obtain rfl := Option.some.inj ho
        have o7 : a.tmps.getD 7 undef = .pointer (some ⟨bx, 0, none⟩) := (old 7 (by kernel_rfl)).trans (by simp [Array.getD_eq_getD_getElem?, hs2, z3, z4, z5, z7, z8, z29, z30, z31, ptr])
        have oe7 : a.tmps[7]?.getD undef = _ := (Array.getD_eq_getD_getElem? ..).symm.trans o7
        rw [if_pos (wanted_none rfl)]
        refine grow_same (v := .pointer (some ⟨bx, 1, none⟩)) ?_ rfl
        clear old dep ho hsz hb
        go_simp
      | 1, ho =>
        obtain rfl := Option.some.inj ho
        have d0 : a.tmps.getD 57 undef = .pointer (some ⟨bx, 1, none⟩) := dep 0 _ _ (by kernel_rfl) rfl rfl
        have e0 : a.tmps[57]?.getD undef = _ := (Array.getD_eq_getD_getElem? ..).symm.trans d0
        rw [if_pos (wanted_none rfl)]
        have g0 := (hb.cell (p := ⟨bx, 1, none⟩) HBL.out).trans HC1.out
        refine grow_same (v := .int .i64 r) ?_ rfl
        clear old dep ho hsz hb
        go_simp
      | 2, ho =>
        obtain rfl := Option.some.inj ho
        have o7 : a.tmps.getD 7 undef = .pointer (some ⟨bx, 0, none⟩) := (old 7 (by kernel_rfl)).trans (by simp [Array.getD_eq_getD_getElem?, hs2, z3, z4, z5, z7, z8, z29, z30, z31, ptr])
        have oe7 : a.tmps[7]?.getD undef = _ := (Array.getD_eq_getD_getElem? ..).symm.trans o7
        rw [if_pos (wanted_none rfl)]
        refine grow_same (v := .pointer (some ⟨bx, 2, none⟩)) ?_ rfl
        clear old dep ho hsz hb
        go_simp
      | 3, ho =>
        obtain rfl := Option.some.inj ho
        have d2 : a.tmps.getD 59 undef = .pointer (some ⟨bx, 2, none⟩) := dep 2 _ _ (by kernel_rfl) rfl rfl
        have e2 : a.tmps[59]?.getD undef = _ := (Array.getD_eq_getD_getElem? ..).symm.trans d2
        rw [if_pos (wanted_none rfl)]
        have g0 := (hb.cell (p := ⟨bx, 2, none⟩) HBL.out).trans HC2.out
        refine grow_same (v := .int .i64 s) ?_ rfl
        clear old dep ho hsz hb
        go_simp
      | 4, ho =>
        obtain rfl := Option.some.inj ho
        have d1 : a.tmps.getD 58 undef = .int .i64 r := dep 1 _ _ (by kernel_rfl) rfl rfl
        have e1 : a.tmps[58]?.getD undef = _ := (Array.getD_eq_getD_getElem? ..).symm.trans d1
        rw [if_pos (wanted_none rfl)]
        refine grow_same (v := .int .i64 r) ?_ rfl
        clear old dep ho hsz hb
        go_simp
      | 5, ho =>
        obtain rfl := Option.some.inj ho
        have d3 : a.tmps.getD 60 undef = .int .i64 s := dep 3 _ _ (by kernel_rfl) rfl rfl
        have e3 : a.tmps[60]?.getD undef = _ := (Array.getD_eq_getD_getElem? ..).symm.trans d3
        rw [if_pos (wanted_none rfl)]
        refine grow_same (v := .int .i64 s) ?_ rfl
        clear old dep ho hsz hb
        go_simp
      | i + 6, ho => exact absurd ho (by simp)
    · intro a w3 hb hsz hdf fin keep
      have kptm3 : Keeps (fun _ => true) _ a.tmps := Keeps.region hsz keep (by kernel_rfl) (Keeps.refl _ _)
      have hstm3 : a.tmps.size = 264 := hsz.trans (by simp [hs2, z3, z4, z5, z7, z8, z29, z30, z31, ptr])
      have vtm3_3 : a.tmps[3]? = some (ptr d) := slot_get ((keep 3 (by kernel_rfl)).trans (by simp [Array.getD_eq_getD_getElem?, hs2, z3, z4, z5, z7, z8, z29, z30, z31, ptr])) (by omega)
      have vtm3_4 : a.tmps[4]? = some (ptr gm) := slot_get ((keep 4 (by kernel_rfl)).trans (by simp [Array.getD_eq_getD_getElem?, hs2, z3, z4, z5, z7, z8, z29, z30, z31, ptr])) (by omega)
      have vtm3_5 : a.tmps[5]? = some (.int .i64 (n : Int)) := slot_get ((keep 5 (by kernel_rfl)).trans (by simp [Array.getD_eq_getD_getElem?, hs2, z3, z4, z5, z7, z8, z29, z30, z31, ptr])) (by omega)
      have vtm3_7 : a.tmps[7]? = some (ptr bx) := slot_get ((keep 7 (by kernel_rfl)).trans (by simp [Array.getD_eq_getD_getElem?, hs2, z3, z4, z5, z7, z8, z29, z30, z31, ptr])) (by omega)
      have vtm3_8 : a.tmps[8]? = some (.bool th) := slot_get ((keep 8 (by kernel_rfl)).trans (by simp [Array.getD_eq_getD_getElem?, hs2, z3, z4, z5, z7, z8, z29, z30, z31, ptr])) (by omega)
      have vtm3_29 : a.tmps[29]? = some (.slice (some ⟨b, o, none⟩) cs.length N0) := slot_get ((keep 29 (by kernel_rfl)).trans (by simp [Array.getD_eq_getD_getElem?, hs2, z3, z4, z5, z7, z8, z29, z30, z31, ptr])) (by omega)
      have vtm3_30 : a.tmps[30]? = some (.int .i64 (cs.length : Int)) := slot_get ((keep 30 (by kernel_rfl)).trans (by simp [Array.getD_eq_getD_getElem?, hs2, z3, z4, z5, z7, z8, z29, z30, z31, ptr])) (by omega)
      have vtm3_31 : a.tmps[31]? = some (.int .i64 (k : Int)) := slot_get ((keep 31 (by kernel_rfl)).trans (by simp [Array.getD_eq_getD_getElem?, hs2, z3, z4, z5, z7, z8, z29, z30, z31, ptr])) (by omega)
      have vtm3_9 : a.tmps[9]? = some (.int .i64 r) := slot_get (fin 4 _ _ rfl rfl) (by omega)
      have vtm3_10 : a.tmps[10]? = some (.int .i64 s) := slot_get (fin 5 _ _ rfl rfl) (by omega)
      obtain ⟨tm3, df⟩ := a
      dsimp only at hdf hsz kptm3 hstm3 vtm3_3 vtm3_4 vtm3_5 vtm3_7 vtm3_8 vtm3_29 vtm3_30 vtm3_31 vtm3_9 vtm3_10
      subst hdf
      clear fin keep hsz
      have y3 := slot_at vtm3_3 (by omega)
      have y4 := slot_at vtm3_4 (by omega)
      have y5 := slot_at vtm3_5 (by omega)
      have y7 := slot_at vtm3_7 (by omega)
      have y8 := slot_at vtm3_8 (by omega)
      have y9 := slot_at vtm3_9 (by omega)
      have y10 := slot_at vtm3_10 (by omega)
      have y29 := slot_at vtm3_29 (by omega)
      have y30 := slot_at vtm3_30 (by omega)
      have y31 := slot_at vtm3_31 (by omega)
      have HSB3 := hide (HSB2.out.below hb)
      clear kptm3 hb HSB2 HC0 HC1 HC2 HBL z3 z4 z5 z7 z8 z29 z30 z31 hs2
      have HC0 := hide (HSB3.out.box.cell 0 _ rfl)
      have HBL := hide HSB3.out.box.lt
      have h5 := kind5 kd
      obtain ⟨KN, hKN⟩ : ∃ K, (kd.tmod 5 + 5).tmod 5 = K := ⟨_, rfl⟩
      rw [hKN] at h5
      have HKN := hide hKN
      have HW5 := hide (show IntKind.i64.wrap (kd.tmod 5 + 5) = kd.tmod 5 + 5 by rw [IntKind.wrap_i64]; omega)
      clear hKN vtm3_3 vtm3_4 vtm3_5 vtm3_7 vtm3_8 vtm3_9 vtm3_10 vtm3_29 vtm3_30 vtm3_31
      go_upto_region 15 with fail
      refine region_grows_p 264 (by simp [hstm3, y3, y4, y5, y7, y8, y9, y10, y29, y30, y31, ptr]) [Say.is (.pointer (some ⟨bx, 0, none⟩)), Say.is (.int .i64 kd), Say.is (.int .i64 (kd.tmod 5)), Say.is (.int .i64 (kd.tmod 5 + 5)), Say.is (.int .i64 KN)] (by kernel_rfl) (by kernel_rfl) (by kernel_rfl) ?_ ?_
      · intro i o ho a w2 hb hsz old dep
        match i, ho with
        | 0, ho =>
          obtain rfl := Option.some.inj ho
          have o7 : a.tmps.getD 7 undef = .pointer (some ⟨bx, 0, none⟩) := (old 7 (by kernel_rfl)).trans (by simp [Array.getD_eq_getD_getElem?, hstm3, y3, y4, y5, y7, y8, y9, y10, y29, y30, y31, ptr])
          have oe7 : a.tmps[7]?.getD undef = _ := (Array.getD_eq_getD_getElem? ..).symm.trans o7
          rw [if_pos (wanted_none rfl)]
          refine grow_same (v := .pointer (some ⟨bx, 0, none⟩)) ?_ rfl
          clear old dep ho hsz hb
          go_simp
        | 1, ho =>
          obtain rfl := Option.some.inj ho
          have d0 : a.tmps.getD 61 undef = .pointer (some ⟨bx, 0, none⟩) := dep 0 _ _ (by kernel_rfl) rfl rfl
          have e0 : a.tmps[61]?.getD undef = _ := (Array.getD_eq_getD_getElem? ..).symm.trans d0
          rw [if_pos (wanted_none rfl)]
          have g0 := (hb.cell (p := ⟨bx, 0, none⟩) HBL.out).trans HC0.out
          refine grow_same (v := .int .i64 kd) ?_ rfl
          clear old dep ho hsz hb
          go_simp
        | 2, ho =>
          obtain rfl := Option.some.inj ho
          have d1 : a.tmps.getD 62 undef = .int .i64 kd := dep 1 _ _ (by kernel_rfl) rfl rfl
          have e1 : a.tmps[62]?.getD undef = _ := (Array.getD_eq_getD_getElem? ..).symm.trans d1
          rw [if_pos (wanted_none rfl)]
          refine grow_same (v := .int .i64 (kd.tmod 5)) ?_ rfl
          clear old dep ho hsz hb
          go_simp
        | 3, ho =>
          obtain rfl := Option.some.inj ho
          have d2 : a.tmps.getD 63 undef = .int .i64 (kd.tmod 5) := dep 2 _ _ (by kernel_rfl) rfl rfl
          have e2 : a.tmps[63]?.getD undef = _ := (Array.getD_eq_getD_getElem? ..).symm.trans d2
          rw [if_pos (wanted_none rfl)]
          have hw := HW5.out
          refine grow_same (v := .int .i64 (kd.tmod 5 + 5)) ?_ rfl
          clear old dep ho hsz hb
          go_simp
        | 4, ho =>
          obtain rfl := Option.some.inj ho
          have d3 : a.tmps.getD 64 undef = .int .i64 (kd.tmod 5 + 5) := dep 3 _ _ (by kernel_rfl) rfl rfl
          have e3 : a.tmps[64]?.getD undef = _ := (Array.getD_eq_getD_getElem? ..).symm.trans d3
          rw [if_pos (wanted_none rfl)]
          have hkn := HKN.out
          refine grow_same (v := .int .i64 KN) ?_ rfl
          clear old dep ho hsz hb
          go_simp
        | i + 5, ho => exact absurd ho (by simp)
      · intro a w4 hb hsz hdf fin keep
        have kptm4 : Keeps (fun _ => true) _ a.tmps := Keeps.region hsz keep (by kernel_rfl) (Keeps.refl _ _)
        have hstm4 : a.tmps.size = 264 := hsz.trans (by simp [hstm3, y3, y4, y5, y7, y8, y9, y10, y29, y30, y31, ptr])
        have vtm4_3 : a.tmps[3]? = some (ptr d) := slot_get ((keep 3 (by kernel_rfl)).trans (by simp [Array.getD_eq_getD_getElem?, hstm3, y3, y4, y5, y7, y8, y9, y10, y29, y30, y31, ptr])) (by omega)
        have vtm4_4 : a.tmps[4]? = some (ptr gm) := slot_get ((keep 4 (by kernel_rfl)).trans (by simp [Array.getD_eq_getD_getElem?, hstm3, y3, y4, y5, y7, y8, y9, y10, y29, y30, y31, ptr])) (by omega)
        have vtm4_5 : a.tmps[5]? = some (.int .i64 (n : Int)) := slot_get ((keep 5 (by kernel_rfl)).trans (by simp [Array.getD_eq_getD_getElem?, hstm3, y3, y4, y5, y7, y8, y9, y10, y29, y30, y31, ptr])) (by omega)
        have vtm4_7 : a.tmps[7]? = some (ptr bx) := slot_get ((keep 7 (by kernel_rfl)).trans (by simp [Array.getD_eq_getD_getElem?, hstm3, y3, y4, y5, y7, y8, y9, y10, y29, y30, y31, ptr])) (by omega)
        have vtm4_8 : a.tmps[8]? = some (.bool th) := slot_get ((keep 8 (by kernel_rfl)).trans (by simp [Array.getD_eq_getD_getElem?, hstm3, y3, y4, y5, y7, y8, y9, y10, y29, y30, y31, ptr])) (by omega)
        have vtm4_29 : a.tmps[29]? = some (.slice (some ⟨b, o, none⟩) cs.length N0) := slot_get ((keep 29 (by kernel_rfl)).trans (by simp [Array.getD_eq_getD_getElem?, hstm3, y3, y4, y5, y7, y8, y9, y10, y29, y30, y31, ptr])) (by omega)
        have vtm4_30 : a.tmps[30]? = some (.int .i64 (cs.length : Int)) := slot_get ((keep 30 (by kernel_rfl)).trans (by simp [Array.getD_eq_getD_getElem?, hstm3, y3, y4, y5, y7, y8, y9, y10, y29, y30, y31, ptr])) (by omega)
        have vtm4_31 : a.tmps[31]? = some (.int .i64 (k : Int)) := slot_get ((keep 31 (by kernel_rfl)).trans (by simp [Array.getD_eq_getD_getElem?, hstm3, y3, y4, y5, y7, y8, y9, y10, y29, y30, y31, ptr])) (by omega)
        have vtm4_9 : a.tmps[9]? = some (.int .i64 r) := slot_get ((keep 9 (by kernel_rfl)).trans (by simp [Array.getD_eq_getD_getElem?, hstm3, y3, y4, y5, y7, y8, y9, y10, y29, y30, y31, ptr])) (by omega)
        have vtm4_10 : a.tmps[10]? = some (.int .i64 s) := slot_get ((keep 10 (by kernel_rfl)).trans (by simp [Array.getD_eq_getD_getElem?, hstm3, y3, y4, y5, y7, y8, y9, y10, y29, y30, y31, ptr])) (by omega)
        have vtm4_65 : a.tmps[65]? = some (.int .i64 KN) := slot_get (fin 4 _ _ rfl rfl) (by omega)
        obtain ⟨tm4, df⟩ := a
        dsimp only at hdf hsz kptm4 hstm4 vtm4_3 vtm4_4 vtm4_5 vtm4_7 vtm4_8 vtm4_29 vtm4_30 vtm4_31 vtm4_9 vtm4_10 vtm4_65
        subst hdf
        clear fin keep hsz
        have x3 := slot_at vtm4_3 (by omega)
        have x4 := slot_at vtm4_4 (by omega)
        have x5 := slot_at vtm4_5 (by omega)
        have x7 := slot_at vtm4_7 (by omega)
        have x8 := slot_at vtm4_8 (by omega)
        have x9 := slot_at vtm4_9 (by omega)
        have x10 := slot_at vtm4_10 (by omega)
        have x29 := slot_at vtm4_29 (by omega)
        have x30 := slot_at vtm4_30 (by omega)
        have x31 := slot_at vtm4_31 (by omega)
        have x65 := slot_at vtm4_65 (by omega)
        have HSB4 := hide (HSB3.out.below hb)
        clear kptm4 hb HSB3 HC0 HBL y3 y4 y5 y7 y8 y9 y10 y29 y30 y31 hstm3 vtm4_3 vtm4_4 vtm4_5 vtm4_7 vtm4_8 vtm4_9 vtm4_10 vtm4_29 vtm4_30 vtm4_31 vtm4_65
        go_upto_if 89 with fail
        refine sw_all HSB4.out (show k ≤ 200 by omega) h5.1 h5.2.1 (by simp [hstm4]) (by simp [hstm4, x3]) (by simp [hstm4, x4]) (by simp [hstm4, x5]) (by simp [hstm4, x7]) (by simp [hstm4, x9]) (by simp [hstm4, x10]) (by rw [hth]; simp [hstm4, x8]) (by simp [hstm4, x65]) (by simp [hstm4, x65]; rfl) ?_
        intro tm5 w5 n5 D5 PC5 dat5 wt5 lf5 vs5 hkp5 f5 hS5
        have hs5 : tm5.size = 264 := hkp5.1.trans (by simp [hstm4])
        have v3 := slot_at (hkp5.get (t := 3) (v := ptr d) rfl (by simp [hstm4, x3])) (by omega)
        have v4 := slot_at (hkp5.get (t := 4) (v := ptr gm) rfl (by simp [hstm4, x4])) (by omega)
        have v5 := slot_at f5 (by omega)
        have v29 := slot_at (hkp5.get (t := 29) (v := .slice (some ⟨b, o, none⟩) cs.length N0) rfl (by simp [hstm4, x29])) (by omega)
        have v30 := slot_at (hkp5.get (t := 30) (v := .int .i64 (cs.length : Int)) rfl (by simp [hstm4, x30])) (by omega)
        have v31 := slot_at (hkp5.get (t := 31) (v := .int .i64 (k : Int)) rfl (by simp [hstm4, x31])) (by omega)
        clear hkp5 f5 HSB4 x3 x4 x5 x7 x8 x9 x10 x29 x30 x31 x65 hstm4
        go_wp2
        refine runs_i hS5 (show k + 1 ≤ 200 by omega) (by simp [hs5]) (by simp [hs5, v3]) (by simp [hs5, v4]) (by simp [hs5]) ?_
        intro tm6 w6 hkp6 hS6
        have hs6 : tm6.size = 264 := hkp6.1.trans (by simp [hs5])
        have u3 := slot_at (hkp6.get (t := 3) (v := ptr d) rfl (by simp [hs5, v3])) (by omega)
        have u4 := slot_at (hkp6.get (t := 4) (v := ptr gm) rfl (by simp [hs5, v4])) (by omega)
        have u5 := slot_at (hkp6.get (t := 5) (v := .int .i64 (n5 : Int)) rfl (by simp [hs5, v5])) (by omega)
        have u29 := slot_at (hkp6.get (t := 29) (v := .slice (some ⟨b, o, none⟩) cs.length N0) rfl (by simp [hs5, v29])) (by omega)
        have u30 := slot_at (hkp6.get (t := 30) (v := .int .i64 (cs.length : Int)) rfl (by simp [hs5, v30])) (by omega)
        have u31 := slot_at (hkp6.get (t := 31) (v := .int .i64 (k : Int)) rfl (by simp [hs5, v31])) (by omega)
        clear hkp6 v3 v4 v5 v29 v30 v31 hs5
        go_wp2
        refine ⟨⟨_, k + 1, n5, _, _, _, _, _, _, rfl, by omega, ⟨by simp [hs6], by simp [hs6, u3], by simp [hs6, u4], by simp [hs6, u5], by simp [hs6, u29], by simp [hs6, u30], by simp [hs6]⟩, hS6⟩, ?_⟩
        rw [hmu]
        simp [intOf, hs6, Array.getD_eq_getD_getElem?]
        omega
  · obtain rfl : k = cs.length := by omega
    have k3 := slot_at f3 (by omega)
    have k4 := slot_at f4 (by omega)
    have k5 := slot_at f5 (by omega)
    have k29 := slot_at f29 (by omega)
    have k30 := slot_at f30 (by omega)
    have k31 := slot_at f31 (by omega)
    clear f3 f4 f5 f29 f30 f31
    go_wp2
    refine wp_cond_false (by simp [Act.eval, hs1]) ?_
    go_wp2
    exact hK _ _ n _ _ _ _ _ _ (by simp [hs1]) (by simp [hs1, k3]) (by simp [hs1, k5]) hS
end Go.Proofs.Ythlclhfepnmaeaa
