/-
  The walk of DiskRuns: its pieces, a barrier.
-/
import Derived.Test.YthlclhfepnmaeaaRunsB
namespace Go.Proofs.Ythlclhfepnmaeaa
open Go.RowKit
set_option linter.unusedSimpArgs false
set_option linter.unusedVariables false

set_option maxHeartbeats 2000000 in
theorem sw_bar_low {w0 w : World} {gm d bx n k : Nat} {D : Ds} {PC : Array Value} {dat : Nat → Nat → List UInt8} {wt : Nat → List CallD} {lf : Nat → Int} {vs : Nat → Value} {kd r s : Int} {A : Option Addr} {m c : Nat} {l : List UInt8} {mask : Nat} (h : SB w0 w gm d bx n k D PC dat wt lf vs kd r s A m c l mask) (hk : k ≤ 200) (hbad : r < 0) {tm : Array Value} (hs : tm.size = 264) (f3 : tm[3]? = some (ptr d)) (f4 : tm[4]? = some (ptr gm)) (f5 : tm[5]? = some (.int .i64 (n : Int))) (f7 : tm[7]? = some (ptr bx)) (f9 : tm[9]? = some (.int .i64 r)) (f10 : tm[10]? = some (.int .i64 s)) (f65 : tm[65]? = some (.int .i64 1)) (f89 : tm[89]? = some (.bool false)) {Q : Exit → Act → World → Prop} (hK : ∀ (tm' : Array Value) w' (n' : Nat) D PC dat wt lf vs, Keeps SW tm tm' → tm'[5]? = some (.int .i64 (n' : Int)) → St w0 w' gm d n' (k + 1) D PC dat wt lf vs → Q .normal ⟨tm', []⟩ w') :
    Code.wp Try.prog (subC (Try.f3.body.getD .skip) [1,1,1,1,1,1,0,1,0,0,1,1,0,0,1,1,1,1,0,1,0,1]) Q ⟨tm, []⟩ w := by
  conv => arg 2; whnf
  have k3 := slot_at f3 (by omega)
  have k4 := slot_at f4 (by omega)
  have k5 := slot_at f5 (by omega)
  have k7 := slot_at f7 (by omega)
  have k9 := slot_at f9 (by omega)
  have k10 := slot_at f10 (by omega)
  obtain ⟨c0, c1, c2, c3, c4⟩ := h.cells
  clear f3 f4 f5 f7 f9 f10
  unfold ptr at k4 k7
  have HR1 := hide (show decide (r < 0) = true by simp <;> omega)
  have k89 := slot_at f89 (by omega)
  have k65 := slot_at f65 (by omega)
  clear f89 f65
  refine wp_cond_false (by simp [Act.eval, k89, hs]) ?_
  go_upto_if 149 with fail
  refine wp_cond_true (by simp [Act.eval, hs, k65]) ?_
  go_upto_region 34 with fail
  refine region_grows_p 264 (by simp [hs, k3, k4, k5, k7, k9, k10, ptr]) [Say.is (.int .i64 r), Say.is (.bool true), Say.is (.bool true), Say.is (undef), Say.is (undef), Say.is (.bool true), Say.is (.bool true)] (by kernel_rfl) (by kernel_rfl) (by kernel_rfl) ?_ ?_
  · intro i o ho a w2 hb hsz old dep
    match i, ho with
    | 0, ho =>
      obtain rfl := Option.some.inj ho
      have o9 : a.tmps.getD 9 undef = .int .i64 r := (old 9 (by kernel_rfl)).trans (by simp [Array.getD_eq_getD_getElem?, hs, k3, k4, k5, k7, k9, k10, ptr])
      have oe9 : a.tmps[9]?.getD undef = _ := (Array.getD_eq_getD_getElem? ..).symm.trans o9
      rw [if_pos (wanted_none rfl)]
      refine grow_same (v := .int .i64 r) ?_ rfl
      clear old dep ho hsz hb
      go_simp
    | 1, ho =>
      obtain rfl := Option.some.inj ho
      have d0 : a.tmps.getD 155 undef = .int .i64 r := dep 0 _ _ (by kernel_rfl) rfl rfl
      have e0 : a.tmps[155]?.getD undef = _ := (Array.getD_eq_getD_getElem? ..).symm.trans d0
      rw [if_pos (wanted_none rfl)]
      have hq := HR1.out
      refine grow_same (v := .bool true) ?_ rfl
      clear old dep ho hsz hb
      go_simp
    | 2, ho =>
      obtain rfl := Option.some.inj ho
      have d1 : a.tmps.getD 156 undef = .bool true := dep 1 _ _ (by kernel_rfl) rfl rfl
      have e1 : a.tmps[156]?.getD undef = _ := (Array.getD_eq_getD_getElem? ..).symm.trans d1
      rw [if_pos (wanted_none rfl)]
      refine grow_same (v := .bool true) ?_ rfl
      clear old dep ho hsz hb
      go_simp
    | 3, ho =>
      obtain rfl := Option.some.inj ho
      have d2 : a.tmps.getD 157 undef = .bool true := dep 2 _ _ (by kernel_rfl) rfl rfl
      have e2 : a.tmps[157]?.getD undef = _ := (Array.getD_eq_getD_getElem? ..).symm.trans d2
      rw [if_neg (wanted_not rfl rfl rfl (by rw [hsz]; simp [hs, k3, k4, k5, k7, k9, k10, ptr]) d2 rfl)]
      exact rfl
    | 4, ho =>
      obtain rfl := Option.some.inj ho
      have d2 : a.tmps.getD 157 undef = .bool true := dep 2 _ _ (by kernel_rfl) rfl rfl
      have e2 : a.tmps[157]?.getD undef = _ := (Array.getD_eq_getD_getElem? ..).symm.trans d2
      rw [if_neg (wanted_not rfl rfl rfl (by rw [hsz]; simp [hs, k3, k4, k5, k7, k9, k10, ptr]) d2 rfl)]
      exact rfl
    | 5, ho =>
      obtain rfl := Option.some.inj ho
      have d2 : a.tmps.getD 157 undef = .bool true := dep 2 _ _ (by kernel_rfl) rfl rfl
      have e2 : a.tmps[157]?.getD undef = _ := (Array.getD_eq_getD_getElem? ..).symm.trans d2
      have d4 : a.tmps.getD 159 undef = undef := dep 4 _ _ (by kernel_rfl) rfl rfl
      have e4 : a.tmps[159]?.getD undef = _ := (Array.getD_eq_getD_getElem? ..).symm.trans d4
      rw [if_pos (wanted_none rfl)]
      refine grow_same (v := .bool true) ?_ rfl
      clear old dep ho hsz hb
      go_simp
    | 6, ho =>
      obtain rfl := Option.some.inj ho
      have d5 : a.tmps.getD 160 undef = .bool true := dep 5 _ _ (by kernel_rfl) rfl rfl
      have e5 : a.tmps[160]?.getD undef = _ := (Array.getD_eq_getD_getElem? ..).symm.trans d5
      rw [if_pos (wanted_none rfl)]
      refine grow_same (v := .bool true) ?_ rfl
      clear old dep ho hsz hb
      go_simp
    | i + 7, ho => exact absurd ho (by simp)
  · intro a w1 hb hsz hdf fin keep
    have kptm2 : Keeps SW tm a.tmps := Keeps.region hsz keep (by kernel_rfl) (by dsimp only; repeat (first | (with_reducible exact Keeps.refl _ _) | ((with_reducible refine Keeps.put ?_ ?_ _); rfl)))
    have hstm2 : a.tmps.size = 264 := hsz.trans (by simp [hs, k3, k4, k5, k7, k9, k10, ptr])
    have vtm2_3 : a.tmps[3]? = some (ptr d) := slot_get ((keep 3 (by kernel_rfl)).trans (by simp [Array.getD_eq_getD_getElem?, hs, k3, k4, k5, k7, k9, k10, ptr])) (by omega)
    have vtm2_4 : a.tmps[4]? = some (ptr gm) := slot_get ((keep 4 (by kernel_rfl)).trans (by simp [Array.getD_eq_getD_getElem?, hs, k3, k4, k5, k7, k9, k10, ptr])) (by omega)
    have vtm2_5 : a.tmps[5]? = some (.int .i64 (n : Int)) := slot_get ((keep 5 (by kernel_rfl)).trans (by simp [Array.getD_eq_getD_getElem?, hs, k3, k4, k5, k7, k9, k10, ptr])) (by omega)
    have vtm2_7 : a.tmps[7]? = some (ptr bx) := slot_get ((keep 7 (by kernel_rfl)).trans (by simp [Array.getD_eq_getD_getElem?, hs, k3, k4, k5, k7, k9, k10, ptr])) (by omega)
    have vtm2_9 : a.tmps[9]? = some (.int .i64 r) := slot_get ((keep 9 (by kernel_rfl)).trans (by simp [Array.getD_eq_getD_getElem?, hs, k3, k4, k5, k7, k9, k10, ptr])) (by omega)
    have vtm2_10 : a.tmps[10]? = some (.int .i64 s) := slot_get ((keep 10 (by kernel_rfl)).trans (by simp [Array.getD_eq_getD_getElem?, hs, k3, k4, k5, k7, k9, k10, ptr])) (by omega)
    have vtm2_12 : a.tmps[12]? = some (.int .i64 0) := slot_get ((keep 12 (by kernel_rfl)).trans (by simp [Array.getD_eq_getD_getElem?, hs, k3, k4, k5, k7, k9, k10, ptr])) (by omega)
    have vtm2_154 : a.tmps[154]? = some (.bool true) := slot_get (fin 6 _ _ rfl rfl) (by omega)
    obtain ⟨tm2, df⟩ := a
    dsimp only at hdf hsz kptm2 hstm2 vtm2_3 vtm2_4 vtm2_5 vtm2_7 vtm2_9 vtm2_10 vtm2_12 vtm2_154
    subst hdf
    clear fin keep hsz
    have y3 := slot_at vtm2_3 (by omega)
    have y4 := slot_at vtm2_4 (by omega)
    have y5 := slot_at vtm2_5 (by omega)
    have y7 := slot_at vtm2_7 (by omega)
    have y9 := slot_at vtm2_9 (by omega)
    have y10 := slot_at vtm2_10 (by omega)
    have y12 := slot_at vtm2_12 (by omega)
    have y154 := slot_at vtm2_154 (by omega)
    unfold ptr at y4 y7
    have hx := h.below hb
    obtain ⟨d0, d1, d2, d3, d4⟩ := hx.cells
    clear hb
    go_upto_if 154 with fail
    refine wp_cond_true (by simp [Act.eval, hstm2, y154]) ?_
    go_upto_if 173 with (go_at_call 8; refine (rn_barrier_none hx (.inl hbad)).mono ?_; rintro e w2 ⟨rfl, hS⟩)
    refine wp_cond_false (by simp [Act.eval, hstm2]) ?_
    go_wp2
    exact hK _ _ _ _ _ _ _ _ _ (by repeat (first | (with_reducible exact kptm2) | ((with_reducible refine Keeps.put ?_ ?_ _); rfl))) (by simp [hstm2, y5]) hS
set_option maxHeartbeats 2000000 in
theorem sw_bar_high {w0 w : World} {gm d bx n k : Nat} {D : Ds} {PC : Array Value} {dat : Nat → Nat → List UInt8} {wt : Nat → List CallD} {lf : Nat → Int} {vs : Nat → Value} {kd r s : Int} {A : Option Addr} {m c : Nat} {l : List UInt8} {mask : Nat} (h : SB w0 w gm d bx n k D PC dat wt lf vs kd r s A m c l mask) (hk : k ≤ 200) (hbad : 3 ≤ r) {tm : Array Value} (hs : tm.size = 264) (f3 : tm[3]? = some (ptr d)) (f4 : tm[4]? = some (ptr gm)) (f5 : tm[5]? = some (.int .i64 (n : Int))) (f7 : tm[7]? = some (ptr bx)) (f9 : tm[9]? = some (.int .i64 r)) (f10 : tm[10]? = some (.int .i64 s)) (f65 : tm[65]? = some (.int .i64 1)) (f89 : tm[89]? = some (.bool false)) {Q : Exit → Act → World → Prop} (hK : ∀ (tm' : Array Value) w' (n' : Nat) D PC dat wt lf vs, Keeps SW tm tm' → tm'[5]? = some (.int .i64 (n' : Int)) → St w0 w' gm d n' (k + 1) D PC dat wt lf vs → Q .normal ⟨tm', []⟩ w') :
    Code.wp Try.prog (subC (Try.f3.body.getD .skip) [1,1,1,1,1,1,0,1,0,0,1,1,0,0,1,1,1,1,0,1,0,1]) Q ⟨tm, []⟩ w := by
  conv => arg 2; whnf
  have k3 := slot_at f3 (by omega)
  have k4 := slot_at f4 (by omega)
  have k5 := slot_at f5 (by omega)
  have k7 := slot_at f7 (by omega)
  have k9 := slot_at f9 (by omega)
  have k10 := slot_at f10 (by omega)
  obtain ⟨c0, c1, c2, c3, c4⟩ := h.cells
  clear f3 f4 f5 f7 f9 f10
  unfold ptr at k4 k7
  have HR1 := hide (show decide (r < 0) = false by simp <;> omega)
  have HR2 := hide (show decide (2 < r) = true by simp <;> omega)
  have k89 := slot_at f89 (by omega)
  have k65 := slot_at f65 (by omega)
  clear f89 f65
  refine wp_cond_false (by simp [Act.eval, k89, hs]) ?_
  go_upto_if 149 with fail
  refine wp_cond_true (by simp [Act.eval, hs, k65]) ?_
  go_upto_region 34 with fail
  refine region_grows_p 264 (by simp [hs, k3, k4, k5, k7, k9, k10, ptr]) [Say.is (.int .i64 r), Say.is (.bool false), Say.is (.bool false), Say.is (.int .i64 r), Say.is (.bool true), Say.is (.bool true), Say.is (.bool true)] (by kernel_rfl) (by kernel_rfl) (by kernel_rfl) ?_ ?_
  · intro i o ho a w2 hb hsz old dep
    match i, ho with
    | 0, ho =>
      obtain rfl := Option.some.inj ho
      have o9 : a.tmps.getD 9 undef = .int .i64 r := (old 9 (by kernel_rfl)).trans (by simp [Array.getD_eq_getD_getElem?, hs, k3, k4, k5, k7, k9, k10, ptr])
      have oe9 : a.tmps[9]?.getD undef = _ := (Array.getD_eq_getD_getElem? ..).symm.trans o9
      rw [if_pos (wanted_none rfl)]
      refine grow_same (v := .int .i64 r) ?_ rfl
      clear old dep ho hsz hb
      go_simp
    | 1, ho =>
      obtain rfl := Option.some.inj ho
      have d0 : a.tmps.getD 155 undef = .int .i64 r := dep 0 _ _ (by kernel_rfl) rfl rfl
      have e0 : a.tmps[155]?.getD undef = _ := (Array.getD_eq_getD_getElem? ..).symm.trans d0
      rw [if_pos (wanted_none rfl)]
      have hq := HR1.out
      refine grow_same (v := .bool false) ?_ rfl
      clear old dep ho hsz hb
      go_simp
    | 2, ho =>
      obtain rfl := Option.some.inj ho
      have d1 : a.tmps.getD 156 undef = .bool false := dep 1 _ _ (by kernel_rfl) rfl rfl
      have e1 : a.tmps[156]?.getD undef = _ := (Array.getD_eq_getD_getElem? ..).symm.trans d1
      rw [if_pos (wanted_none rfl)]
      refine grow_same (v := .bool false) ?_ rfl
      clear old dep ho hsz hb
      go_simp
    | 3, ho =>
      obtain rfl := Option.some.inj ho
      have o9 : a.tmps.getD 9 undef = .int .i64 r := (old 9 (by kernel_rfl)).trans (by simp [Array.getD_eq_getD_getElem?, hs, k3, k4, k5, k7, k9, k10, ptr])
      have oe9 : a.tmps[9]?.getD undef = _ := (Array.getD_eq_getD_getElem? ..).symm.trans o9
      have d2 : a.tmps.getD 157 undef = .bool false := dep 2 _ _ (by kernel_rfl) rfl rfl
      have e2 : a.tmps[157]?.getD undef = _ := (Array.getD_eq_getD_getElem? ..).symm.trans d2
      rw [if_pos (wanted_some rfl rfl rfl (by rw [hsz]; simp [hs, k3, k4, k5, k7, k9, k10, ptr]) d2)]
      refine grow_same (v := .int .i64 r) ?_ rfl
      clear old dep ho hsz hb
      go_simp
    | 4, ho =>
      obtain rfl := Option.some.inj ho
      have d3 : a.tmps.getD 158 undef = .int .i64 r := dep 3 _ _ (by kernel_rfl) rfl rfl
      have e3 : a.tmps[158]?.getD undef = _ := (Array.getD_eq_getD_getElem? ..).symm.trans d3
      have d2 : a.tmps.getD 157 undef = .bool false := dep 2 _ _ (by kernel_rfl) rfl rfl
      have e2 : a.tmps[157]?.getD undef = _ := (Array.getD_eq_getD_getElem? ..).symm.trans d2
      rw [if_pos (wanted_some rfl rfl rfl (by rw [hsz]; simp [hs, k3, k4, k5, k7, k9, k10, ptr]) d2)]
      have hq := HR2.out
      refine grow_same (v := .bool true) ?_ rfl
      clear old dep ho hsz hb
      go_simp
    | 5, ho =>
      obtain rfl := Option.some.inj ho
      have d2 : a.tmps.getD 157 undef = .bool false := dep 2 _ _ (by kernel_rfl) rfl rfl
      have e2 : a.tmps[157]?.getD undef = _ := (Array.getD_eq_getD_getElem? ..).symm.trans d2
      have d4 : a.tmps.getD 159 undef = .bool true := dep 4 _ _ (by kernel_rfl) rfl rfl
      have e4 : a.tmps[159]?.getD undef = _ := (Array.getD_eq_getD_getElem? ..).symm.trans d4
      rw [if_pos (wanted_none rfl)]
      refine grow_same (v := .bool true) ?_ rfl
      clear old dep ho hsz hb
      go_simp
    | 6, ho =>
      obtain rfl := Option.some.inj ho
      have d5 : a.tmps.getD 160 undef = .bool true := dep 5 _ _ (by kernel_rfl) rfl rfl
      have e5 : a.tmps[160]?.getD undef = _ := (Array.getD_eq_getD_getElem? ..).symm.trans d5
      rw [if_pos (wanted_none rfl)]
      refine grow_same (v := .bool true) ?_ rfl
      clear old dep ho hsz hb
      go_simp
    | i + 7, ho => exact absurd ho (by simp)
  · intro a w1 hb hsz hdf fin keep
    have kptm2 : Keeps SW tm a.tmps := Keeps.region hsz keep (by kernel_rfl) (by dsimp only; repeat (first | (with_reducible exact Keeps.refl _ _) | ((with_reducible refine Keeps.put ?_ ?_ _); rfl)))
    have hstm2 : a.tmps.size = 264 := hsz.trans (by simp [hs, k3, k4, k5, k7, k9, k10, ptr])
    have vtm2_3 : a.tmps[3]? = some (ptr d) := slot_get ((keep 3 (by kernel_rfl)).trans (by simp [Array.getD_eq_getD_getElem?, hs, k3, k4, k5, k7, k9, k10, ptr])) (by omega)
    have vtm2_4 : a.tmps[4]? = some (ptr gm) := slot_get ((keep 4 (by kernel_rfl)).trans (by simp [Array.getD_eq_getD_getElem?, hs, k3, k4, k5, k7, k9, k10, ptr])) (by omega)
    have vtm2_5 : a.tmps[5]? = some (.int .i64 (n : Int)) := slot_get ((keep 5 (by kernel_rfl)).trans (by simp [Array.getD_eq_getD_getElem?, hs, k3, k4, k5, k7, k9, k10, ptr])) (by omega)
    have vtm2_7 : a.tmps[7]? = some (ptr bx) := slot_get ((keep 7 (by kernel_rfl)).trans (by simp [Array.getD_eq_getD_getElem?, hs, k3, k4, k5, k7, k9, k10, ptr])) (by omega)
    have vtm2_9 : a.tmps[9]? = some (.int .i64 r) := slot_get ((keep 9 (by kernel_rfl)).trans (by simp [Array.getD_eq_getD_getElem?, hs, k3, k4, k5, k7, k9, k10, ptr])) (by omega)
    have vtm2_10 : a.tmps[10]? = some (.int .i64 s) := slot_get ((keep 10 (by kernel_rfl)).trans (by simp [Array.getD_eq_getD_getElem?, hs, k3, k4, k5, k7, k9, k10, ptr])) (by omega)
    have vtm2_12 : a.tmps[12]? = some (.int .i64 0) := slot_get ((keep 12 (by kernel_rfl)).trans (by simp [Array.getD_eq_getD_getElem?, hs, k3, k4, k5, k7, k9, k10, ptr])) (by omega)
    have vtm2_154 : a.tmps[154]? = some (.bool true) := slot_get (fin 6 _ _ rfl rfl) (by omega)
    obtain ⟨tm2, df⟩ := a
    dsimp only at hdf hsz kptm2 hstm2 vtm2_3 vtm2_4 vtm2_5 vtm2_7 vtm2_9 vtm2_10 vtm2_12 vtm2_154
    subst hdf
    clear fin keep hsz
    have y3 := slot_at vtm2_3 (by omega)
    have y4 := slot_at vtm2_4 (by omega)
    have y5 := slot_at vtm2_5 (by omega)
    have y7 := slot_at vtm2_7 (by omega)
    have y9 := slot_at vtm2_9 (by omega)
    have y10 := slot_at vtm2_10 (by omega)
    have y12 := slot_at vtm2_12 (by omega)
    have y154 := slot_at vtm2_154 (by omega)
    unfold ptr at y4 y7
    have hx := h.below hb
    obtain ⟨d0, d1, d2, d3, d4⟩ := hx.cells
    clear hb
    go_upto_if 154 with fail
    refine wp_cond_true (by simp [Act.eval, hstm2, y154]) ?_
    go_upto_if 173 with (go_at_call 8; refine (rn_barrier_none hx (.inr hbad)).mono ?_; rintro e w2 ⟨rfl, hS⟩)
    refine wp_cond_false (by simp [Act.eval, hstm2]) ?_
    go_wp2
    exact hK _ _ _ _ _ _ _ _ _ (by repeat (first | (with_reducible exact kptm2) | ((with_reducible refine Keeps.put ?_ ?_ _); rfl))) (by simp [hstm2, y5]) hS
set_option maxHeartbeats 2000000 in
theorem sw_bar_down {w0 w : World} {gm d bx n k : Nat} {D : Ds} {PC : Array Value} {dat : Nat → Nat → List UInt8} {wt : Nat → List CallD} {lf : Nat → Int} {vs : Nat → Value} {kd s : Int} {rn : Nat} {A : Option Addr} {m c : Nat} {l : List UInt8} {mask : Nat} (h : SB w0 w gm d bx n k D PC dat wt lf vs kd (rn : Int) s A m c l mask) (hk : k ≤ 200) (hr : rn < 3) (hd : lf rn = 0) {tm : Array Value} (hs : tm.size = 264) (f3 : tm[3]? = some (ptr d)) (f4 : tm[4]? = some (ptr gm)) (f5 : tm[5]? = some (.int .i64 (n : Int))) (f7 : tm[7]? = some (ptr bx)) (f9 : tm[9]? = some (.int .i64 (rn : Int))) (f10 : tm[10]? = some (.int .i64 s)) (f65 : tm[65]? = some (.int .i64 1)) (f89 : tm[89]? = some (.bool false)) {Q : Exit → Act → World → Prop} (hK : ∀ (tm' : Array Value) w' (n' : Nat) D PC dat wt lf vs, Keeps SW tm tm' → tm'[5]? = some (.int .i64 (n' : Int)) → St w0 w' gm d n' (k + 1) D PC dat wt lf vs → Q .normal ⟨tm', []⟩ w') :
    Code.wp Try.prog (subC (Try.f3.body.getD .skip) [1,1,1,1,1,1,0,1,0,0,1,1,0,0,1,1,1,1,0,1,0,1]) Q ⟨tm, []⟩ w := by
  conv => arg 2; whnf
  have k3 := slot_at f3 (by omega)
  have k4 := slot_at f4 (by omega)
  have k5 := slot_at f5 (by omega)
  have k7 := slot_at f7 (by omega)
  have k9 := slot_at f9 (by omega)
  have k10 := slot_at f10 (by omega)
  obtain ⟨c0, c1, c2, c3, c4⟩ := h.cells
  clear f3 f4 f5 f7 f9 f10
  unfold ptr at k4 k7
  have HR1 := hide (show decide ((rn : Int) < 0) = false by simp <;> omega)
  have HR2 := hide (show decide (2 < (rn : Int)) = false by simp <;> omega)
  have k89 := slot_at f89 (by omega)
  have k65 := slot_at f65 (by omega)
  clear f89 f65
  refine wp_cond_false (by simp [Act.eval, k89, hs]) ?_
  go_upto_if 149 with fail
  refine wp_cond_true (by simp [Act.eval, hs, k65]) ?_
  go_upto_region 34 with fail
  refine region_grows_p 264 (by simp [hs, k3, k4, k5, k7, k9, k10, ptr]) [Say.is (.int .i64 (rn : Int)), Say.is (.bool false), Say.is (.bool false), Say.is (.int .i64 (rn : Int)), Say.is (.bool false), Say.is (.bool false), Say.is (.bool false)] (by kernel_rfl) (by kernel_rfl) (by kernel_rfl) ?_ ?_
  · intro i o ho a w2 hb hsz old dep
    match i, ho with
    | 0, ho =>
      obtain rfl := Option.some.inj ho
      have o9 : a.tmps.getD 9 undef = .int .i64 (rn : Int) := (old 9 (by kernel_rfl)).trans (by simp [Array.getD_eq_getD_getElem?, hs, k3, k4, k5, k7, k9, k10, ptr])
      have oe9 : a.tmps[9]?.getD undef = _ := (Array.getD_eq_getD_getElem? ..).symm.trans o9
      rw [if_pos (wanted_none rfl)]
      refine grow_same (v := .int .i64 (rn : Int)) ?_ rfl
      clear old dep ho hsz hb
      go_simp
    | 1, ho =>
      obtain rfl := Option.some.inj ho
      have d0 : a.tmps.getD 155 undef = .int .i64 (rn : Int) := dep 0 _ _ (by kernel_rfl) rfl rfl
      have e0 : a.tmps[155]?.getD undef = _ := (Array.getD_eq_getD_getElem? ..).symm.trans d0
      rw [if_pos (wanted_none rfl)]
      have hq := HR1.out
      refine grow_same (v := .bool false) ?_ rfl
      clear old dep ho hsz hb
      go_simp
    | 2, ho =>
      obtain rfl := Option.some.inj ho
      have d1 : a.tmps.getD 156 undef = .bool false := dep 1 _ _ (by kernel_rfl) rfl rfl
      have e1 : a.tmps[156]?.getD undef = _ := (Array.getD_eq_getD_getElem? ..).symm.trans d1
      rw [if_pos (wanted_none rfl)]
      refine grow_same (v := .bool false) ?_ rfl
      clear old dep ho hsz hb
      go_simp
    | 3, ho =>
      obtain rfl := Option.some.inj ho
      have o9 : a.tmps.getD 9 undef = .int .i64 (rn : Int) := (old 9 (by kernel_rfl)).trans (by simp [Array.getD_eq_getD_getElem?, hs, k3, k4, k5, k7, k9, k10, ptr])
      have oe9 : a.tmps[9]?.getD undef = _ := (Array.getD_eq_getD_getElem? ..).symm.trans o9
      have d2 : a.tmps.getD 157 undef = .bool false := dep 2 _ _ (by kernel_rfl) rfl rfl
      have e2 : a.tmps[157]?.getD undef = _ := (Array.getD_eq_getD_getElem? ..).symm.trans d2
      rw [if_pos (wanted_some rfl rfl rfl (by rw [hsz]; simp [hs, k3, k4, k5, k7, k9, k10, ptr]) d2)]
      refine grow_same (v := .int .i64 (rn : Int)) ?_ rfl
      clear old dep ho hsz hb
      go_simp
    | 4, ho =>
      obtain rfl := Option.some.inj ho
      have d3 : a.tmps.getD 158 undef = .int .i64 (rn : Int) := dep 3 _ _ (by kernel_rfl) rfl rfl
      have e3 : a.tmps[158]?.getD undef = _ := (Array.getD_eq_getD_getElem? ..).symm.trans d3
      have d2 : a.tmps.getD 157 undef = .bool false := dep 2 _ _ (by kernel_rfl) rfl rfl
      have e2 : a.tmps[157]?.getD undef = _ := (Array.getD_eq_getD_getElem? ..).symm.trans d2
      rw [if_pos (wanted_some rfl rfl rfl (by rw [hsz]; simp [hs, k3, k4, k5, k7, k9, k10, ptr]) d2)]
      have hq := HR2.out
      refine grow_same (v := .bool false) ?_ rfl
      clear old dep ho hsz hb
      go_simp
    | 5, ho =>
      obtain rfl := Option.some.inj ho
      have d2 : a.tmps.getD 157 undef = .bool false := dep 2 _ _ (by kernel_rfl) rfl rfl
      have e2 : a.tmps[157]?.getD undef = _ := (Array.getD_eq_getD_getElem? ..).symm.trans d2
      have d4 : a.tmps.getD 159 undef = .bool false := dep 4 _ _ (by kernel_rfl) rfl rfl
      have e4 : a.tmps[159]?.getD undef = _ := (Array.getD_eq_getD_getElem? ..).symm.trans d4
      rw [if_pos (wanted_none rfl)]
      refine grow_same (v := .bool false) ?_ rfl
      clear old dep ho hsz hb
      go_simp
    | 6, ho =>
      obtain rfl := Option.some.inj ho
      have d5 : a.tmps.getD 160 undef = .bool false := dep 5 _ _ (by kernel_rfl) rfl rfl
      have e5 : a.tmps[160]?.getD undef = _ := (Array.getD_eq_getD_getElem? ..).symm.trans d5
      rw [if_pos (wanted_none rfl)]
      refine grow_same (v := .bool false) ?_ rfl
      clear old dep ho hsz hb
      go_simp
    | i + 7, ho => exact absurd ho (by simp)
  · intro a w1 hb hsz hdf fin keep
    have kptm2 : Keeps SW tm a.tmps := Keeps.region hsz keep (by kernel_rfl) (by dsimp only; repeat (first | (with_reducible exact Keeps.refl _ _) | ((with_reducible refine Keeps.put ?_ ?_ _); rfl)))
    have hstm2 : a.tmps.size = 264 := hsz.trans (by simp [hs, k3, k4, k5, k7, k9, k10, ptr])
    have vtm2_3 : a.tmps[3]? = some (ptr d) := slot_get ((keep 3 (by kernel_rfl)).trans (by simp [Array.getD_eq_getD_getElem?, hs, k3, k4, k5, k7, k9, k10, ptr])) (by omega)
    have vtm2_4 : a.tmps[4]? = some (ptr gm) := slot_get ((keep 4 (by kernel_rfl)).trans (by simp [Array.getD_eq_getD_getElem?, hs, k3, k4, k5, k7, k9, k10, ptr])) (by omega)
    have vtm2_5 : a.tmps[5]? = some (.int .i64 (n : Int)) := slot_get ((keep 5 (by kernel_rfl)).trans (by simp [Array.getD_eq_getD_getElem?, hs, k3, k4, k5, k7, k9, k10, ptr])) (by omega)
    have vtm2_7 : a.tmps[7]? = some (ptr bx) := slot_get ((keep 7 (by kernel_rfl)).trans (by simp [Array.getD_eq_getD_getElem?, hs, k3, k4, k5, k7, k9, k10, ptr])) (by omega)
    have vtm2_9 : a.tmps[9]? = some (.int .i64 (rn : Int)) := slot_get ((keep 9 (by kernel_rfl)).trans (by simp [Array.getD_eq_getD_getElem?, hs, k3, k4, k5, k7, k9, k10, ptr])) (by omega)
    have vtm2_10 : a.tmps[10]? = some (.int .i64 s) := slot_get ((keep 10 (by kernel_rfl)).trans (by simp [Array.getD_eq_getD_getElem?, hs, k3, k4, k5, k7, k9, k10, ptr])) (by omega)
    have vtm2_12 : a.tmps[12]? = some (.int .i64 0) := slot_get ((keep 12 (by kernel_rfl)).trans (by simp [Array.getD_eq_getD_getElem?, hs, k3, k4, k5, k7, k9, k10, ptr])) (by omega)
    have vtm2_154 : a.tmps[154]? = some (.bool false) := slot_get (fin 6 _ _ rfl rfl) (by omega)
    obtain ⟨tm2, df⟩ := a
    dsimp only at hdf hsz kptm2 hstm2 vtm2_3 vtm2_4 vtm2_5 vtm2_7 vtm2_9 vtm2_10 vtm2_12 vtm2_154
    subst hdf
    clear fin keep hsz
    have y3 := slot_at vtm2_3 (by omega)
    have y4 := slot_at vtm2_4 (by omega)
    have y5 := slot_at vtm2_5 (by omega)
    have y7 := slot_at vtm2_7 (by omega)
    have y9 := slot_at vtm2_9 (by omega)
    have y10 := slot_at vtm2_10 (by omega)
    have y12 := slot_at vtm2_12 (by omega)
    have y154 := slot_at vtm2_154 (by omega)
    unfold ptr at y4 y7
    have hx := h.below hb
    obtain ⟨d0, d1, d2, d3, d4⟩ := hx.cells
    clear hb
    go_upto_if 154 with fail
    refine wp_cond_false (by simp [Act.eval, hstm2, y154]) ?_
    have hlf := hx.md.blk.cell _ _ (h.md.lefts rn hr)
    have hr0 : (0 : Int) ≤ (rn : Int) := by omega
    have hr3 : (rn : Int) < 3 := by omega
    rw [hd] at hlf
    go_upto_if 161 with fail
    refine wp_cond_true (by simp [Act.eval, hstm2]) ?_
    go_upto_if 173 with (go_at_call 8; refine (rn_barrier_down hx hr hd).mono ?_; rintro e w2 ⟨rfl, hS⟩)
    refine wp_cond_false (by simp [Act.eval, hstm2]) ?_
    go_wp2
    exact hK _ _ _ _ _ _ _ _ _ (by repeat (first | (with_reducible exact kptm2) | ((with_reducible refine Keeps.put ?_ ?_ _); rfl))) (by simp [hstm2, y5]) hS
theorem mx_none {B gm rn g : Nat} {vs : Nat → Value} (h : MX B gm (fun q => if q = rn then .slice none 0 0 else vs q) g) : MX B gm vs g := by
  rcases h with h | h | ⟨q, hq, h⟩
  · exact .inl h
  · exact .inr (.inl h)
  · by_cases e : q = rn
    · dsimp only at h
      rw [if_pos e] at h
      cases h
    · dsimp only at h
      rw [if_neg e] at h
      exact .inr (.inr ⟨q, hq, h⟩)
theorem Tie.secs {w0 : World} {D : Ds} {dat : Nat → Nat → List UInt8} {wt : Nat → List CallD} {lf : Nat → Int} {n k : Nat} (h : Tie w0 D dat wt lf n k) {r : Nat} (hr : r < 3) : ∀ x ∈ wt r, 0 ≤ x.s ∧ x.s < 8 := by
  obtain ⟨rg, hat, his⟩ := h.is r hr
  exact fun x hx => ⟨(his.okc x hx).1, (his.okc x hx).2.1⟩
set_option maxHeartbeats 2000000 in
theorem sw_bar_ok {w0 w : World} {gm d bx n k : Nat} {D : Ds} {PC : Array Value} {dat : Nat → Nat → List UInt8} {wt : Nat → List CallD} {lf : Nat → Int} {vs : Nat → Value} {kd s : Int} {rn : Nat} {A : Option Addr} {m c : Nat} {l : List UInt8} {mask : Nat} (h : SB w0 w gm d bx n k D PC dat wt lf vs kd (rn : Int) s A m c l mask) (hk : k ≤ 200) (hr : rn < 3) (hd : lf rn ≠ 0) {tm : Array Value} (hs : tm.size = 264) (f3 : tm[3]? = some (ptr d)) (f4 : tm[4]? = some (ptr gm)) (f5 : tm[5]? = some (.int .i64 (n : Int))) (f7 : tm[7]? = some (ptr bx)) (f9 : tm[9]? = some (.int .i64 (rn : Int))) (f10 : tm[10]? = some (.int .i64 s)) (f65 : tm[65]? = some (.int .i64 1)) (f89 : tm[89]? = some (.bool false)) {Q : Exit → Act → World → Prop} (hK : ∀ (tm' : Array Value) w' (n' : Nat) D PC dat wt lf vs, Keeps SW tm tm' → tm'[5]? = some (.int .i64 (n' : Int)) → St w0 w' gm d n' (k + 1) D PC dat wt lf vs → Q .normal ⟨tm', []⟩ w') :
    Code.wp Try.prog (subC (Try.f3.body.getD .skip) [1,1,1,1,1,1,0,1,0,0,1,1,0,0,1,1,1,1,0,1,0,1]) Q ⟨tm, []⟩ w := by
  conv => arg 2; whnf
  have k3 := slot_at f3 (by omega)
  have k4 := slot_at f4 (by omega)
  have k5 := slot_at f5 (by omega)
  have k7 := slot_at f7 (by omega)
  have k9 := slot_at f9 (by omega)
  have k10 := slot_at f10 (by omega)
  obtain ⟨c0, c1, c2, c3, c4⟩ := h.cells
  clear f3 f4 f5 f7 f9 f10
  unfold ptr at k4 k7
  have HNZ := hide (show (lf rn == 0) = false by rw [beq_eq_false_iff_ne]; exact hd)
  have HR1 := hide (show decide ((rn : Int) < 0) = false by simp <;> omega)
  have HR2 := hide (show decide (2 < (rn : Int)) = false by simp <;> omega)
  have k89 := slot_at f89 (by omega)
  have k65 := slot_at f65 (by omega)
  clear f89 f65
  refine wp_cond_false (by simp [Act.eval, k89, hs]) ?_
  go_upto_if 149 with fail
  refine wp_cond_true (by simp [Act.eval, hs, k65]) ?_
  go_upto_region 34 with fail
  refine region_grows_p 264 (by simp [hs, k3, k4, k5, k7, k9, k10, ptr]) [Say.is (.int .i64 (rn : Int)), Say.is (.bool false), Say.is (.bool false), Say.is (.int .i64 (rn : Int)), Say.is (.bool false), Say.is (.bool false), Say.is (.bool false)] (by kernel_rfl) (by kernel_rfl) (by kernel_rfl) ?_ ?_
  · intro i o ho a w2 hb hsz old dep
    match i, ho with
    | 0, ho =>
      obtain rfl := Option.some.inj ho
      have o9 : a.tmps.getD 9 undef = .int .i64 (rn : Int) := (old 9 (by kernel_rfl)).trans (by simp [Array.getD_eq_getD_getElem?, hs, k3, k4, k5, k7, k9, k10, ptr])
      have oe9 : a.tmps[9]?.getD undef = _ := (Array.getD_eq_getD_getElem? ..).symm.trans o9
      rw [if_pos (wanted_none rfl)]
      refine grow_same (v := .int .i64 (rn : Int)) ?_ rfl
      clear old dep ho hsz hb
      go_simp
    | 1, ho =>
      obtain rfl := Option.some.inj ho
      have d0 : a.tmps.getD 155 undef = .int .i64 (rn : Int) := dep 0 _ _ (by kernel_rfl) rfl rfl
      have e0 : a.tmps[155]?.getD undef = _ := (Array.getD_eq_getD_getElem? ..).symm.trans d0
      rw [if_pos (wanted_none rfl)]
      have hq := HR1.out
      refine grow_same (v := .bool false) ?_ rfl
      clear old dep ho hsz hb
      go_simp
    | 2, ho =>
      obtain rfl := Option.some.inj ho
      have d1 : a.tmps.getD 156 undef = .bool false := dep 1 _ _ (by kernel_rfl) rfl rfl
      have e1 : a.tmps[156]?.getD undef = _ := (Array.getD_eq_getD_getElem? ..).symm.trans d1
      rw [if_pos (wanted_none rfl)]
      refine grow_same (v := .bool false) ?_ rfl
      clear old dep ho hsz hb
      go_simp
    | 3, ho =>
      obtain rfl := Option.some.inj ho
      have o9 : a.tmps.getD 9 undef = .int .i64 (rn : Int) := (old 9 (by kernel_rfl)).trans (by simp [Array.getD_eq_getD_getElem?, hs, k3, k4, k5, k7, k9, k10, ptr])
      have oe9 : a.tmps[9]?.getD undef = _ := (Array.getD_eq_getD_getElem? ..).symm.trans o9
      have d2 : a.tmps.getD 157 undef = .bool false := dep 2 _ _ (by kernel_rfl) rfl rfl
      have e2 : a.tmps[157]?.getD undef = _ := (Array.getD_eq_getD_getElem? ..).symm.trans d2
      rw [if_pos (wanted_some rfl rfl rfl (by rw [hsz]; simp [hs, k3, k4, k5, k7, k9, k10, ptr]) d2)]
      refine grow_same (v := .int .i64 (rn : Int)) ?_ rfl
      clear old dep ho hsz hb
      go_simp
    | 4, ho =>
      obtain rfl := Option.some.inj ho
      have d3 : a.tmps.getD 158 undef = .int .i64 (rn : Int) := dep 3 _ _ (by kernel_rfl) rfl rfl
      have e3 : a.tmps[158]?.getD undef = _ := (Array.getD_eq_getD_getElem? ..).symm.trans d3
      have d2 : a.tmps.getD 157 undef = .bool false := dep 2 _ _ (by kernel_rfl) rfl rfl
      have e2 : a.tmps[157]?.getD undef = _ := (Array.getD_eq_getD_getElem? ..).symm.trans d2
      rw [if_pos (wanted_some rfl rfl rfl (by rw [hsz]; simp [hs, k3, k4, k5, k7, k9, k10, ptr]) d2)]
      have hq := HR2.out
      refine grow_same (v := .bool false) ?_ rfl
      clear old dep ho hsz hb
      go_simp
    | 5, ho =>
      obtain rfl := Option.some.inj ho
      have d2 : a.tmps.getD 157 undef = .bool false := dep 2 _ _ (by kernel_rfl) rfl rfl
      have e2 : a.tmps[157]?.getD undef = _ := (Array.getD_eq_getD_getElem? ..).symm.trans d2
      have d4 : a.tmps.getD 159 undef = .bool false := dep 4 _ _ (by kernel_rfl) rfl rfl
      have e4 : a.tmps[159]?.getD undef = _ := (Array.getD_eq_getD_getElem? ..).symm.trans d4
      rw [if_pos (wanted_none rfl)]
      refine grow_same (v := .bool false) ?_ rfl
      clear old dep ho hsz hb
      go_simp
    | 6, ho =>
      obtain rfl := Option.some.inj ho
      have d5 : a.tmps.getD 160 undef = .bool false := dep 5 _ _ (by kernel_rfl) rfl rfl
      have e5 : a.tmps[160]?.getD undef = _ := (Array.getD_eq_getD_getElem? ..).symm.trans d5
      rw [if_pos (wanted_none rfl)]
      refine grow_same (v := .bool false) ?_ rfl
      clear old dep ho hsz hb
      go_simp
    | i + 7, ho => exact absurd ho (by simp)
  · intro a w1 hb hsz hdf fin keep
    have kptm2 : Keeps SW tm a.tmps := Keeps.region hsz keep (by kernel_rfl) (by dsimp only; repeat (first | (with_reducible exact Keeps.refl _ _) | ((with_reducible refine Keeps.put ?_ ?_ _); rfl)))
    have hstm2 : a.tmps.size = 264 := hsz.trans (by simp [hs, k3, k4, k5, k7, k9, k10, ptr])
    have vtm2_3 : a.tmps[3]? = some (ptr d) := slot_get ((keep 3 (by kernel_rfl)).trans (by simp [Array.getD_eq_getD_getElem?, hs, k3, k4, k5, k7, k9, k10, ptr])) (by omega)
    have vtm2_4 : a.tmps[4]? = some (ptr gm) := slot_get ((keep 4 (by kernel_rfl)).trans (by simp [Array.getD_eq_getD_getElem?, hs, k3, k4, k5, k7, k9, k10, ptr])) (by omega)
    have vtm2_5 : a.tmps[5]? = some (.int .i64 (n : Int)) := slot_get ((keep 5 (by kernel_rfl)).trans (by simp [Array.getD_eq_getD_getElem?, hs, k3, k4, k5, k7, k9, k10, ptr])) (by omega)
    have vtm2_7 : a.tmps[7]? = some (ptr bx) := slot_get ((keep 7 (by kernel_rfl)).trans (by simp [Array.getD_eq_getD_getElem?, hs, k3, k4, k5, k7, k9, k10, ptr])) (by omega)
    have vtm2_9 : a.tmps[9]? = some (.int .i64 (rn : Int)) := slot_get ((keep 9 (by kernel_rfl)).trans (by simp [Array.getD_eq_getD_getElem?, hs, k3, k4, k5, k7, k9, k10, ptr])) (by omega)
    have vtm2_10 : a.tmps[10]? = some (.int .i64 s) := slot_get ((keep 10 (by kernel_rfl)).trans (by simp [Array.getD_eq_getD_getElem?, hs, k3, k4, k5, k7, k9, k10, ptr])) (by omega)
    have vtm2_12 : a.tmps[12]? = some (.int .i64 0) := slot_get ((keep 12 (by kernel_rfl)).trans (by simp [Array.getD_eq_getD_getElem?, hs, k3, k4, k5, k7, k9, k10, ptr])) (by omega)
    have vtm2_154 : a.tmps[154]? = some (.bool false) := slot_get (fin 6 _ _ rfl rfl) (by omega)
    obtain ⟨tm2, df⟩ := a
    dsimp only at hdf hsz kptm2 hstm2 vtm2_3 vtm2_4 vtm2_5 vtm2_7 vtm2_9 vtm2_10 vtm2_12 vtm2_154
    subst hdf
    clear fin keep hsz
    have y3 := slot_at vtm2_3 (by omega)
    have y4 := slot_at vtm2_4 (by omega)
    have y5 := slot_at vtm2_5 (by omega)
    have y7 := slot_at vtm2_7 (by omega)
    have y9 := slot_at vtm2_9 (by omega)
    have y10 := slot_at vtm2_10 (by omega)
    have y12 := slot_at vtm2_12 (by omega)
    have y154 := slot_at vtm2_154 (by omega)
    unfold ptr at y4 y7
    have hx := h.below hb
    obtain ⟨d0, d1, d2, d3, d4⟩ := hx.cells
    clear hb
    go_upto_if 154 with fail
    refine wp_cond_false (by simp [Act.eval, hstm2, y154]) ?_
    have hlf := hx.md.blk.cell _ _ (h.md.lefts rn hr)
    have hr0 : (0 : Int) ≤ (rn : Int) := by omega
    have hr3 : (rn : Int) < 3 := by omega
    go_upto_if 161 with fail
    refine wp_cond_false (by simp [Act.eval, hstm2, HNZ.out]) ?_
    have hkeep := rn_keep hx.md hx.many (.inl (.inr (.inl rfl))) hx.le hx.gmlo 18446744073709551615 hr (hx.tie.fit rn hr) (hx.tie.secs hr) (Nat.le_trans (hx.tie.len rn hr) hk)
    have hsx := hx.tie
    go_upto_if 173 with (first
      | (go_at_call 7; refine hkeep.mono ?_; rintro e w3 ⟨rfl, ⟨PC3, hmd3⟩, hmany3, hle3, _⟩; have hcall := rn_barrier_ok hsx hr hd hmany3 (fun g hg => .inl (mx_none hg)) hle3 hmd3)
      | (go_at_call 8; refine hcall.mono ?_; rintro e w4 ⟨rfl, D4, dat4, wt4, hS⟩))
    refine wp_cond_false (by simp [Act.eval, hstm2]) ?_
    go_wp2
    exact hK _ _ _ _ _ _ _ _ _ (by repeat (first | (with_reducible exact kptm2) | ((with_reducible refine Keeps.put ?_ ?_ _); rfl))) (by simp [hstm2, y5]) hS
end Go.Proofs.Ythlclhfepnmaeaa
