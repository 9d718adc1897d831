/-
  The walk of DiskRuns: its pieces, the switch.
-/
import Derived.Test.YthlclhfepnmaeaaRunsL
import Derived.Test.YthlclhfepnmaeaaPlain
import Derived.Deep.DeepCutAuto
import Derived.Deep.CutBlock
import Derived.Deep.CutRange
namespace Go.Proofs.Ythlclhfepnmaeaa
open Go.RowKit
set_option linter.unusedSimpArgs false
set_option linter.unusedVariables false

def SW (t : Nat) : Bool := t == 5 || (decide (11 ≤ t) && decide (t ≤ 15)) || (decide (66 ≤ t) && decide (t ≤ 212))
set_option maxHeartbeats 2000000 in
theorem sw_write_none {w0 w : World} {gm d bx n k : Nat} {D : Ds} {PC : Array Value} {dat : Nat → Nat → List UInt8} {wt : Nat → List CallD} {lf : Nat → Int} {vs : Nat → Value} {kd r s : Int} {A : Option Addr} {m c : Nat} {l : List UInt8} {mask : Nat} (h : SB w0 w gm d bx n k D PC dat wt lf vs kd r s A m c l mask) (hk : k ≤ 200) (hbad : ¬ (0 ≤ r ∧ r < 3 ∧ 0 ≤ s ∧ s < 8)) {tm : Array Value} (hs : tm.size = 264) (f3 : tm[3]? = some (ptr d)) (f4 : tm[4]? = some (ptr gm)) (f5 : tm[5]? = some (.int .i64 (n : Int))) (f7 : tm[7]? = some (ptr bx)) (f9 : tm[9]? = some (.int .i64 r)) (f10 : tm[10]? = some (.int .i64 s)) (f8 : tm[8]? = some (.bool false)) (f89 : tm[89]? = some (.bool true)) {Q : Exit → Act → World → Prop} (hK : ∀ (tm' : Array Value) w' (n' : Nat) D PC dat wt lf vs, Keeps SW tm tm' → tm'[5]? = some (.int .i64 (n' : Int)) → St w0 w' gm d n' (k + 1) D PC dat wt lf vs → Q .normal ⟨tm', []⟩ w') :
    Code.wp Try.prog (subC (Try.f3.body.getD .skip) [1,1,1,1,1,1,0,1,0,0,1,1,0,0,1,1,1,1,0,1,0,1]) Q ⟨tm, []⟩ w := by
  conv => arg 2; whnf
  have k3 := slot_at f3 (by omega)
  have k4 := slot_at f4 (by omega)
  have k5 := slot_at f5 (by omega)
  have k7 := slot_at f7 (by omega)
  have k9 := slot_at f9 (by omega)
  have k10 := slot_at f10 (by omega)
  obtain ⟨c0, c1, c2, c3, c4⟩ := h.cells
  clear f3 f4 f5 f7 f9 f10
  unfold ptr at k4 k7
  have k89 := slot_at f89 (by omega)
  have k8 := slot_at f8 (by omega)
  have HC3 := hide c3
  have HBL := hide h.box.lt
  refine wp_cond_true (by simp [Act.eval, k89, hs]) ?_
  go_upto_region 25 with fail
  refine region_grows_p 264 (by simp [hs, k3, k4, k5, k7, k8, k9, k10, ptr]) [Say.is (.bool false), Say.is (.bool true), Say.is (.bool true), Say.is (undef), Say.is (undef), Say.is (undef), Say.is (undef), Say.is (.bool true), Say.is (.bool true)] (by kernel_rfl) (by kernel_rfl) (by kernel_rfl) ?_ ?_
  · intro i o ho a w2 hb hsz old dep
    match i, ho with
    | 0, ho =>
      obtain rfl := Option.some.inj ho
      have o8 : a.tmps.getD 8 undef = .bool false := (old 8 (by kernel_rfl)).trans (by simp [Array.getD_eq_getD_getElem?, hs, k3, k4, k5, k7, k8, k9, k10, ptr])
      have oe8 : a.tmps[8]?.getD undef = _ := (Array.getD_eq_getD_getElem? ..).symm.trans o8
      rw [if_pos (wanted_none rfl)]
      refine grow_same (v := .bool false) ?_ rfl
      clear old dep ho hsz hb
      go_simp
    | 1, ho =>
      obtain rfl := Option.some.inj ho
      have d0 : a.tmps.getD 125 undef = .bool false := dep 0 _ _ (by kernel_rfl) rfl rfl
      have e0 : a.tmps[125]?.getD undef = _ := (Array.getD_eq_getD_getElem? ..).symm.trans d0
      rw [if_pos (wanted_none rfl)]
      refine grow_same (v := .bool true) ?_ rfl
      clear old dep ho hsz hb
      go_simp
    | 2, ho =>
      obtain rfl := Option.some.inj ho
      have d1 : a.tmps.getD 126 undef = .bool true := dep 1 _ _ (by kernel_rfl) rfl rfl
      have e1 : a.tmps[126]?.getD undef = _ := (Array.getD_eq_getD_getElem? ..).symm.trans d1
      rw [if_pos (wanted_none rfl)]
      refine grow_same (v := .bool true) ?_ rfl
      clear old dep ho hsz hb
      go_simp
    | 3, ho =>
      obtain rfl := Option.some.inj ho
      have d2 : a.tmps.getD 127 undef = .bool true := dep 2 _ _ (by kernel_rfl) rfl rfl
      have e2 : a.tmps[127]?.getD undef = _ := (Array.getD_eq_getD_getElem? ..).symm.trans d2
      rw [if_neg (wanted_not rfl rfl rfl (by rw [hsz]; simp [hs, k3, k4, k5, k7, k8, k9, k10, ptr]) d2 rfl)]
      exact rfl
    | 4, ho =>
      obtain rfl := Option.some.inj ho
      have d2 : a.tmps.getD 127 undef = .bool true := dep 2 _ _ (by kernel_rfl) rfl rfl
      have e2 : a.tmps[127]?.getD undef = _ := (Array.getD_eq_getD_getElem? ..).symm.trans d2
      rw [if_neg (wanted_not rfl rfl rfl (by rw [hsz]; simp [hs, k3, k4, k5, k7, k8, k9, k10, ptr]) d2 rfl)]
      exact rfl
    | 5, ho =>
      obtain rfl := Option.some.inj ho
      have d2 : a.tmps.getD 127 undef = .bool true := dep 2 _ _ (by kernel_rfl) rfl rfl
      have e2 : a.tmps[127]?.getD undef = _ := (Array.getD_eq_getD_getElem? ..).symm.trans d2
      rw [if_neg (wanted_not rfl rfl rfl (by rw [hsz]; simp [hs, k3, k4, k5, k7, k8, k9, k10, ptr]) d2 rfl)]
      exact rfl
    | 6, ho =>
      obtain rfl := Option.some.inj ho
      have d2 : a.tmps.getD 127 undef = .bool true := dep 2 _ _ (by kernel_rfl) rfl rfl
      have e2 : a.tmps[127]?.getD undef = _ := (Array.getD_eq_getD_getElem? ..).symm.trans d2
      rw [if_neg (wanted_not rfl rfl rfl (by rw [hsz]; simp [hs, k3, k4, k5, k7, k8, k9, k10, ptr]) d2 rfl)]
      exact rfl
    | 7, ho =>
      obtain rfl := Option.some.inj ho
      have d2 : a.tmps.getD 127 undef = .bool true := dep 2 _ _ (by kernel_rfl) rfl rfl
      have e2 : a.tmps[127]?.getD undef = _ := (Array.getD_eq_getD_getElem? ..).symm.trans d2
      have d6 : a.tmps.getD 131 undef = undef := dep 6 _ _ (by kernel_rfl) rfl rfl
      have e6 : a.tmps[131]?.getD undef = _ := (Array.getD_eq_getD_getElem? ..).symm.trans d6
      rw [if_pos (wanted_none rfl)]
      refine grow_same (v := .bool true) ?_ rfl
      clear old dep ho hsz hb
      go_simp
    | 8, ho =>
      obtain rfl := Option.some.inj ho
      have d7 : a.tmps.getD 132 undef = .bool true := dep 7 _ _ (by kernel_rfl) rfl rfl
      have e7 : a.tmps[132]?.getD undef = _ := (Array.getD_eq_getD_getElem? ..).symm.trans d7
      rw [if_pos (wanted_none rfl)]
      refine grow_same (v := .bool true) ?_ rfl
      clear old dep ho hsz hb
      go_simp
    | i + 9, ho => exact absurd ho (by simp)
  · intro a w1 hb hsz hdf fin keep
    have kptm2 : Keeps SW tm a.tmps := Keeps.region hsz keep (by kernel_rfl) (by dsimp only; repeat (first | (with_reducible exact Keeps.refl _ _) | ((with_reducible refine Keeps.put ?_ ?_ _); rfl)))
    have hstm2 : a.tmps.size = 264 := hsz.trans (by simp [hs, k3, k4, k5, k7, k8, k9, k10, ptr])
    have vtm2_3 : a.tmps[3]? = some (ptr d) := slot_get ((keep 3 (by kernel_rfl)).trans (by simp [Array.getD_eq_getD_getElem?, hs, k3, k4, k5, k7, k8, k9, k10, ptr])) (by omega)
    have vtm2_4 : a.tmps[4]? = some (ptr gm) := slot_get ((keep 4 (by kernel_rfl)).trans (by simp [Array.getD_eq_getD_getElem?, hs, k3, k4, k5, k7, k8, k9, k10, ptr])) (by omega)
    have vtm2_5 : a.tmps[5]? = some (.int .i64 (n : Int)) := slot_get ((keep 5 (by kernel_rfl)).trans (by simp [Array.getD_eq_getD_getElem?, hs, k3, k4, k5, k7, k8, k9, k10, ptr])) (by omega)
    have vtm2_7 : a.tmps[7]? = some (ptr bx) := slot_get ((keep 7 (by kernel_rfl)).trans (by simp [Array.getD_eq_getD_getElem?, hs, k3, k4, k5, k7, k8, k9, k10, ptr])) (by omega)
    have vtm2_9 : a.tmps[9]? = some (.int .i64 r) := slot_get ((keep 9 (by kernel_rfl)).trans (by simp [Array.getD_eq_getD_getElem?, hs, k3, k4, k5, k7, k8, k9, k10, ptr])) (by omega)
    have vtm2_10 : a.tmps[10]? = some (.int .i64 s) := slot_get ((keep 10 (by kernel_rfl)).trans (by simp [Array.getD_eq_getD_getElem?, hs, k3, k4, k5, k7, k8, k9, k10, ptr])) (by omega)
    have vtm2_11 : a.tmps[11]? = some (.int .i64 0) := slot_get ((keep 11 (by kernel_rfl)).trans (by simp [Array.getD_eq_getD_getElem?, hs, k3, k4, k5, k7, k8, k9, k10, ptr])) (by omega)
    have vtm2_124 : a.tmps[124]? = some (.bool true) := slot_get (fin 8 _ _ rfl rfl) (by omega)
    obtain ⟨tm2, df⟩ := a
    dsimp only at hdf hsz kptm2 hstm2 vtm2_3 vtm2_4 vtm2_5 vtm2_7 vtm2_9 vtm2_10 vtm2_11 vtm2_124
    subst hdf
    clear fin keep hsz
    have y3 := slot_at vtm2_3 (by omega)
    have y4 := slot_at vtm2_4 (by omega)
    have y5 := slot_at vtm2_5 (by omega)
    have y7 := slot_at vtm2_7 (by omega)
    have y9 := slot_at vtm2_9 (by omega)
    have y10 := slot_at vtm2_10 (by omega)
    have y11 := slot_at vtm2_11 (by omega)
    have y124 := slot_at vtm2_124 (by omega)
    unfold ptr at y4 y7
    have hx := h.below hb
    obtain ⟨d0, d1, d2, d3, d4⟩ := hx.cells
    clear hb
    go_upto_if 124 with fail
    refine wp_cond_true (by simp [Act.eval, hstm2, y124]) ?_
    go_upto_if 148 with (go_at_call 6; refine (rn_write_bad hx hk (.inl hbad)).mono ?_; rintro e w2 ⟨rfl, hS⟩)
    refine wp_cond_false (by simp [Act.eval, hstm2]) ?_
    go_wp2
    exact hK _ _ _ _ _ _ _ _ _ (by repeat (first | (with_reducible exact kptm2) | ((with_reducible refine Keeps.put ?_ ?_ _); rfl))) (by simp [hstm2, y5]) hS
set_option maxHeartbeats 2000000 in
theorem sw_write_long {w0 w : World} {gm d bx n k : Nat} {D : Ds} {PC : Array Value} {dat : Nat → Nat → List UInt8} {wt : Nat → List CallD} {lf : Nat → Int} {vs : Nat → Value} {kd r s : Int} {A : Option Addr} {m c : Nat} {l : List UInt8} {mask : Nat} (h : SB w0 w gm d bx n k D PC dat wt lf vs kd r s A m c l mask) (hk : k ≤ 200) (hbad : 64 < m) {tm : Array Value} (hs : tm.size = 264) (f3 : tm[3]? = some (ptr d)) (f4 : tm[4]? = some (ptr gm)) (f5 : tm[5]? = some (.int .i64 (n : Int))) (f7 : tm[7]? = some (ptr bx)) (f9 : tm[9]? = some (.int .i64 r)) (f10 : tm[10]? = some (.int .i64 s)) (f8 : tm[8]? = some (.bool true)) (f89 : tm[89]? = some (.bool true)) {Q : Exit → Act → World → Prop} (hK : ∀ (tm' : Array Value) w' (n' : Nat) D PC dat wt lf vs, Keeps SW tm tm' → tm'[5]? = some (.int .i64 (n' : Int)) → St w0 w' gm d n' (k + 1) D PC dat wt lf vs → Q .normal ⟨tm', []⟩ w') :
    Code.wp Try.prog (subC (Try.f3.body.getD .skip) [1,1,1,1,1,1,0,1,0,0,1,1,0,0,1,1,1,1,0,1,0,1]) Q ⟨tm, []⟩ w := by
  conv => arg 2; whnf
  have k3 := slot_at f3 (by omega)
  have k4 := slot_at f4 (by omega)
  have k5 := slot_at f5 (by omega)
  have k7 := slot_at f7 (by omega)
  have k9 := slot_at f9 (by omega)
  have k10 := slot_at f10 (by omega)
  obtain ⟨c0, c1, c2, c3, c4⟩ := h.cells
  clear f3 f4 f5 f7 f9 f10
  unfold ptr at k4 k7
  have HMM := hide (show decide ((64 : Int) < (m : Int)) = true by simp; omega)
  have k89 := slot_at f89 (by omega)
  have k8 := slot_at f8 (by omega)
  have HC3 := hide c3
  have HBL := hide h.box.lt
  refine wp_cond_true (by simp [Act.eval, k89, hs]) ?_
  go_upto_region 25 with fail
  refine region_grows_p 264 (by simp [hs, k3, k4, k5, k7, k8, k9, k10, ptr]) [Say.is (.bool true), Say.is (.bool false), Say.is (.bool false), Say.is (.pointer (some ⟨bx, 3, none⟩)), Say.is (.slice A m c), Say.is (.int .i64 (m : Int)), Say.is (.bool true), Say.is (.bool true), Say.is (.bool true)] (by kernel_rfl) (by kernel_rfl) (by kernel_rfl) ?_ ?_
  · intro i o ho a w2 hb hsz old dep
    match i, ho with
    | 0, ho =>
      obtain rfl := Option.some.inj ho
      have o8 : a.tmps.getD 8 undef = .bool true := (old 8 (by kernel_rfl)).trans (by simp [Array.getD_eq_getD_getElem?, hs, k3, k4, k5, k7, k8, k9, k10, ptr])
      have oe8 : a.tmps[8]?.getD undef = _ := (Array.getD_eq_getD_getElem? ..).symm.trans o8
      rw [if_pos (wanted_none rfl)]
      refine grow_same (v := .bool true) ?_ rfl
      clear old dep ho hsz hb
      go_simp
    | 1, ho =>
      obtain rfl := Option.some.inj ho
      have d0 : a.tmps.getD 125 undef = .bool true := dep 0 _ _ (by kernel_rfl) rfl rfl
      have e0 : a.tmps[125]?.getD undef = _ := (Array.getD_eq_getD_getElem? ..).symm.trans d0
      rw [if_pos (wanted_none rfl)]
      refine grow_same (v := .bool false) ?_ rfl
      clear old dep ho hsz hb
      go_simp
    | 2, ho =>
      obtain rfl := Option.some.inj ho
      have d1 : a.tmps.getD 126 undef = .bool false := dep 1 _ _ (by kernel_rfl) rfl rfl
      have e1 : a.tmps[126]?.getD undef = _ := (Array.getD_eq_getD_getElem? ..).symm.trans d1
      rw [if_pos (wanted_none rfl)]
      refine grow_same (v := .bool false) ?_ rfl
      clear old dep ho hsz hb
      go_simp
    | 3, ho =>
      obtain rfl := Option.some.inj ho
      have o7 : a.tmps.getD 7 undef = .pointer (some ⟨bx, 0, none⟩) := (old 7 (by kernel_rfl)).trans (by simp [Array.getD_eq_getD_getElem?, hs, k3, k4, k5, k7, k8, k9, k10, ptr])
      have oe7 : a.tmps[7]?.getD undef = _ := (Array.getD_eq_getD_getElem? ..).symm.trans o7
      have d2 : a.tmps.getD 127 undef = .bool false := dep 2 _ _ (by kernel_rfl) rfl rfl
      have e2 : a.tmps[127]?.getD undef = _ := (Array.getD_eq_getD_getElem? ..).symm.trans d2
      rw [if_pos (wanted_some rfl rfl rfl (by rw [hsz]; simp [hs, k3, k4, k5, k7, k8, k9, k10, ptr]) d2)]
      refine grow_same (v := .pointer (some ⟨bx, 3, none⟩)) ?_ rfl
      clear old dep ho hsz hb
      go_simp
    | 4, ho =>
      obtain rfl := Option.some.inj ho
      have d3 : a.tmps.getD 128 undef = .pointer (some ⟨bx, 3, none⟩) := dep 3 _ _ (by kernel_rfl) rfl rfl
      have e3 : a.tmps[128]?.getD undef = _ := (Array.getD_eq_getD_getElem? ..).symm.trans d3
      have d2 : a.tmps.getD 127 undef = .bool false := dep 2 _ _ (by kernel_rfl) rfl rfl
      have e2 : a.tmps[127]?.getD undef = _ := (Array.getD_eq_getD_getElem? ..).symm.trans d2
      rw [if_pos (wanted_some rfl rfl rfl (by rw [hsz]; simp [hs, k3, k4, k5, k7, k8, k9, k10, ptr]) d2)]
      have g0 := (hb.cell (p := ⟨bx, 3, none⟩) HBL.out).trans HC3.out
      refine grow_same (v := .slice A m c) ?_ rfl
      clear old dep ho hsz hb
      go_simp
    | 5, ho =>
      obtain rfl := Option.some.inj ho
      have d4 : a.tmps.getD 129 undef = .slice A m c := dep 4 _ _ (by kernel_rfl) rfl rfl
      have e4 : a.tmps[129]?.getD undef = _ := (Array.getD_eq_getD_getElem? ..).symm.trans d4
      have d2 : a.tmps.getD 127 undef = .bool false := dep 2 _ _ (by kernel_rfl) rfl rfl
      have e2 : a.tmps[127]?.getD undef = _ := (Array.getD_eq_getD_getElem? ..).symm.trans d2
      rw [if_pos (wanted_some rfl rfl rfl (by rw [hsz]; simp [hs, k3, k4, k5, k7, k8, k9, k10, ptr]) d2)]
      refine grow_same (v := .int .i64 (m : Int)) ?_ rfl
      clear old dep ho hsz hb
      go_simp
    | 6, ho =>
      obtain rfl := Option.some.inj ho
      have d5 : a.tmps.getD 130 undef = .int .i64 (m : Int) := dep 5 _ _ (by kernel_rfl) rfl rfl
      have e5 : a.tmps[130]?.getD undef = _ := (Array.getD_eq_getD_getElem? ..).symm.trans d5
      have d2 : a.tmps.getD 127 undef = .bool false := dep 2 _ _ (by kernel_rfl) rfl rfl
      have e2 : a.tmps[127]?.getD undef = _ := (Array.getD_eq_getD_getElem? ..).symm.trans d2
      rw [if_pos (wanted_some rfl rfl rfl (by rw [hsz]; simp [hs, k3, k4, k5, k7, k8, k9, k10, ptr]) d2)]
      have hmm := HMM.out
      refine grow_same (v := .bool true) ?_ rfl
      clear old dep ho hsz hb
      go_simp
    | 7, ho =>
      obtain rfl := Option.some.inj ho
      have d2 : a.tmps.getD 127 undef = .bool false := dep 2 _ _ (by kernel_rfl) rfl rfl
      have e2 : a.tmps[127]?.getD undef = _ := (Array.getD_eq_getD_getElem? ..).symm.trans d2
      have d6 : a.tmps.getD 131 undef = .bool true := dep 6 _ _ (by kernel_rfl) rfl rfl
      have e6 : a.tmps[131]?.getD undef = _ := (Array.getD_eq_getD_getElem? ..).symm.trans d6
      rw [if_pos (wanted_none rfl)]
      refine grow_same (v := .bool true) ?_ rfl
      clear old dep ho hsz hb
      go_simp
    | 8, ho =>
      obtain rfl := Option.some.inj ho
      have d7 : a.tmps.getD 132 undef = .bool true := dep 7 _ _ (by kernel_rfl) rfl rfl
      have e7 : a.tmps[132]?.getD undef = _ := (Array.getD_eq_getD_getElem? ..).symm.trans d7
      rw [if_pos (wanted_none rfl)]
      refine grow_same (v := .bool true) ?_ rfl
      clear old dep ho hsz hb
      go_simp
    | i + 9, ho => exact absurd ho (by simp)
  · intro a w1 hb hsz hdf fin keep
    have kptm2 : Keeps SW tm a.tmps := Keeps.region hsz keep (by kernel_rfl) (by dsimp only; repeat (first | (with_reducible exact Keeps.refl _ _) | ((with_reducible refine Keeps.put ?_ ?_ _); rfl)))
    have hstm2 : a.tmps.size = 264 := hsz.trans (by simp [hs, k3, k4, k5, k7, k8, k9, k10, ptr])
    have vtm2_3 : a.tmps[3]? = some (ptr d) := slot_get ((keep 3 (by kernel_rfl)).trans (by simp [Array.getD_eq_getD_getElem?, hs, k3, k4, k5, k7, k8, k9, k10, ptr])) (by omega)
    have vtm2_4 : a.tmps[4]? = some (ptr gm) := slot_get ((keep 4 (by kernel_rfl)).trans (by simp [Array.getD_eq_getD_getElem?, hs, k3, k4, k5, k7, k8, k9, k10, ptr])) (by omega)
    have vtm2_5 : a.tmps[5]? = some (.int .i64 (n : Int)) := slot_get ((keep 5 (by kernel_rfl)).trans (by simp [Array.getD_eq_getD_getElem?, hs, k3, k4, k5, k7, k8, k9, k10, ptr])) (by omega)
    have vtm2_7 : a.tmps[7]? = some (ptr bx) := slot_get ((keep 7 (by kernel_rfl)).trans (by simp [Array.getD_eq_getD_getElem?, hs, k3, k4, k5, k7, k8, k9, k10, ptr])) (by omega)
    have vtm2_9 : a.tmps[9]? = some (.int .i64 r) := slot_get ((keep 9 (by kernel_rfl)).trans (by simp [Array.getD_eq_getD_getElem?, hs, k3, k4, k5, k7, k8, k9, k10, ptr])) (by omega)
    have vtm2_10 : a.tmps[10]? = some (.int .i64 s) := slot_get ((keep 10 (by kernel_rfl)).trans (by simp [Array.getD_eq_getD_getElem?, hs, k3, k4, k5, k7, k8, k9, k10, ptr])) (by omega)
    have vtm2_11 : a.tmps[11]? = some (.int .i64 0) := slot_get ((keep 11 (by kernel_rfl)).trans (by simp [Array.getD_eq_getD_getElem?, hs, k3, k4, k5, k7, k8, k9, k10, ptr])) (by omega)
    have vtm2_124 : a.tmps[124]? = some (.bool true) := slot_get (fin 8 _ _ rfl rfl) (by omega)
    obtain ⟨tm2, df⟩ := a
    dsimp only at hdf hsz kptm2 hstm2 vtm2_3 vtm2_4 vtm2_5 vtm2_7 vtm2_9 vtm2_10 vtm2_11 vtm2_124
    subst hdf
    clear fin keep hsz
    have y3 := slot_at vtm2_3 (by omega)
    have y4 := slot_at vtm2_4 (by omega)
    have y5 := slot_at vtm2_5 (by omega)
    have y7 := slot_at vtm2_7 (by omega)
    have y9 := slot_at vtm2_9 (by omega)
    have y10 := slot_at vtm2_10 (by omega)
    have y11 := slot_at vtm2_11 (by omega)
    have y124 := slot_at vtm2_124 (by omega)
    unfold ptr at y4 y7
    have hx := h.below hb
    obtain ⟨d0, d1, d2, d3, d4⟩ := hx.cells
    clear hb
    go_upto_if 124 with fail
    refine wp_cond_true (by simp [Act.eval, hstm2, y124]) ?_
    go_upto_if 148 with (go_at_call 6; refine (rn_write_bad hx hk (.inr hbad)).mono ?_; rintro e w2 ⟨rfl, hS⟩)
    refine wp_cond_false (by simp [Act.eval, hstm2]) ?_
    go_wp2
    exact hK _ _ _ _ _ _ _ _ _ (by repeat (first | (with_reducible exact kptm2) | ((with_reducible refine Keeps.put ?_ ?_ _); rfl))) (by simp [hstm2, y5]) hS
set_option maxHeartbeats 2000000 in
theorem sw_write_down {w0 w : World} {gm d bx n k : Nat} {D : Ds} {PC : Array Value} {dat : Nat → Nat → List UInt8} {wt : Nat → List CallD} {lf : Nat → Int} {vs : Nat → Value} {kd s : Int} {rn : Nat} {A : Option Addr} {m c : Nat} {l : List UInt8} {mask : Nat} (h : SB w0 w gm d bx n k D PC dat wt lf vs kd (rn : Int) s A m c l mask) (hk : k ≤ 200) (hr : rn < 3) (hss : 0 ≤ s ∧ s < 8) (hm : m ≤ 64) (hd : lf rn = 0) {tm : Array Value} (hs : tm.size = 264) (f3 : tm[3]? = some (ptr d)) (f4 : tm[4]? = some (ptr gm)) (f5 : tm[5]? = some (.int .i64 (n : Int))) (f7 : tm[7]? = some (ptr bx)) (f9 : tm[9]? = some (.int .i64 (rn : Int))) (f10 : tm[10]? = some (.int .i64 s)) (f8 : tm[8]? = some (.bool true)) (f89 : tm[89]? = some (.bool true)) {Q : Exit → Act → World → Prop} (hK : ∀ (tm' : Array Value) w' (n' : Nat) D PC dat wt lf vs, Keeps SW tm tm' → tm'[5]? = some (.int .i64 (n' : Int)) → St w0 w' gm d n' (k + 1) D PC dat wt lf vs → Q .normal ⟨tm', []⟩ w') :
    Code.wp Try.prog (subC (Try.f3.body.getD .skip) [1,1,1,1,1,1,0,1,0,0,1,1,0,0,1,1,1,1,0,1,0,1]) Q ⟨tm, []⟩ w := by
  conv => arg 2; whnf
  have k3 := slot_at f3 (by omega)
  have k4 := slot_at f4 (by omega)
  have k5 := slot_at f5 (by omega)
  have k7 := slot_at f7 (by omega)
  have k9 := slot_at f9 (by omega)
  have k10 := slot_at f10 (by omega)
  obtain ⟨c0, c1, c2, c3, c4⟩ := h.cells
  clear f3 f4 f5 f7 f9 f10
  unfold ptr at k4 k7
  have HMM := hide (show decide ((64 : Int) < (m : Int)) = false by simp; omega)
  have k89 := slot_at f89 (by omega)
  have k8 := slot_at f8 (by omega)
  have HC3 := hide c3
  have HBL := hide h.box.lt
  refine wp_cond_true (by simp [Act.eval, k89, hs]) ?_
  go_upto_region 25 with fail
  refine region_grows_p 264 (by simp [hs, k3, k4, k5, k7, k8, k9, k10, ptr]) [Say.is (.bool true), Say.is (.bool false), Say.is (.bool false), Say.is (.pointer (some ⟨bx, 3, none⟩)), Say.is (.slice A m c), Say.is (.int .i64 (m : Int)), Say.is (.bool false), Say.is (.bool false), Say.is (.bool false)] (by kernel_rfl) (by kernel_rfl) (by kernel_rfl) ?_ ?_
  · intro i o ho a w2 hb hsz old dep
    match i, ho with
    | 0, ho =>
      obtain rfl := Option.some.inj ho
      have o8 : a.tmps.getD 8 undef = .bool true := (old 8 (by kernel_rfl)).trans (by simp [Array.getD_eq_getD_getElem?, hs, k3, k4, k5, k7, k8, k9, k10, ptr])
      have oe8 : a.tmps[8]?.getD undef = _ := (Array.getD_eq_getD_getElem? ..).symm.trans o8
      rw [if_pos (wanted_none rfl)]
      refine grow_same (v := .bool true) ?_ rfl
      clear old dep ho hsz hb
      go_simp
    | 1, ho =>
      obtain rfl := Option.some.inj ho
      have d0 : a.tmps.getD 125 undef = .bool true := dep 0 _ _ (by kernel_rfl) rfl rfl
      have e0 : a.tmps[125]?.getD undef = _ := (Array.getD_eq_getD_getElem? ..).symm.trans d0
      rw [if_pos (wanted_none rfl)]
      refine grow_same (v := .bool false) ?_ rfl
      clear old dep ho hsz hb
      go_simp
    | 2, ho =>
      obtain rfl := Option.some.inj ho
      have d1 : a.tmps.getD 126 undef = .bool false := dep 1 _ _ (by kernel_rfl) rfl rfl
      have e1 : a.tmps[126]?.getD undef = _ := (Array.getD_eq_getD_getElem? ..).symm.trans d1
      rw [if_pos (wanted_none rfl)]
      refine grow_same (v := .bool false) ?_ rfl
      clear old dep ho hsz hb
      go_simp
    | 3, ho =>
      obtain rfl := Option.some.inj ho
      have o7 : a.tmps.getD 7 undef = .pointer (some ⟨bx, 0, none⟩) := (old 7 (by kernel_rfl)).trans (by simp [Array.getD_eq_getD_getElem?, hs, k3, k4, k5, k7, k8, k9, k10, ptr])
      have oe7 : a.tmps[7]?.getD undef = _ := (Array.getD_eq_getD_getElem? ..).symm.trans o7
      have d2 : a.tmps.getD 127 undef = .bool false := dep 2 _ _ (by kernel_rfl) rfl rfl
      have e2 : a.tmps[127]?.getD undef = _ := (Array.getD_eq_getD_getElem? ..).symm.trans d2
      rw [if_pos (wanted_some rfl rfl rfl (by rw [hsz]; simp [hs, k3, k4, k5, k7, k8, k9, k10, ptr]) d2)]
      refine grow_same (v := .pointer (some ⟨bx, 3, none⟩)) ?_ rfl
      clear old dep ho hsz hb
      go_simp
    | 4, ho =>
      obtain rfl := Option.some.inj ho
      have d3 : a.tmps.getD 128 undef = .pointer (some ⟨bx, 3, none⟩) := dep 3 _ _ (by kernel_rfl) rfl rfl
      have e3 : a.tmps[128]?.getD undef = _ := (Array.getD_eq_getD_getElem? ..).symm.trans d3
      have d2 : a.tmps.getD 127 undef = .bool false := dep 2 _ _ (by kernel_rfl) rfl rfl
      have e2 : a.tmps[127]?.getD undef = _ := (Array.getD_eq_getD_getElem? ..).symm.trans d2
      rw [if_pos (wanted_some rfl rfl rfl (by rw [hsz]; simp [hs, k3, k4, k5, k7, k8, k9, k10, ptr]) d2)]
      have g0 := (hb.cell (p := ⟨bx, 3, none⟩) HBL.out).trans HC3.out
      refine grow_same (v := .slice A m c) ?_ rfl
      clear old dep ho hsz hb
      go_simp
    | 5, ho =>
      obtain rfl := Option.some.inj ho
      have d4 : a.tmps.getD 129 undef = .slice A m c := dep 4 _ _ (by kernel_rfl) rfl rfl
      have e4 : a.tmps[129]?.getD undef = _ := (Array.getD_eq_getD_getElem? ..).symm.trans d4
      have d2 : a.tmps.getD 127 undef = .bool false := dep 2 _ _ (by kernel_rfl) rfl rfl
      have e2 : a.tmps[127]?.getD undef = _ := (Array.getD_eq_getD_getElem? ..).symm.trans d2
      rw [if_pos (wanted_some rfl rfl rfl (by rw [hsz]; simp [hs, k3, k4, k5, k7, k8, k9, k10, ptr]) d2)]
      refine grow_same (v := .int .i64 (m : Int)) ?_ rfl
      clear old dep ho hsz hb
      go_simp
    | 6, ho =>
      obtain rfl := Option.some.inj ho
      have d5 : a.tmps.getD 130 undef = .int .i64 (m : Int) := dep 5 _ _ (by kernel_rfl) rfl rfl
      have e5 : a.tmps[130]?.getD undef = _ := (Array.getD_eq_getD_getElem? ..).symm.trans d5
      have d2 : a.tmps.getD 127 undef = .bool false := dep 2 _ _ (by kernel_rfl) rfl rfl
      have e2 : a.tmps[127]?.getD undef = _ := (Array.getD_eq_getD_getElem? ..).symm.trans d2
      rw [if_pos (wanted_some rfl rfl rfl (by rw [hsz]; simp [hs, k3, k4, k5, k7, k8, k9, k10, ptr]) d2)]
      have hmm := HMM.out
      refine grow_same (v := .bool false) ?_ rfl
      clear old dep ho hsz hb
      go_simp
    | 7, ho =>
      obtain rfl := Option.some.inj ho
      have d2 : a.tmps.getD 127 undef = .bool false := dep 2 _ _ (by kernel_rfl) rfl rfl
      have e2 : a.tmps[127]?.getD undef = _ := (Array.getD_eq_getD_getElem? ..).symm.trans d2
      have d6 : a.tmps.getD 131 undef = .bool false := dep 6 _ _ (by kernel_rfl) rfl rfl
      have e6 : a.tmps[131]?.getD undef = _ := (Array.getD_eq_getD_getElem? ..).symm.trans d6
      rw [if_pos (wanted_none rfl)]
      refine grow_same (v := .bool false) ?_ rfl
      clear old dep ho hsz hb
      go_simp
    | 8, ho =>
      obtain rfl := Option.some.inj ho
      have d7 : a.tmps.getD 132 undef = .bool false := dep 7 _ _ (by kernel_rfl) rfl rfl
      have e7 : a.tmps[132]?.getD undef = _ := (Array.getD_eq_getD_getElem? ..).symm.trans d7
      rw [if_pos (wanted_none rfl)]
      refine grow_same (v := .bool false) ?_ rfl
      clear old dep ho hsz hb
      go_simp
    | i + 9, ho => exact absurd ho (by simp)
  · intro a w1 hb hsz hdf fin keep
    have kptm2 : Keeps SW tm a.tmps := Keeps.region hsz keep (by kernel_rfl) (by dsimp only; repeat (first | (with_reducible exact Keeps.refl _ _) | ((with_reducible refine Keeps.put ?_ ?_ _); rfl)))
    have hstm2 : a.tmps.size = 264 := hsz.trans (by simp [hs, k3, k4, k5, k7, k8, k9, k10, ptr])
    have vtm2_3 : a.tmps[3]? = some (ptr d) := slot_get ((keep 3 (by kernel_rfl)).trans (by simp [Array.getD_eq_getD_getElem?, hs, k3, k4, k5, k7, k8, k9, k10, ptr])) (by omega)
    have vtm2_4 : a.tmps[4]? = some (ptr gm) := slot_get ((keep 4 (by kernel_rfl)).trans (by simp [Array.getD_eq_getD_getElem?, hs, k3, k4, k5, k7, k8, k9, k10, ptr])) (by omega)
    have vtm2_5 : a.tmps[5]? = some (.int .i64 (n : Int)) := slot_get ((keep 5 (by kernel_rfl)).trans (by simp [Array.getD_eq_getD_getElem?, hs, k3, k4, k5, k7, k8, k9, k10, ptr])) (by omega)
    have vtm2_7 : a.tmps[7]? = some (ptr bx) := slot_get ((keep 7 (by kernel_rfl)).trans (by simp [Array.getD_eq_getD_getElem?, hs, k3, k4, k5, k7, k8, k9, k10, ptr])) (by omega)
    have vtm2_9 : a.tmps[9]? = some (.int .i64 (rn : Int)) := slot_get ((keep 9 (by kernel_rfl)).trans (by simp [Array.getD_eq_getD_getElem?, hs, k3, k4, k5, k7, k8, k9, k10, ptr])) (by omega)
    have vtm2_10 : a.tmps[10]? = some (.int .i64 s) := slot_get ((keep 10 (by kernel_rfl)).trans (by simp [Array.getD_eq_getD_getElem?, hs, k3, k4, k5, k7, k8, k9, k10, ptr])) (by omega)
    have vtm2_11 : a.tmps[11]? = some (.int .i64 0) := slot_get ((keep 11 (by kernel_rfl)).trans (by simp [Array.getD_eq_getD_getElem?, hs, k3, k4, k5, k7, k8, k9, k10, ptr])) (by omega)
    have vtm2_124 : a.tmps[124]? = some (.bool false) := slot_get (fin 8 _ _ rfl rfl) (by omega)
    obtain ⟨tm2, df⟩ := a
    dsimp only at hdf hsz kptm2 hstm2 vtm2_3 vtm2_4 vtm2_5 vtm2_7 vtm2_9 vtm2_10 vtm2_11 vtm2_124
    subst hdf
    clear fin keep hsz
    have y3 := slot_at vtm2_3 (by omega)
    have y4 := slot_at vtm2_4 (by omega)
    have y5 := slot_at vtm2_5 (by omega)
    have y7 := slot_at vtm2_7 (by omega)
    have y9 := slot_at vtm2_9 (by omega)
    have y10 := slot_at vtm2_10 (by omega)
    have y11 := slot_at vtm2_11 (by omega)
    have y124 := slot_at vtm2_124 (by omega)
    unfold ptr at y4 y7
    have hx := h.below hb
    obtain ⟨d0, d1, d2, d3, d4⟩ := hx.cells
    clear hb
    go_upto_if 124 with fail
    refine wp_cond_false (by simp [Act.eval, hstm2, y124]) ?_
    have hlf := hx.md.blk.cell _ _ (h.md.lefts rn hr)
    have hr0 : (0 : Int) ≤ (rn : Int) := by omega
    have hr3 : (rn : Int) < 3 := by omega
    rw [hd] at hlf
    go_upto_if 133 with fail
    refine wp_cond_true (by simp [Act.eval, hstm2]) ?_
    go_upto_if 148 with (go_at_call 6; refine (rn_write_down hx hk hr hss hm hd).mono ?_; rintro e w2 ⟨rfl, hS⟩)
    refine wp_cond_false (by simp [Act.eval, hstm2]) ?_
    go_wp2
    exact hK _ _ _ _ _ _ _ _ _ (by repeat (first | (with_reducible exact kptm2) | ((with_reducible refine Keeps.put ?_ ?_ _); rfl))) (by simp [hstm2, y5]) hS
end Go.Proofs.Ythlclhfepnmaeaa
