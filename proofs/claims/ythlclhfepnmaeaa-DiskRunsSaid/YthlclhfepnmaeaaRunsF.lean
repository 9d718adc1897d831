/-
  The walk of DiskRuns: its pieces, arming and reading.
-/
import Derived.Test.YthlclhfepnmaeaaRunsD
import Derived.Test.YthlclhfepnmaeaaRunsC
namespace Go.Proofs.Ythlclhfepnmaeaa
open Go.RowKit
set_option linter.unusedSimpArgs false
set_option linter.unusedVariables false

theorem rn_rd_none {w0 : World} {D : Ds} {dat : Nat → Nat → List UInt8} {wt : Nat → List CallD} {lf : Nat → Int} {n k : Nat} (h : Tie w0 D dat wt lf n k) {r s : Int} (hb : ¬ (0 ≤ r ∧ r < 3 ∧ 0 ≤ s ∧ s < 8)) : D.rd? r s = none := by
  by_cases hr : 0 ≤ r ∧ r < 3
  · obtain ⟨rn, rfl⟩ : ∃ q : Nat, r = (q : Int) := ⟨r.toNat, by omega⟩
    obtain ⟨rg, hat, _⟩ := h.is rn (by omega)
    have h8 := h.shape.2
    exact rd_bad hat (by omega)
  · exact rd_none (h.none_ (by omega))
set_option maxHeartbeats 2000000 in
theorem sw_arm_low {w0 w : World} {gm d bx n k : Nat} {D : Ds} {PC : Array Value} {dat : Nat → Nat → List UInt8} {wt : Nat → List CallD} {lf : Nat → Int} {vs : Nat → Value} {kd r s : Int} {A : Option Addr} {m c : Nat} {l : List UInt8} {mask : Nat} (h : SB w0 w gm d bx n k D PC dat wt lf vs kd r s A m c l mask) (hk : k ≤ 200) (hbad : r < 0) {tm : Array Value} (hs : tm.size = 264) (f3 : tm[3]? = some (ptr d)) (f4 : tm[4]? = some (ptr gm)) (f5 : tm[5]? = some (.int .i64 (n : Int))) (f7 : tm[7]? = some (ptr bx)) (f9 : tm[9]? = some (.int .i64 r)) (f10 : tm[10]? = some (.int .i64 s)) (f65 : tm[65]? = some (.int .i64 3)) (f89 : tm[89]? = some (.bool false)) {Q : Exit → Act → World → Prop} (hK : ∀ (tm' : Array Value) w' (n' : Nat) D PC dat wt lf vs, Keeps SW tm tm' → tm'[5]? = some (.int .i64 (n' : Int)) → St w0 w' gm d n' (k + 1) D PC dat wt lf vs → Q .normal ⟨tm', []⟩ w') :
    Code.wp Try.prog (subC (Try.f3.body.getD .skip) [1,1,1,1,1,1,0,1,0,0,1,1,0,0,1,1,1,1,0,1,0,1]) Q ⟨tm, []⟩ w := by
  conv => arg 2; whnf
  have k3 := slot_at f3 (by omega)
  have k4 := slot_at f4 (by omega)
  have k5 := slot_at f5 (by omega)
  have k7 := slot_at f7 (by omega)
  have k9 := slot_at f9 (by omega)
  have k10 := slot_at f10 (by omega)
  obtain ⟨c0, c1, c2, c3, c4⟩ := h.cells
  clear f3 f4 f5 f7 f9 f10
  unfold ptr at k4 k7
  have HR1 := hide (show decide (0 ≤ r) = false by simp <;> omega)
  have k89 := slot_at f89 (by omega)
  have k65 := slot_at f65 (by omega)
  clear f89 f65
  refine wp_cond_false (by simp [Act.eval, k89, hs]) ?_
  go_upto_if 149 with fail
  refine wp_cond_false (by simp [Act.eval, hs, k65]) ?_
  go_upto_if 174 with fail
  refine wp_cond_false (by simp [Act.eval, hs, k65]) ?_
  go_upto_if 194 with fail
  refine wp_cond_true (by simp [Act.eval, hs, k65]) ?_
  have hcall := rn_arm h
  have HTI := hide h.tie
  have HBX := hide h.box
  have HGZ := hide h.gmlo
  have hfit := h.fit.s
  dsimp only at hfit
  clear h c0 c1 c2 c3 c4
  go_upto_region 50 with (go_at_call 10; refine hcall.mono ?_; rintro e w2 ⟨rfl, hmd, hmany, hle⟩; have HMD := hide hmd; have HMN := hide hmany; have HLE := hide hle; clear hmd hmany hle)
  refine region_grows_p 264 (by simp [hs, k3, k4, k5, k7, k9, k10, ptr]) [Say.is (.int .i64 r), Say.is (.bool false), Say.is (.bool false), Say.is (undef), Say.is (undef), Say.is (.bool false)] (by kernel_rfl) (by kernel_rfl) (by kernel_rfl) ?_ ?_
  · intro i o ho a w2 hb hsz old dep
    match i, ho with
    | 0, ho =>
      obtain rfl := Option.some.inj ho
      have o9 : a.tmps.getD 9 undef = .int .i64 r := (old 9 (by kernel_rfl)).trans (by simp [Array.getD_eq_getD_getElem?, hs, k3, k4, k5, k7, k9, k10, ptr])
      have oe9 : a.tmps[9]?.getD undef = _ := (Array.getD_eq_getD_getElem? ..).symm.trans o9
      rw [if_pos (wanted_none rfl)]
      refine grow_same (v := .int .i64 r) ?_ rfl
      clear old dep ho hsz hb
      go_simp
    | 1, ho =>
      obtain rfl := Option.some.inj ho
      have d0 : a.tmps.getD 200 undef = .int .i64 r := dep 0 _ _ (by kernel_rfl) rfl rfl
      have e0 : a.tmps[200]?.getD undef = _ := (Array.getD_eq_getD_getElem? ..).symm.trans d0
      rw [if_pos (wanted_none rfl)]
      have hq := HR1.out
      refine grow_same (v := .bool false) ?_ rfl
      clear old dep ho hsz hb
      go_simp
    | 2, ho =>
      obtain rfl := Option.some.inj ho
      have d1 : a.tmps.getD 201 undef = .bool false := dep 1 _ _ (by kernel_rfl) rfl rfl
      have e1 : a.tmps[201]?.getD undef = _ := (Array.getD_eq_getD_getElem? ..).symm.trans d1
      rw [if_pos (wanted_none rfl)]
      refine grow_same (v := .bool false) ?_ rfl
      clear old dep ho hsz hb
      go_simp
    | 3, ho =>
      obtain rfl := Option.some.inj ho
      have d2 : a.tmps.getD 202 undef = .bool false := dep 2 _ _ (by kernel_rfl) rfl rfl
      have e2 : a.tmps[202]?.getD undef = _ := (Array.getD_eq_getD_getElem? ..).symm.trans d2
      rw [if_neg (wanted_not rfl rfl rfl (by rw [hsz]; simp [hs, k3, k4, k5, k7, k9, k10, ptr]) d2 rfl)]
      exact rfl
    | 4, ho =>
      obtain rfl := Option.some.inj ho
      have d2 : a.tmps.getD 202 undef = .bool false := dep 2 _ _ (by kernel_rfl) rfl rfl
      have e2 : a.tmps[202]?.getD undef = _ := (Array.getD_eq_getD_getElem? ..).symm.trans d2
      rw [if_neg (wanted_not rfl rfl rfl (by rw [hsz]; simp [hs, k3, k4, k5, k7, k9, k10, ptr]) d2 rfl)]
      exact rfl
    | 5, ho =>
      obtain rfl := Option.some.inj ho
      have d2 : a.tmps.getD 202 undef = .bool false := dep 2 _ _ (by kernel_rfl) rfl rfl
      have e2 : a.tmps[202]?.getD undef = _ := (Array.getD_eq_getD_getElem? ..).symm.trans d2
      have d4 : a.tmps.getD 204 undef = undef := dep 4 _ _ (by kernel_rfl) rfl rfl
      have e4 : a.tmps[204]?.getD undef = _ := (Array.getD_eq_getD_getElem? ..).symm.trans d4
      rw [if_pos (wanted_none rfl)]
      refine grow_same (v := .bool false) ?_ rfl
      clear old dep ho hsz hb
      go_simp
    | i + 6, ho => exact absurd ho (by simp)
  · intro a w3 hb hsz hdf fin keep
    have kptm2 : Keeps SW tm a.tmps := Keeps.region hsz keep (by kernel_rfl) (by dsimp only; repeat (first | (with_reducible exact Keeps.refl _ _) | ((with_reducible refine Keeps.put ?_ ?_ _); rfl)))
    have hstm2 : a.tmps.size = 264 := hsz.trans (by simp [hs, k3, k4, k5, k7, k9, k10, ptr])
    have vtm2_4 : a.tmps[4]? = some (ptr gm) := slot_get ((keep 4 (by kernel_rfl)).trans (by simp [Array.getD_eq_getD_getElem?, hs, k3, k4, k5, k7, k9, k10, ptr])) (by omega)
    have vtm2_5 : a.tmps[5]? = some (.int .i64 (n : Int)) := slot_get ((keep 5 (by kernel_rfl)).trans (by simp [Array.getD_eq_getD_getElem?, hs, k3, k4, k5, k7, k9, k10, ptr])) (by omega)
    have vtm2_9 : a.tmps[9]? = some (.int .i64 r) := slot_get ((keep 9 (by kernel_rfl)).trans (by simp [Array.getD_eq_getD_getElem?, hs, k3, k4, k5, k7, k9, k10, ptr])) (by omega)
    have vtm2_10 : a.tmps[10]? = some (.int .i64 s) := slot_get ((keep 10 (by kernel_rfl)).trans (by simp [Array.getD_eq_getD_getElem?, hs, k3, k4, k5, k7, k9, k10, ptr])) (by omega)
    have vtm2_205 : a.tmps[205]? = some (.bool false) := slot_get (fin 5 _ _ rfl rfl) (by omega)
    obtain ⟨tm2, df⟩ := a
    dsimp only at hdf hsz kptm2 hstm2 vtm2_4 vtm2_5 vtm2_9 vtm2_10 vtm2_205
    subst hdf
    clear fin keep hsz
    have y4 := slot_at vtm2_4 (by omega)
    have y5 := slot_at vtm2_5 (by omega)
    have y9 := slot_at vtm2_9 (by omega)
    have y10 := slot_at vtm2_10 (by omega)
    have y205 := slot_at vtm2_205 (by omega)
    unfold ptr at y4
    go_upto_if 205 with fail
    refine wp_cond_false (by simp [Act.eval, hstm2, y205]) ?_
    go_wp2
    exact hK _ _ n _ _ _ _ _ _ (by repeat (first | (with_reducible exact kptm2) | ((with_reducible refine Keeps.put ?_ ?_ _); rfl))) (by simp [hstm2, y5]) ⟨by rw [HTI.out.arm_none (.inl hbad)]; exact HTI.out.up, HMD.out.below hb, HMN.out.below hb, HLE.out.trans (hb.mono HLE.out.size)⟩
set_option maxHeartbeats 2000000 in
theorem sw_arm_high {w0 w : World} {gm d bx n k : Nat} {D : Ds} {PC : Array Value} {dat : Nat → Nat → List UInt8} {wt : Nat → List CallD} {lf : Nat → Int} {vs : Nat → Value} {kd r s : Int} {A : Option Addr} {m c : Nat} {l : List UInt8} {mask : Nat} (h : SB w0 w gm d bx n k D PC dat wt lf vs kd r s A m c l mask) (hk : k ≤ 200) (hbad : 3 ≤ r) {tm : Array Value} (hs : tm.size = 264) (f3 : tm[3]? = some (ptr d)) (f4 : tm[4]? = some (ptr gm)) (f5 : tm[5]? = some (.int .i64 (n : Int))) (f7 : tm[7]? = some (ptr bx)) (f9 : tm[9]? = some (.int .i64 r)) (f10 : tm[10]? = some (.int .i64 s)) (f65 : tm[65]? = some (.int .i64 3)) (f89 : tm[89]? = some (.bool false)) {Q : Exit → Act → World → Prop} (hK : ∀ (tm' : Array Value) w' (n' : Nat) D PC dat wt lf vs, Keeps SW tm tm' → tm'[5]? = some (.int .i64 (n' : Int)) → St w0 w' gm d n' (k + 1) D PC dat wt lf vs → Q .normal ⟨tm', []⟩ w') :
    Code.wp Try.prog (subC (Try.f3.body.getD .skip) [1,1,1,1,1,1,0,1,0,0,1,1,0,0,1,1,1,1,0,1,0,1]) Q ⟨tm, []⟩ w := by
  conv => arg 2; whnf
  have k3 := slot_at f3 (by omega)
  have k4 := slot_at f4 (by omega)
  have k5 := slot_at f5 (by omega)
  have k7 := slot_at f7 (by omega)
  have k9 := slot_at f9 (by omega)
  have k10 := slot_at f10 (by omega)
  obtain ⟨c0, c1, c2, c3, c4⟩ := h.cells
  clear f3 f4 f5 f7 f9 f10
  unfold ptr at k4 k7
  have HR1 := hide (show decide (0 ≤ r) = true by simp <;> omega)
  have HR2 := hide (show decide (r < 3) = false by simp <;> omega)
  have k89 := slot_at f89 (by omega)
  have k65 := slot_at f65 (by omega)
  clear f89 f65
  refine wp_cond_false (by simp [Act.eval, k89, hs]) ?_
  go_upto_if 149 with fail
  refine wp_cond_false (by simp [Act.eval, hs, k65]) ?_
  go_upto_if 174 with fail
  refine wp_cond_false (by simp [Act.eval, hs, k65]) ?_
  go_upto_if 194 with fail
  refine wp_cond_true (by simp [Act.eval, hs, k65]) ?_
  have hcall := rn_arm h
  have HTI := hide h.tie
  have HBX := hide h.box
  have HGZ := hide h.gmlo
  have hfit := h.fit.s
  dsimp only at hfit
  clear h c0 c1 c2 c3 c4
  go_upto_region 50 with (go_at_call 10; refine hcall.mono ?_; rintro e w2 ⟨rfl, hmd, hmany, hle⟩; have HMD := hide hmd; have HMN := hide hmany; have HLE := hide hle; clear hmd hmany hle)
  refine region_grows_p 264 (by simp [hs, k3, k4, k5, k7, k9, k10, ptr]) [Say.is (.int .i64 r), Say.is (.bool true), Say.is (.bool true), Say.is (.int .i64 r), Say.is (.bool false), Say.is (.bool false)] (by kernel_rfl) (by kernel_rfl) (by kernel_rfl) ?_ ?_
  · intro i o ho a w2 hb hsz old dep
    match i, ho with
    | 0, ho =>
      obtain rfl := Option.some.inj ho
      have o9 : a.tmps.getD 9 undef = .int .i64 r := (old 9 (by kernel_rfl)).trans (by simp [Array.getD_eq_getD_getElem?, hs, k3, k4, k5, k7, k9, k10, ptr])
      have oe9 : a.tmps[9]?.getD undef = _ := (Array.getD_eq_getD_getElem? ..).symm.trans o9
      rw [if_pos (wanted_none rfl)]
      refine grow_same (v := .int .i64 r) ?_ rfl
      clear old dep ho hsz hb
      go_simp
    | 1, ho =>
      obtain rfl := Option.some.inj ho
      have d0 : a.tmps.getD 200 undef = .int .i64 r := dep 0 _ _ (by kernel_rfl) rfl rfl
      have e0 : a.tmps[200]?.getD undef = _ := (Array.getD_eq_getD_getElem? ..).symm.trans d0
      rw [if_pos (wanted_none rfl)]
      have hq := HR1.out
      refine grow_same (v := .bool true) ?_ rfl
      clear old dep ho hsz hb
      go_simp
    | 2, ho =>
      obtain rfl := Option.some.inj ho
      have d1 : a.tmps.getD 201 undef = .bool true := dep 1 _ _ (by kernel_rfl) rfl rfl
      have e1 : a.tmps[201]?.getD undef = _ := (Array.getD_eq_getD_getElem? ..).symm.trans d1
      rw [if_pos (wanted_none rfl)]
      refine grow_same (v := .bool true) ?_ rfl
      clear old dep ho hsz hb
      go_simp
    | 3, ho =>
      obtain rfl := Option.some.inj ho
      have o9 : a.tmps.getD 9 undef = .int .i64 r := (old 9 (by kernel_rfl)).trans (by simp [Array.getD_eq_getD_getElem?, hs, k3, k4, k5, k7, k9, k10, ptr])
      have oe9 : a.tmps[9]?.getD undef = _ := (Array.getD_eq_getD_getElem? ..).symm.trans o9
      have d2 : a.tmps.getD 202 undef = .bool true := dep 2 _ _ (by kernel_rfl) rfl rfl
      have e2 : a.tmps[202]?.getD undef = _ := (Array.getD_eq_getD_getElem? ..).symm.trans d2
      rw [if_pos (wanted_some rfl rfl rfl (by rw [hsz]; simp [hs, k3, k4, k5, k7, k9, k10, ptr]) d2)]
      refine grow_same (v := .int .i64 r) ?_ rfl
      clear old dep ho hsz hb
      go_simp
    | 4, ho =>
      obtain rfl := Option.some.inj ho
      have d3 : a.tmps.getD 203 undef = .int .i64 r := dep 3 _ _ (by kernel_rfl) rfl rfl
      have e3 : a.tmps[203]?.getD undef = _ := (Array.getD_eq_getD_getElem? ..).symm.trans d3
      have d2 : a.tmps.getD 202 undef = .bool true := dep 2 _ _ (by kernel_rfl) rfl rfl
      have e2 : a.tmps[202]?.getD undef = _ := (Array.getD_eq_getD_getElem? ..).symm.trans d2
      rw [if_pos (wanted_some rfl rfl rfl (by rw [hsz]; simp [hs, k3, k4, k5, k7, k9, k10, ptr]) d2)]
      have hq := HR2.out
      refine grow_same (v := .bool false) ?_ rfl
      clear old dep ho hsz hb
      go_simp
    | 5, ho =>
      obtain rfl := Option.some.inj ho
      have d2 : a.tmps.getD 202 undef = .bool true := dep 2 _ _ (by kernel_rfl) rfl rfl
      have e2 : a.tmps[202]?.getD undef = _ := (Array.getD_eq_getD_getElem? ..).symm.trans d2
      have d4 : a.tmps.getD 204 undef = .bool false := dep 4 _ _ (by kernel_rfl) rfl rfl
      have e4 : a.tmps[204]?.getD undef = _ := (Array.getD_eq_getD_getElem? ..).symm.trans d4
      rw [if_pos (wanted_none rfl)]
      refine grow_same (v := .bool false) ?_ rfl
      clear old dep ho hsz hb
      go_simp
    | i + 6, ho => exact absurd ho (by simp)
  · intro a w3 hb hsz hdf fin keep
    have kptm2 : Keeps SW tm a.tmps := Keeps.region hsz keep (by kernel_rfl) (by dsimp only; repeat (first | (with_reducible exact Keeps.refl _ _) | ((with_reducible refine Keeps.put ?_ ?_ _); rfl)))
    have hstm2 : a.tmps.size = 264 := hsz.trans (by simp [hs, k3, k4, k5, k7, k9, k10, ptr])
    have vtm2_4 : a.tmps[4]? = some (ptr gm) := slot_get ((keep 4 (by kernel_rfl)).trans (by simp [Array.getD_eq_getD_getElem?, hs, k3, k4, k5, k7, k9, k10, ptr])) (by omega)
    have vtm2_5 : a.tmps[5]? = some (.int .i64 (n : Int)) := slot_get ((keep 5 (by kernel_rfl)).trans (by simp [Array.getD_eq_getD_getElem?, hs, k3, k4, k5, k7, k9, k10, ptr])) (by omega)
    have vtm2_9 : a.tmps[9]? = some (.int .i64 r) := slot_get ((keep 9 (by kernel_rfl)).trans (by simp [Array.getD_eq_getD_getElem?, hs, k3, k4, k5, k7, k9, k10, ptr])) (by omega)
    have vtm2_10 : a.tmps[10]? = some (.int .i64 s) := slot_get ((keep 10 (by kernel_rfl)).trans (by simp [Array.getD_eq_getD_getElem?, hs, k3, k4, k5, k7, k9, k10, ptr])) (by omega)
    have vtm2_205 : a.tmps[205]? = some (.bool false) := slot_get (fin 5 _ _ rfl rfl) (by omega)
    obtain ⟨tm2, df⟩ := a
    dsimp only at hdf hsz kptm2 hstm2 vtm2_4 vtm2_5 vtm2_9 vtm2_10 vtm2_205
    subst hdf
    clear fin keep hsz
    have y4 := slot_at vtm2_4 (by omega)
    have y5 := slot_at vtm2_5 (by omega)
    have y9 := slot_at vtm2_9 (by omega)
    have y10 := slot_at vtm2_10 (by omega)
    have y205 := slot_at vtm2_205 (by omega)
    unfold ptr at y4
    go_upto_if 205 with fail
    refine wp_cond_false (by simp [Act.eval, hstm2, y205]) ?_
    go_wp2
    exact hK _ _ n _ _ _ _ _ _ (by repeat (first | (with_reducible exact kptm2) | ((with_reducible refine Keeps.put ?_ ?_ _); rfl))) (by simp [hstm2, y5]) ⟨by rw [HTI.out.arm_none (.inr hbad)]; exact HTI.out.up, HMD.out.below hb, HMN.out.below hb, HLE.out.trans (hb.mono HLE.out.size)⟩
set_option maxHeartbeats 2000000 in
theorem sw_arm_ok {w0 w : World} {gm d bx n k : Nat} {D : Ds} {PC : Array Value} {dat : Nat → Nat → List UInt8} {wt : Nat → List CallD} {lf : Nat → Int} {vs : Nat → Value} {kd s : Int} {rn : Nat} {A : Option Addr} {m c : Nat} {l : List UInt8} {mask : Nat} (h : SB w0 w gm d bx n k D PC dat wt lf vs kd (rn : Int) s A m c l mask) (hk : k ≤ 200) (hr : rn < 3) {tm : Array Value} (hs : tm.size = 264) (f3 : tm[3]? = some (ptr d)) (f4 : tm[4]? = some (ptr gm)) (f5 : tm[5]? = some (.int .i64 (n : Int))) (f7 : tm[7]? = some (ptr bx)) (f9 : tm[9]? = some (.int .i64 (rn : Int))) (f10 : tm[10]? = some (.int .i64 s)) (f65 : tm[65]? = some (.int .i64 3)) (f89 : tm[89]? = some (.bool false)) {Q : Exit → Act → World → Prop} (hK : ∀ (tm' : Array Value) w' (n' : Nat) D PC dat wt lf vs, Keeps SW tm tm' → tm'[5]? = some (.int .i64 (n' : Int)) → St w0 w' gm d n' (k + 1) D PC dat wt lf vs → Q .normal ⟨tm', []⟩ w') :
    Code.wp Try.prog (subC (Try.f3.body.getD .skip) [1,1,1,1,1,1,0,1,0,0,1,1,0,0,1,1,1,1,0,1,0,1]) Q ⟨tm, []⟩ w := by
  conv => arg 2; whnf
  have k3 := slot_at f3 (by omega)
  have k4 := slot_at f4 (by omega)
  have k5 := slot_at f5 (by omega)
  have k7 := slot_at f7 (by omega)
  have k9 := slot_at f9 (by omega)
  have k10 := slot_at f10 (by omega)
  obtain ⟨c0, c1, c2, c3, c4⟩ := h.cells
  clear f3 f4 f5 f7 f9 f10
  unfold ptr at k4 k7
  have HR1 := hide (show decide (0 ≤ (rn : Int)) = true by simp <;> omega)
  have HR2 := hide (show decide ((rn : Int) < 3) = true by simp <;> omega)
  have k89 := slot_at f89 (by omega)
  have k65 := slot_at f65 (by omega)
  clear f89 f65
  refine wp_cond_false (by simp [Act.eval, k89, hs]) ?_
  go_upto_if 149 with fail
  refine wp_cond_false (by simp [Act.eval, hs, k65]) ?_
  go_upto_if 174 with fail
  refine wp_cond_false (by simp [Act.eval, hs, k65]) ?_
  go_upto_if 194 with fail
  refine wp_cond_true (by simp [Act.eval, hs, k65]) ?_
  have hcall := rn_arm h
  have HTI := hide h.tie
  have HBX := hide h.box
  have HGZ := hide h.gmlo
  have hfit := h.fit.s
  dsimp only at hfit
  clear h c0 c1 c2 c3 c4
  go_upto_region 50 with (go_at_call 10; refine hcall.mono ?_; rintro e w2 ⟨rfl, hmd, hmany, hle⟩; have HMD := hide hmd; have HMN := hide hmany; have HLE := hide hle; clear hmd hmany hle)
  refine region_grows_p 264 (by simp [hs, k3, k4, k5, k7, k9, k10, ptr]) [Say.is (.int .i64 (rn : Int)), Say.is (.bool true), Say.is (.bool true), Say.is (.int .i64 (rn : Int)), Say.is (.bool true), Say.is (.bool true)] (by kernel_rfl) (by kernel_rfl) (by kernel_rfl) ?_ ?_
  · intro i o ho a w2 hb hsz old dep
    match i, ho with
    | 0, ho =>
      obtain rfl := Option.some.inj ho
      have o9 : a.tmps.getD 9 undef = .int .i64 (rn : Int) := (old 9 (by kernel_rfl)).trans (by simp [Array.getD_eq_getD_getElem?, hs, k3, k4, k5, k7, k9, k10, ptr])
      have oe9 : a.tmps[9]?.getD undef = _ := (Array.getD_eq_getD_getElem? ..).symm.trans o9
      rw [if_pos (wanted_none rfl)]
      refine grow_same (v := .int .i64 (rn : Int)) ?_ rfl
      clear old dep ho hsz hb
      go_simp
    | 1, ho =>
      obtain rfl := Option.some.inj ho
      have d0 : a.tmps.getD 200 undef = .int .i64 (rn : Int) := dep 0 _ _ (by kernel_rfl) rfl rfl
      have e0 : a.tmps[200]?.getD undef = _ := (Array.getD_eq_getD_getElem? ..).symm.trans d0
      rw [if_pos (wanted_none rfl)]
      have hq := HR1.out
      refine grow_same (v := .bool true) ?_ rfl
      clear old dep ho hsz hb
      go_simp
    | 2, ho =>
      obtain rfl := Option.some.inj ho
      have d1 : a.tmps.getD 201 undef = .bool true := dep 1 _ _ (by kernel_rfl) rfl rfl
      have e1 : a.tmps[201]?.getD undef = _ := (Array.getD_eq_getD_getElem? ..).symm.trans d1
      rw [if_pos (wanted_none rfl)]
      refine grow_same (v := .bool true) ?_ rfl
      clear old dep ho hsz hb
      go_simp
    | 3, ho =>
      obtain rfl := Option.some.inj ho
      have o9 : a.tmps.getD 9 undef = .int .i64 (rn : Int) := (old 9 (by kernel_rfl)).trans (by simp [Array.getD_eq_getD_getElem?, hs, k3, k4, k5, k7, k9, k10, ptr])
      have oe9 : a.tmps[9]?.getD undef = _ := (Array.getD_eq_getD_getElem? ..).symm.trans o9
      have d2 : a.tmps.getD 202 undef = .bool true := dep 2 _ _ (by kernel_rfl) rfl rfl
      have e2 : a.tmps[202]?.getD undef = _ := (Array.getD_eq_getD_getElem? ..).symm.trans d2
      rw [if_pos (wanted_some rfl rfl rfl (by rw [hsz]; simp [hs, k3, k4, k5, k7, k9, k10, ptr]) d2)]
      refine grow_same (v := .int .i64 (rn : Int)) ?_ rfl
      clear old dep ho hsz hb
      go_simp
    | 4, ho =>
      obtain rfl := Option.some.inj ho
      have d3 : a.tmps.getD 203 undef = .int .i64 (rn : Int) := dep 3 _ _ (by kernel_rfl) rfl rfl
      have e3 : a.tmps[203]?.getD undef = _ := (Array.getD_eq_getD_getElem? ..).symm.trans d3
      have d2 : a.tmps.getD 202 undef = .bool true := dep 2 _ _ (by kernel_rfl) rfl rfl
      have e2 : a.tmps[202]?.getD undef = _ := (Array.getD_eq_getD_getElem? ..).symm.trans d2
      rw [if_pos (wanted_some rfl rfl rfl (by rw [hsz]; simp [hs, k3, k4, k5, k7, k9, k10, ptr]) d2)]
      have hq := HR2.out
      refine grow_same (v := .bool true) ?_ rfl
      clear old dep ho hsz hb
      go_simp
    | 5, ho =>
      obtain rfl := Option.some.inj ho
      have d2 : a.tmps.getD 202 undef = .bool true := dep 2 _ _ (by kernel_rfl) rfl rfl
      have e2 : a.tmps[202]?.getD undef = _ := (Array.getD_eq_getD_getElem? ..).symm.trans d2
      have d4 : a.tmps.getD 204 undef = .bool true := dep 4 _ _ (by kernel_rfl) rfl rfl
      have e4 : a.tmps[204]?.getD undef = _ := (Array.getD_eq_getD_getElem? ..).symm.trans d4
      rw [if_pos (wanted_none rfl)]
      refine grow_same (v := .bool true) ?_ rfl
      clear old dep ho hsz hb
      go_simp
    | i + 6, ho => exact absurd ho (by simp)
  · intro a w3 hb hsz hdf fin keep
    have kptm2 : Keeps SW tm a.tmps := Keeps.region hsz keep (by kernel_rfl) (by dsimp only; repeat (first | (with_reducible exact Keeps.refl _ _) | ((with_reducible refine Keeps.put ?_ ?_ _); rfl)))
    have hstm2 : a.tmps.size = 264 := hsz.trans (by simp [hs, k3, k4, k5, k7, k9, k10, ptr])
    have vtm2_4 : a.tmps[4]? = some (ptr gm) := slot_get ((keep 4 (by kernel_rfl)).trans (by simp [Array.getD_eq_getD_getElem?, hs, k3, k4, k5, k7, k9, k10, ptr])) (by omega)
    have vtm2_5 : a.tmps[5]? = some (.int .i64 (n : Int)) := slot_get ((keep 5 (by kernel_rfl)).trans (by simp [Array.getD_eq_getD_getElem?, hs, k3, k4, k5, k7, k9, k10, ptr])) (by omega)
    have vtm2_9 : a.tmps[9]? = some (.int .i64 (rn : Int)) := slot_get ((keep 9 (by kernel_rfl)).trans (by simp [Array.getD_eq_getD_getElem?, hs, k3, k4, k5, k7, k9, k10, ptr])) (by omega)
    have vtm2_10 : a.tmps[10]? = some (.int .i64 s) := slot_get ((keep 10 (by kernel_rfl)).trans (by simp [Array.getD_eq_getD_getElem?, hs, k3, k4, k5, k7, k9, k10, ptr])) (by omega)
    have vtm2_205 : a.tmps[205]? = some (.bool true) := slot_get (fin 5 _ _ rfl rfl) (by omega)
    obtain ⟨tm2, df⟩ := a
    dsimp only at hdf hsz kptm2 hstm2 vtm2_4 vtm2_5 vtm2_9 vtm2_10 vtm2_205
    subst hdf
    clear fin keep hsz
    have y4 := slot_at vtm2_4 (by omega)
    have y5 := slot_at vtm2_5 (by omega)
    have y9 := slot_at vtm2_9 (by omega)
    have y10 := slot_at vtm2_10 (by omega)
    have y205 := slot_at vtm2_205 (by omega)
    unfold ptr at y4
    go_upto_if 205 with fail
    refine wp_cond_true (by simp [Act.eval, hstm2, y205]) ?_
    obtain ⟨mz, hmz⟩ : ∃ mz, (if s < 0 then 0 else s) = mz := ⟨_, rfl⟩
    have HMZ := hide hmz
    have HMX := hide (show max s 0 = mz by rw [← hmz]; split <;> omega)
    have HMY := hide (show (if s > 0 then s else 0) = mz by rw [← hmz]; split <;> split <;> omega)
    have HMD3 := hide (HMD.out.below hb)
    have HMN3 := hide (HMN.out.below hb)
    have HLE3 := hide (HLE.out.trans (hb.mono HLE.out.size))
    have hr0 : (0 : Int) ≤ (rn : Int) := by omega
    have hr3 : (rn : Int) < 3 := by omega
    clear hmz hb HMD HMN HLE vtm2_4 vtm2_5 vtm2_9 vtm2_10 vtm2_205
    go_upto_region 51 with fail
    refine region_turns_p 264 (by simp [hstm2, y4, y5, y9, y10, ptr]) (G := Turns (· = gm)) [Word.is _ (.pointer (some ⟨gm, 0, none⟩)), Word.is _ (.int .i64 (rn : Int)), Word.is _ (.int .i64 s), Word.is _ (.int .i64 mz), Word.is _ (.pointer (some ⟨gm, 0, none⟩)), Word.is _ (.pointer (some ⟨gm, 27, none⟩)), Word.is _ (.pointer (some ⟨gm, 27 + rn, none⟩)), Word.any _] (Stored gm 32 [(7, (27 + rn), .int .i64 mz)] (PC)) (Turns.refl _) Turns.trans (by kernel_rfl) (by kernel_rfl) (by kernel_rfl) (fun L L' w h hS => Stored.ext (by kernel_rfl) h hS) (Stored.start0 _ HMD3.out.blk) ?_ ?_
    · intro i o ho L a w2 hb hS hLi hnot hyes hsz old dep
      match i, ho with
      | 0, ho =>
        obtain rfl := Option.some.inj ho
        have o4 : a.tmps.getD 4 undef = .pointer (some ⟨gm, 0, none⟩) := (old 4 (by kernel_rfl)).trans (by simp [Array.getD_eq_getD_getElem?, hstm2, y4, y5, y9, y10, ptr])
        have oe4 : a.tmps[4]?.getD undef = _ := (Array.getD_eq_getD_getElem? ..).symm.trans o4
        rw [if_pos (wanted_none rfl)]
        refine turn_same (Turns.refl _) (v := .pointer (some ⟨gm, 0, none⟩)) ?_ rfl (hS.other (by rfl))
        clear old dep ho hsz hb hS hLi hnot hyes
        go_simp
      | 1, ho =>
        obtain rfl := Option.some.inj ho
        have o9 : a.tmps.getD 9 undef = .int .i64 (rn : Int) := (old 9 (by kernel_rfl)).trans (by simp [Array.getD_eq_getD_getElem?, hstm2, y4, y5, y9, y10, ptr])
        have oe9 : a.tmps[9]?.getD undef = _ := (Array.getD_eq_getD_getElem? ..).symm.trans o9
        rw [if_pos (wanted_none rfl)]
        refine turn_same (Turns.refl _) (v := .int .i64 (rn : Int)) ?_ rfl (hS.other (by rfl))
        clear old dep ho hsz hb hS hLi hnot hyes
        go_simp
      | 2, ho =>
        obtain rfl := Option.some.inj ho
        have o10 : a.tmps.getD 10 undef = .int .i64 s := (old 10 (by kernel_rfl)).trans (by simp [Array.getD_eq_getD_getElem?, hstm2, y4, y5, y9, y10, ptr])
        have oe10 : a.tmps[10]?.getD undef = _ := (Array.getD_eq_getD_getElem? ..).symm.trans o10
        rw [if_pos (wanted_none rfl)]
        refine turn_same (Turns.refl _) (v := .int .i64 s) ?_ rfl (hS.other (by rfl))
        clear old dep ho hsz hb hS hLi hnot hyes
        go_simp
      | 3, ho =>
        obtain rfl := Option.some.inj ho
        have d2 : a.tmps.getD 208 undef = .int .i64 s := dep 2 _ _ (by kernel_rfl) rfl rfl
        have e2 : a.tmps[208]?.getD undef = _ := (Array.getD_eq_getD_getElem? ..).symm.trans d2
        rw [if_pos (wanted_none rfl)]
        have hmz := HMZ.out
        have hmz2 := HMX.out
        refine turn_same (Turns.refl _) (v := .int .i64 mz) ?_ rfl (hS.other (by rfl))
        clear old dep ho hsz hb hS hLi hnot hyes
        go_simp
      | 4, ho =>
        obtain rfl := Option.some.inj ho
        have d0 : a.tmps.getD 206 undef = .pointer (some ⟨gm, 0, none⟩) := dep 0 _ _ (by kernel_rfl) rfl rfl
        have e0 : a.tmps[206]?.getD undef = _ := (Array.getD_eq_getD_getElem? ..).symm.trans d0
        rw [if_pos (wanted_none rfl)]
        refine turn_same (Turns.refl _) (v := .pointer (some ⟨gm, 0, none⟩)) ?_ rfl (hS.other (by rfl))
        clear old dep ho hsz hb hS hLi hnot hyes
        go_simp
      | 5, ho =>
        obtain rfl := Option.some.inj ho
        have d4 : a.tmps.getD 210 undef = .pointer (some ⟨gm, 0, none⟩) := dep 4 _ _ (by kernel_rfl) rfl rfl
        have e4 : a.tmps[210]?.getD undef = _ := (Array.getD_eq_getD_getElem? ..).symm.trans d4
        rw [if_pos (wanted_none rfl)]
        refine turn_same (Turns.refl _) (v := .pointer (some ⟨gm, 27, none⟩)) ?_ rfl (hS.other (by rfl))
        clear old dep ho hsz hb hS hLi hnot hyes
        go_simp
      | 6, ho =>
        obtain rfl := Option.some.inj ho
        have d1 : a.tmps.getD 207 undef = .int .i64 (rn : Int) := dep 1 _ _ (by kernel_rfl) rfl rfl
        have e1 : a.tmps[207]?.getD undef = _ := (Array.getD_eq_getD_getElem? ..).symm.trans d1
        have d5 : a.tmps.getD 211 undef = .pointer (some ⟨gm, 27, none⟩) := dep 5 _ _ (by kernel_rfl) rfl rfl
        have e5 : a.tmps[211]?.getD undef = _ := (Array.getD_eq_getD_getElem? ..).symm.trans d5
        rw [if_pos (wanted_none rfl)]
        refine turn_same (Turns.refl _) (v := .pointer (some ⟨gm, 27 + rn, none⟩)) ?_ rfl (hS.other (by rfl))
        clear old dep ho hsz hb hS hLi hnot hyes
        go_simp
      | 7, ho =>
        obtain rfl := Option.some.inj ho
        have d3 : a.tmps.getD 209 undef = .int .i64 mz := dep 3 _ _ (by kernel_rfl) rfl rfl
        have e3 : a.tmps[209]?.getD undef = _ := (Array.getD_eq_getD_getElem? ..).symm.trans d3
        have d6 : a.tmps.getD 212 undef = .pointer (some ⟨gm, 27 + rn, none⟩) := dep 6 _ _ (by kernel_rfl) rfl rfl
        have e6 : a.tmps[212]?.getD undef = _ := (Array.getD_eq_getD_getElem? ..).symm.trans d6
        rw [if_pos (wanted_none rfl)]
        obtain ⟨⟨u0, hu0⟩, hf0⟩ := hS.cell (27 + rn) (by rw [HMD3.out.size]; omega)
        refine turn_skips (w' := w2.setCell ⟨gm, (27 + rn), none⟩ (.int .i64 mz)) ?_ trivial (hS.at_ 0 rfl rfl hLi) (Turns.own w2 _ _ _)
        clear old dep ho hsz hb hS hLi hnot hyes
        go_simp
      | i + 8, ho => exact absurd ho (by simp)
    · intro a w4 hb hS hsz hdf fin keep
      have kptm3 : Keeps SW tm a.tmps := Keeps.region hsz keep (by kernel_rfl) (by dsimp only; repeat (first | (with_reducible exact kptm2) | ((with_reducible refine Keeps.put ?_ ?_ _); rfl)))
      have hstm3 : a.tmps.size = 264 := hsz.trans (by simp [hstm2, y4, y5, y9, y10, ptr])
      have vtm3_5 : a.tmps[5]? = some (.int .i64 (n : Int)) := slot_get ((keep 5 (by kernel_rfl)).trans (by simp [Array.getD_eq_getD_getElem?, hstm2, y4, y5, y9, y10, ptr])) (by omega)
      obtain ⟨tm3, df⟩ := a
      dsimp only at hdf hsz kptm3 hstm3 vtm3_5
      subst hdf
      clear fin keep hsz
      have hmd4 := HMD3.out.left_k hr mz hb.kept hS.on_
      have htie := HTI.out.arm hr s hfit.2
      rw [HMY.out] at htie
      have z5 := slot_at vtm3_5 (by omega)
      go_wp2
      exact hK _ _ _ _ _ _ _ _ _ (by repeat (first | (with_reducible exact kptm3) | ((with_reducible refine Keeps.put ?_ ?_ _); rfl))) (by simp [hstm3, z5]) ⟨htie, hmd4, HMN3.out.foreign hb.kept (fun g hg => .inl (.inr (.inl hg))), HLE3.out.trans (hb.below HLE3.out.size (fun g hg => by rw [hg]; exact HGZ.out))⟩
set_option maxHeartbeats 2000000 in
theorem sw_read_ok {w0 w : World} {gm d bx n k : Nat} {D : Ds} {PC : Array Value} {dat : Nat → Nat → List UInt8} {wt : Nat → List CallD} {lf : Nat → Int} {vs : Nat → Value} {kd s : Int} {rn : Nat} {A : Option Addr} {m c : Nat} {l : List UInt8} {mask : Nat} (h : SB w0 w gm d bx n k D PC dat wt lf vs kd (rn : Int) s A m c l mask) (hk : k ≤ 200) (hr : rn < 3) (hss : 0 ≤ s ∧ s < 8) {tm : Array Value} (hs : tm.size = 264) (f3 : tm[3]? = some (ptr d)) (f4 : tm[4]? = some (ptr gm)) (f5 : tm[5]? = some (.int .i64 (n : Int))) (f7 : tm[7]? = some (ptr bx)) (f9 : tm[9]? = some (.int .i64 (rn : Int))) (f10 : tm[10]? = some (.int .i64 s)) (f65 : tm[65]? = some (.int .i64 4)) (f89 : tm[89]? = some (.bool false)) (f8 : tm[8]? = some (.bool true)) {Q : Exit → Act → World → Prop} (hK : ∀ (tm' : Array Value) w' (n' : Nat) D PC dat wt lf vs, Keeps SW tm tm' → tm'[5]? = some (.int .i64 (n' : Int)) → St w0 w' gm d n' (k + 1) D PC dat wt lf vs → Q .normal ⟨tm', []⟩ w') :
    Code.wp Try.prog (subC (Try.f3.body.getD .skip) [1,1,1,1,1,1,0,1,0,0,1,1,0,0,1,1,1,1,0,1,0,1]) Q ⟨tm, []⟩ w := by
  conv => arg 2; whnf
  have k3 := slot_at f3 (by omega)
  have k4 := slot_at f4 (by omega)
  have k5 := slot_at f5 (by omega)
  have k7 := slot_at f7 (by omega)
  have k9 := slot_at f9 (by omega)
  have k10 := slot_at f10 (by omega)
  obtain ⟨c0, c1, c2, c3, c4⟩ := h.cells
  clear f3 f4 f5 f7 f9 f10
  unfold ptr at k4 k7
  have k8 := slot_at f8 (by omega)
  obtain ⟨sn, rfl⟩ : ∃ q : Nat, s = (q : Int) := ⟨s.toNat, by omega⟩
  have hq8 : sn < 8 := by omega
  obtain ⟨Z, hZ⟩ : ∃ Z, pad (rdl (dat rn sn) (wt rn) (sn : Int)) = Z := ⟨_, rfl⟩
  have HZ := hide hZ
  have hread := rn_read2 h.st hr hq8 hZ
  clear hZ c0 c1 c2 c3 c4 f8
  have k89 := slot_at f89 (by omega)
  have k65 := slot_at f65 (by omega)
  clear f89 f65
  refine wp_cond_false (by simp [Act.eval, k89, hs]) ?_
  go_upto_if 149 with fail
  refine wp_cond_false (by simp [Act.eval, hs, k65]) ?_
  go_upto_if 174 with fail
  refine wp_cond_false (by simp [Act.eval, hs, k65]) ?_
  go_upto_if 194 with fail
  refine wp_cond_false (by simp [Act.eval, hs, k65]) ?_
  go_upto_region 17 with (go_at_call 11; refine hread.mono ?_; rintro e w8 ⟨rfl, hp, hx, hS8⟩; have HP8 := hide hp; have HX8 := hide hx; clear hp hx)
  refine region_grows_n 264 (by simp [hs, k3, k4, k5, k7, k8, k9, k10, ptr]) [Say.is (.int .i64 0), Say.is (.bool true), Say.is (.bool true), Say.is (.bool false), Say.is (.bool false), Say.is (.bool true), Say.is (.bool true), Say.is (.slice (some ⟨w.heap.size, 0, none⟩) 64 64), Say.is (.string ⟨Z.toArray⟩), Say.is (.pointer (some ⟨gm, 0, none⟩)), Say.is (.int .i64 (rn : Int)), Say.is (.int .i64 (sn : Int)), Say.is (.string ⟨Z.toArray⟩), Say.is (.bool false), Say.is (.bool false), Say.is (.bool false)] (by kernel_rfl) (by kernel_rfl) (by kernel_rfl) (by kernel_rfl) ?_ ?_
  · intro i o ho a w2 hb hsz old dep
    match i, ho with
    | 0, ho =>
      obtain rfl := Option.some.inj ho
      have o15 : a.tmps.getD 15 undef = .int .i64 0 := (old 15 (by kernel_rfl)).trans (by simp [Array.getD_eq_getD_getElem?, hs, k3, k4, k5, k7, k8, k9, k10, ptr])
      have oe15 : a.tmps[15]?.getD undef = _ := (Array.getD_eq_getD_getElem? ..).symm.trans o15
      rw [if_pos (wanted_none rfl)]
      refine grow_same (v := .int .i64 0) ?_ rfl
      clear old dep ho hsz hb
      go_simp
    | 1, ho =>
      obtain rfl := Option.some.inj ho
      have d0 : a.tmps.getD 73 undef = .int .i64 0 := dep 0 _ _ (by kernel_rfl) rfl rfl
      have e0 : a.tmps[73]?.getD undef = _ := (Array.getD_eq_getD_getElem? ..).symm.trans d0
      rw [if_pos (wanted_none rfl)]
      refine grow_same (v := .bool true) ?_ rfl
      clear old dep ho hsz hb
      go_simp
    | 2, ho =>
      obtain rfl := Option.some.inj ho
      have o8 : a.tmps.getD 8 undef = .bool true := (old 8 (by kernel_rfl)).trans (by simp [Array.getD_eq_getD_getElem?, hs, k3, k4, k5, k7, k8, k9, k10, ptr])
      have oe8 : a.tmps[8]?.getD undef = _ := (Array.getD_eq_getD_getElem? ..).symm.trans o8
      rw [if_pos (wanted_none rfl)]
      refine grow_same (v := .bool true) ?_ rfl
      clear old dep ho hsz hb
      go_simp
    | 3, ho =>
      obtain rfl := Option.some.inj ho
      have d1 : a.tmps.getD 74 undef = .bool true := dep 1 _ _ (by kernel_rfl) rfl rfl
      have e1 : a.tmps[74]?.getD undef = _ := (Array.getD_eq_getD_getElem? ..).symm.trans d1
      have d2 : a.tmps.getD 75 undef = .bool true := dep 2 _ _ (by kernel_rfl) rfl rfl
      have e2 : a.tmps[75]?.getD undef = _ := (Array.getD_eq_getD_getElem? ..).symm.trans d2
      rw [if_pos (wanted_none rfl)]
      refine grow_same (v := .bool false) ?_ rfl
      clear old dep ho hsz hb
      go_simp
    | 4, ho =>
      obtain rfl := Option.some.inj ho
      have d3 : a.tmps.getD 76 undef = .bool false := dep 3 _ _ (by kernel_rfl) rfl rfl
      have e3 : a.tmps[76]?.getD undef = _ := (Array.getD_eq_getD_getElem? ..).symm.trans d3
      rw [if_pos (wanted_none rfl)]
      refine grow_same (v := .bool false) ?_ rfl
      clear old dep ho hsz hb
      go_simp
    | 5, ho =>
      obtain rfl := Option.some.inj ho
      have o8 : a.tmps.getD 8 undef = .bool true := (old 8 (by kernel_rfl)).trans (by simp [Array.getD_eq_getD_getElem?, hs, k3, k4, k5, k7, k8, k9, k10, ptr])
      have oe8 : a.tmps[8]?.getD undef = _ := (Array.getD_eq_getD_getElem? ..).symm.trans o8
      have d4 : a.tmps.getD 77 undef = .bool false := dep 4 _ _ (by kernel_rfl) rfl rfl
      have e4 : a.tmps[77]?.getD undef = _ := (Array.getD_eq_getD_getElem? ..).symm.trans d4
      rw [if_pos (wanted_some rfl rfl rfl (by rw [hsz]; simp [hs, k3, k4, k5, k7, k8, k9, k10, ptr]) d4)]
      refine grow_same (v := .bool true) ?_ rfl
      clear old dep ho hsz hb
      go_simp
    | 6, ho =>
      obtain rfl := Option.some.inj ho
      have d5 : a.tmps.getD 78 undef = .bool true := dep 5 _ _ (by kernel_rfl) rfl rfl
      have e5 : a.tmps[78]?.getD undef = _ := (Array.getD_eq_getD_getElem? ..).symm.trans d5
      have d4 : a.tmps.getD 77 undef = .bool false := dep 4 _ _ (by kernel_rfl) rfl rfl
      have e4 : a.tmps[77]?.getD undef = _ := (Array.getD_eq_getD_getElem? ..).symm.trans d4
      rw [if_pos (wanted_some rfl rfl rfl (by rw [hsz]; simp [hs, k3, k4, k5, k7, k8, k9, k10, ptr]) d4)]
      refine grow_same (v := .bool true) ?_ rfl
      clear old dep ho hsz hb
      go_simp
    | 7, ho =>
      obtain rfl := Option.some.inj ho
      have o14 : a.tmps.getD 14 undef = .slice (some ⟨w.heap.size, 0, none⟩) 64 64 := (old 14 (by kernel_rfl)).trans (by simp [Array.getD_eq_getD_getElem?, hs, k3, k4, k5, k7, k8, k9, k10, ptr])
      have oe14 : a.tmps[14]?.getD undef = _ := (Array.getD_eq_getD_getElem? ..).symm.trans o14
      have d6 : a.tmps.getD 79 undef = .bool true := dep 6 _ _ (by kernel_rfl) rfl rfl
      have e6 : a.tmps[79]?.getD undef = _ := (Array.getD_eq_getD_getElem? ..).symm.trans d6
      rw [if_pos (wanted_some rfl rfl rfl (by rw [hsz]; simp [hs, k3, k4, k5, k7, k8, k9, k10, ptr]) d6)]
      refine grow_same (v := .slice (some ⟨w.heap.size, 0, none⟩) 64 64) ?_ rfl
      clear old dep ho hsz hb
      go_simp
    | 8, ho =>
      obtain rfl := Option.some.inj ho
      have d7 : a.tmps.getD 80 undef = .slice (some ⟨w.heap.size, 0, none⟩) 64 64 := dep 7 _ _ (by kernel_rfl) rfl rfl
      have e7 : a.tmps[80]?.getD undef = _ := (Array.getD_eq_getD_getElem? ..).symm.trans d7
      have d6 : a.tmps.getD 79 undef = .bool true := dep 6 _ _ (by kernel_rfl) rfl rfl
      have e6 : a.tmps[79]?.getD undef = _ := (Array.getD_eq_getD_getElem? ..).symm.trans d6
      rw [if_pos (wanted_some rfl rfl rfl (by rw [hsz]; simp [hs, k3, k4, k5, k7, k8, k9, k10, ptr]) d6)]
      have hcv := conv_blk 64 HP8.out (blk_below HX8.out hb)
      refine grow_same (v := .string ⟨Z.toArray⟩) ?_ rfl
      clear old dep ho hsz hb
      go_simp
    | 9, ho =>
      obtain rfl := Option.some.inj ho
      have o4 : a.tmps.getD 4 undef = .pointer (some ⟨gm, 0, none⟩) := (old 4 (by kernel_rfl)).trans (by simp [Array.getD_eq_getD_getElem?, hs, k3, k4, k5, k7, k8, k9, k10, ptr])
      have oe4 : a.tmps[4]?.getD undef = _ := (Array.getD_eq_getD_getElem? ..).symm.trans o4
      have d6 : a.tmps.getD 79 undef = .bool true := dep 6 _ _ (by kernel_rfl) rfl rfl
      have e6 : a.tmps[79]?.getD undef = _ := (Array.getD_eq_getD_getElem? ..).symm.trans d6
      rw [if_pos (wanted_some rfl rfl rfl (by rw [hsz]; simp [hs, k3, k4, k5, k7, k8, k9, k10, ptr]) d6)]
      refine grow_same (v := .pointer (some ⟨gm, 0, none⟩)) ?_ rfl
      clear old dep ho hsz hb
      go_simp
    | 10, ho =>
      obtain rfl := Option.some.inj ho
      have o9 : a.tmps.getD 9 undef = .int .i64 (rn : Int) := (old 9 (by kernel_rfl)).trans (by simp [Array.getD_eq_getD_getElem?, hs, k3, k4, k5, k7, k8, k9, k10, ptr])
      have oe9 : a.tmps[9]?.getD undef = _ := (Array.getD_eq_getD_getElem? ..).symm.trans o9
      have d6 : a.tmps.getD 79 undef = .bool true := dep 6 _ _ (by kernel_rfl) rfl rfl
      have e6 : a.tmps[79]?.getD undef = _ := (Array.getD_eq_getD_getElem? ..).symm.trans d6
      rw [if_pos (wanted_some rfl rfl rfl (by rw [hsz]; simp [hs, k3, k4, k5, k7, k8, k9, k10, ptr]) d6)]
      refine grow_same (v := .int .i64 (rn : Int)) ?_ rfl
      clear old dep ho hsz hb
      go_simp
    | 11, ho =>
      obtain rfl := Option.some.inj ho
      have o10 : a.tmps.getD 10 undef = .int .i64 (sn : Int) := (old 10 (by kernel_rfl)).trans (by simp [Array.getD_eq_getD_getElem?, hs, k3, k4, k5, k7, k8, k9, k10, ptr])
      have oe10 : a.tmps[10]?.getD undef = _ := (Array.getD_eq_getD_getElem? ..).symm.trans o10
      have d6 : a.tmps.getD 79 undef = .bool true := dep 6 _ _ (by kernel_rfl) rfl rfl
      have e6 : a.tmps[79]?.getD undef = _ := (Array.getD_eq_getD_getElem? ..).symm.trans d6
      rw [if_pos (wanted_some rfl rfl rfl (by rw [hsz]; simp [hs, k3, k4, k5, k7, k8, k9, k10, ptr]) d6)]
      refine grow_same (v := .int .i64 (sn : Int)) ?_ rfl
      clear old dep ho hsz hb
      go_simp
    | 12, ho =>
      obtain rfl := Option.some.inj ho
      have d9 : a.tmps.getD 82 undef = .pointer (some ⟨gm, 0, none⟩) := dep 9 _ _ (by kernel_rfl) rfl rfl
      have e9 : a.tmps[82]?.getD undef = _ := (Array.getD_eq_getD_getElem? ..).symm.trans d9
      have d10 : a.tmps.getD 83 undef = .int .i64 (rn : Int) := dep 10 _ _ (by kernel_rfl) rfl rfl
      have e10 : a.tmps[83]?.getD undef = _ := (Array.getD_eq_getD_getElem? ..).symm.trans d10
      have d11 : a.tmps.getD 84 undef = .int .i64 (sn : Int) := dep 11 _ _ (by kernel_rfl) rfl rfl
      have e11 : a.tmps[84]?.getD undef = _ := (Array.getD_eq_getD_getElem? ..).symm.trans d11
      have d6 : a.tmps.getD 79 undef = .bool true := dep 6 _ _ (by kernel_rfl) rfl rfl
      have e6 : a.tmps[79]?.getD undef = _ := (Array.getD_eq_getD_getElem? ..).symm.trans d6
      rw [if_pos (wanted_some rfl rfl rfl (by rw [hsz]; simp [hs, k3, k4, k5, k7, k8, k9, k10, ptr]) d6)]
      refine grow_enters (f := 12) (args := #[.pointer (some ⟨gm, 0, none⟩), .int .i64 (rn : Int), .int .i64 (sn : Int)]) ?_ (mdl_read hS8 hb hk hr hq8 HZ.out)
      clear old dep ho hsz hb
      go_simp
    | 13, ho =>
      obtain rfl := Option.some.inj ho
      have d8 : a.tmps.getD 81 undef = .string ⟨Z.toArray⟩ := dep 8 _ _ (by kernel_rfl) rfl rfl
      have e8 : a.tmps[81]?.getD undef = _ := (Array.getD_eq_getD_getElem? ..).symm.trans d8
      have d12 : a.tmps.getD 85 undef = .string ⟨Z.toArray⟩ := dep 12 _ _ (by kernel_rfl) rfl rfl
      have e12 : a.tmps[85]?.getD undef = _ := (Array.getD_eq_getD_getElem? ..).symm.trans d12
      have d6 : a.tmps.getD 79 undef = .bool true := dep 6 _ _ (by kernel_rfl) rfl rfl
      have e6 : a.tmps[79]?.getD undef = _ := (Array.getD_eq_getD_getElem? ..).symm.trans d6
      rw [if_pos (wanted_some rfl rfl rfl (by rw [hsz]; simp [hs, k3, k4, k5, k7, k8, k9, k10, ptr]) d6)]
      refine grow_same (v := .bool false) ?_ rfl
      clear old dep ho hsz hb
      go_simp
    | 14, ho =>
      obtain rfl := Option.some.inj ho
      have d6 : a.tmps.getD 79 undef = .bool true := dep 6 _ _ (by kernel_rfl) rfl rfl
      have e6 : a.tmps[79]?.getD undef = _ := (Array.getD_eq_getD_getElem? ..).symm.trans d6
      have d13 : a.tmps.getD 86 undef = .bool false := dep 13 _ _ (by kernel_rfl) rfl rfl
      have e13 : a.tmps[86]?.getD undef = _ := (Array.getD_eq_getD_getElem? ..).symm.trans d13
      have d4 : a.tmps.getD 77 undef = .bool false := dep 4 _ _ (by kernel_rfl) rfl rfl
      have e4 : a.tmps[77]?.getD undef = _ := (Array.getD_eq_getD_getElem? ..).symm.trans d4
      rw [if_pos (wanted_some rfl rfl rfl (by rw [hsz]; simp [hs, k3, k4, k5, k7, k8, k9, k10, ptr]) d4)]
      refine grow_same (v := .bool false) ?_ rfl
      clear old dep ho hsz hb
      go_simp
    | 15, ho =>
      obtain rfl := Option.some.inj ho
      have d4 : a.tmps.getD 77 undef = .bool false := dep 4 _ _ (by kernel_rfl) rfl rfl
      have e4 : a.tmps[77]?.getD undef = _ := (Array.getD_eq_getD_getElem? ..).symm.trans d4
      have d14 : a.tmps.getD 87 undef = .bool false := dep 14 _ _ (by kernel_rfl) rfl rfl
      have e14 : a.tmps[87]?.getD undef = _ := (Array.getD_eq_getD_getElem? ..).symm.trans d14
      rw [if_pos (wanted_none rfl)]
      refine grow_same (v := .bool false) ?_ rfl
      clear old dep ho hsz hb
      go_simp
    | i + 16, ho => exact absurd ho (by simp)
  · intro a w9 hb hsz hdf fin keep
    have kptm2 : Keeps SW tm a.tmps := Keeps.region hsz keep (by kernel_rfl) (by dsimp only; repeat (first | (with_reducible exact Keeps.refl _ _) | ((with_reducible refine Keeps.put ?_ ?_ _); rfl)))
    have hstm2 : a.tmps.size = 264 := hsz.trans (by simp [hs, k3, k4, k5, k7, k8, k9, k10, ptr])
    have vtm2_5 : a.tmps[5]? = some (.int .i64 (n : Int)) := slot_get ((keep 5 (by kernel_rfl)).trans (by simp [Array.getD_eq_getD_getElem?, hs, k3, k4, k5, k7, k8, k9, k10, ptr])) (by omega)
    have vtm2_88 : a.tmps[88]? = some (.bool false) := slot_get (fin 15 _ _ rfl rfl) (by omega)
    obtain ⟨tm2, df⟩ := a
    dsimp only at hdf hsz kptm2 hstm2 vtm2_5 vtm2_88
    subst hdf
    clear fin keep hsz
    have y5 := slot_at vtm2_5 (by omega)
    have y88 := slot_at vtm2_88 (by omega)
    go_upto_if 88 with fail
    refine wp_cond_false (by simp [Act.eval, hstm2, y88]) ?_
    go_wp2
    exact hK _ _ n _ _ _ _ _ _ (by repeat (first | (with_reducible exact kptm2) | ((with_reducible refine Keeps.put ?_ ?_ _); rfl))) (by simp [hstm2, y5]) ⟨(hS8.below hb).tie.up, (hS8.below hb).md, (hS8.below hb).many, (hS8.below hb).le⟩
set_option maxHeartbeats 2000000 in
theorem sw_read_bad {w0 w : World} {gm d bx n k : Nat} {D : Ds} {PC : Array Value} {dat : Nat → Nat → List UInt8} {wt : Nat → List CallD} {lf : Nat → Int} {vs : Nat → Value} {kd r s : Int} {A : Option Addr} {m c : Nat} {l : List UInt8} {mask : Nat} (h : SB w0 w gm d bx n k D PC dat wt lf vs kd r s A m c l mask) (hk : k ≤ 200) (hbad : ¬ (0 ≤ r ∧ r < 3 ∧ 0 ≤ s ∧ s < 8)) {tm : Array Value} (hs : tm.size = 264) (f3 : tm[3]? = some (ptr d)) (f4 : tm[4]? = some (ptr gm)) (f5 : tm[5]? = some (.int .i64 (n : Int))) (f7 : tm[7]? = some (ptr bx)) (f9 : tm[9]? = some (.int .i64 r)) (f10 : tm[10]? = some (.int .i64 s)) (f65 : tm[65]? = some (.int .i64 4)) (f89 : tm[89]? = some (.bool false)) (f8 : tm[8]? = some (.bool false)) {Q : Exit → Act → World → Prop} (hK : ∀ (tm' : Array Value) w' (n' : Nat) D PC dat wt lf vs, Keeps SW tm tm' → tm'[5]? = some (.int .i64 (n' : Int)) → St w0 w' gm d n' (k + 1) D PC dat wt lf vs → Q .normal ⟨tm', []⟩ w') :
    Code.wp Try.prog (subC (Try.f3.body.getD .skip) [1,1,1,1,1,1,0,1,0,0,1,1,0,0,1,1,1,1,0,1,0,1]) Q ⟨tm, []⟩ w := by
  conv => arg 2; whnf
  have k3 := slot_at f3 (by omega)
  have k4 := slot_at f4 (by omega)
  have k5 := slot_at f5 (by omega)
  have k7 := slot_at f7 (by omega)
  have k9 := slot_at f9 (by omega)
  have k10 := slot_at f10 (by omega)
  obtain ⟨c0, c1, c2, c3, c4⟩ := h.cells
  clear f3 f4 f5 f7 f9 f10
  unfold ptr at k4 k7
  have k8 := slot_at f8 (by omega)
  have hread := read_many_bad (i := 0) h.many rfl r s (rn_rd_none h.tie hbad)
  clear c0 c1 c2 c3 c4 f8
  have k89 := slot_at f89 (by omega)
  have k65 := slot_at f65 (by omega)
  clear f89 f65
  refine wp_cond_false (by simp [Act.eval, k89, hs]) ?_
  go_upto_if 149 with fail
  refine wp_cond_false (by simp [Act.eval, hs, k65]) ?_
  go_upto_if 174 with fail
  refine wp_cond_false (by simp [Act.eval, hs, k65]) ?_
  go_upto_if 194 with fail
  refine wp_cond_false (by simp [Act.eval, hs, k65]) ?_
  go_upto_region 17 with (go_at_call 11; refine hread.mono ?_; rintro e w8 ⟨rfl, hw8⟩)
  refine region_grows_n 264 (by simp [hs, k3, k4, k5, k7, k8, k9, k10, ptr]) [Say.is (.int .i64 1), Say.is (.bool false), Say.is (.bool false), Say.is (.bool false), Say.is (.bool false), Say.is (.bool false), Say.is (.bool false), Say.is (undef), Say.is (undef), Say.is (undef), Say.is (undef), Say.is (undef), Say.is (undef), Say.is (undef), Say.is (.bool false), Say.is (.bool false)] (by kernel_rfl) (by kernel_rfl) (by kernel_rfl) (by kernel_rfl) ?_ ?_
  · intro i o ho a w2 hb hsz old dep
    match i, ho with
    | 0, ho =>
      obtain rfl := Option.some.inj ho
      have o15 : a.tmps.getD 15 undef = .int .i64 1 := (old 15 (by kernel_rfl)).trans (by simp [Array.getD_eq_getD_getElem?, hs, k3, k4, k5, k7, k8, k9, k10, ptr])
      have oe15 : a.tmps[15]?.getD undef = _ := (Array.getD_eq_getD_getElem? ..).symm.trans o15
      rw [if_pos (wanted_none rfl)]
      refine grow_same (v := .int .i64 1) ?_ rfl
      clear old dep ho hsz hb
      go_simp
    | 1, ho =>
      obtain rfl := Option.some.inj ho
      have d0 : a.tmps.getD 73 undef = .int .i64 1 := dep 0 _ _ (by kernel_rfl) rfl rfl
      have e0 : a.tmps[73]?.getD undef = _ := (Array.getD_eq_getD_getElem? ..).symm.trans d0
      rw [if_pos (wanted_none rfl)]
      refine grow_same (v := .bool false) ?_ rfl
      clear old dep ho hsz hb
      go_simp
    | 2, ho =>
      obtain rfl := Option.some.inj ho
      have o8 : a.tmps.getD 8 undef = .bool false := (old 8 (by kernel_rfl)).trans (by simp [Array.getD_eq_getD_getElem?, hs, k3, k4, k5, k7, k8, k9, k10, ptr])
      have oe8 : a.tmps[8]?.getD undef = _ := (Array.getD_eq_getD_getElem? ..).symm.trans o8
      rw [if_pos (wanted_none rfl)]
      refine grow_same (v := .bool false) ?_ rfl
      clear old dep ho hsz hb
      go_simp
    | 3, ho =>
      obtain rfl := Option.some.inj ho
      have d1 : a.tmps.getD 74 undef = .bool false := dep 1 _ _ (by kernel_rfl) rfl rfl
      have e1 : a.tmps[74]?.getD undef = _ := (Array.getD_eq_getD_getElem? ..).symm.trans d1
      have d2 : a.tmps.getD 75 undef = .bool false := dep 2 _ _ (by kernel_rfl) rfl rfl
      have e2 : a.tmps[75]?.getD undef = _ := (Array.getD_eq_getD_getElem? ..).symm.trans d2
      rw [if_pos (wanted_none rfl)]
      refine grow_same (v := .bool false) ?_ rfl
      clear old dep ho hsz hb
      go_simp
    | 4, ho =>
      obtain rfl := Option.some.inj ho
      have d3 : a.tmps.getD 76 undef = .bool false := dep 3 _ _ (by kernel_rfl) rfl rfl
      have e3 : a.tmps[76]?.getD undef = _ := (Array.getD_eq_getD_getElem? ..).symm.trans d3
      rw [if_pos (wanted_none rfl)]
      refine grow_same (v := .bool false) ?_ rfl
      clear old dep ho hsz hb
      go_simp
    | 5, ho =>
      obtain rfl := Option.some.inj ho
      have o8 : a.tmps.getD 8 undef = .bool false := (old 8 (by kernel_rfl)).trans (by simp [Array.getD_eq_getD_getElem?, hs, k3, k4, k5, k7, k8, k9, k10, ptr])
      have oe8 : a.tmps[8]?.getD undef = _ := (Array.getD_eq_getD_getElem? ..).symm.trans o8
      have d4 : a.tmps.getD 77 undef = .bool false := dep 4 _ _ (by kernel_rfl) rfl rfl
      have e4 : a.tmps[77]?.getD undef = _ := (Array.getD_eq_getD_getElem? ..).symm.trans d4
      rw [if_pos (wanted_some rfl rfl rfl (by rw [hsz]; simp [hs, k3, k4, k5, k7, k8, k9, k10, ptr]) d4)]
      refine grow_same (v := .bool false) ?_ rfl
      clear old dep ho hsz hb
      go_simp
    | 6, ho =>
      obtain rfl := Option.some.inj ho
      have d5 : a.tmps.getD 78 undef = .bool false := dep 5 _ _ (by kernel_rfl) rfl rfl
      have e5 : a.tmps[78]?.getD undef = _ := (Array.getD_eq_getD_getElem? ..).symm.trans d5
      have d4 : a.tmps.getD 77 undef = .bool false := dep 4 _ _ (by kernel_rfl) rfl rfl
      have e4 : a.tmps[77]?.getD undef = _ := (Array.getD_eq_getD_getElem? ..).symm.trans d4
      rw [if_pos (wanted_some rfl rfl rfl (by rw [hsz]; simp [hs, k3, k4, k5, k7, k8, k9, k10, ptr]) d4)]
      refine grow_same (v := .bool false) ?_ rfl
      clear old dep ho hsz hb
      go_simp
    | 7, ho =>
      obtain rfl := Option.some.inj ho
      have d6 : a.tmps.getD 79 undef = .bool false := dep 6 _ _ (by kernel_rfl) rfl rfl
      have e6 : a.tmps[79]?.getD undef = _ := (Array.getD_eq_getD_getElem? ..).symm.trans d6
      rw [if_neg (wanted_not rfl rfl rfl (by rw [hsz]; simp [hs, k3, k4, k5, k7, k8, k9, k10, ptr]) d6 rfl)]
      exact rfl
    | 8, ho =>
      obtain rfl := Option.some.inj ho
      have d6 : a.tmps.getD 79 undef = .bool false := dep 6 _ _ (by kernel_rfl) rfl rfl
      have e6 : a.tmps[79]?.getD undef = _ := (Array.getD_eq_getD_getElem? ..).symm.trans d6
      rw [if_neg (wanted_not rfl rfl rfl (by rw [hsz]; simp [hs, k3, k4, k5, k7, k8, k9, k10, ptr]) d6 rfl)]
      exact rfl
    | 9, ho =>
      obtain rfl := Option.some.inj ho
      have d6 : a.tmps.getD 79 undef = .bool false := dep 6 _ _ (by kernel_rfl) rfl rfl
      have e6 : a.tmps[79]?.getD undef = _ := (Array.getD_eq_getD_getElem? ..).symm.trans d6
      rw [if_neg (wanted_not rfl rfl rfl (by rw [hsz]; simp [hs, k3, k4, k5, k7, k8, k9, k10, ptr]) d6 rfl)]
      exact rfl
    | 10, ho =>
      obtain rfl := Option.some.inj ho
      have d6 : a.tmps.getD 79 undef = .bool false := dep 6 _ _ (by kernel_rfl) rfl rfl
      have e6 : a.tmps[79]?.getD undef = _ := (Array.getD_eq_getD_getElem? ..).symm.trans d6
      rw [if_neg (wanted_not rfl rfl rfl (by rw [hsz]; simp [hs, k3, k4, k5, k7, k8, k9, k10, ptr]) d6 rfl)]
      exact rfl
    | 11, ho =>
      obtain rfl := Option.some.inj ho
      have d6 : a.tmps.getD 79 undef = .bool false := dep 6 _ _ (by kernel_rfl) rfl rfl
      have e6 : a.tmps[79]?.getD undef = _ := (Array.getD_eq_getD_getElem? ..).symm.trans d6
      rw [if_neg (wanted_not rfl rfl rfl (by rw [hsz]; simp [hs, k3, k4, k5, k7, k8, k9, k10, ptr]) d6 rfl)]
      exact rfl
    | 12, ho =>
      obtain rfl := Option.some.inj ho
      have d6 : a.tmps.getD 79 undef = .bool false := dep 6 _ _ (by kernel_rfl) rfl rfl
      have e6 : a.tmps[79]?.getD undef = _ := (Array.getD_eq_getD_getElem? ..).symm.trans d6
      rw [if_neg (wanted_not rfl rfl rfl (by rw [hsz]; simp [hs, k3, k4, k5, k7, k8, k9, k10, ptr]) d6 rfl)]
      exact rfl
    | 13, ho =>
      obtain rfl := Option.some.inj ho
      have d6 : a.tmps.getD 79 undef = .bool false := dep 6 _ _ (by kernel_rfl) rfl rfl
      have e6 : a.tmps[79]?.getD undef = _ := (Array.getD_eq_getD_getElem? ..).symm.trans d6
      rw [if_neg (wanted_not rfl rfl rfl (by rw [hsz]; simp [hs, k3, k4, k5, k7, k8, k9, k10, ptr]) d6 rfl)]
      exact rfl
    | 14, ho =>
      obtain rfl := Option.some.inj ho
      have d6 : a.tmps.getD 79 undef = .bool false := dep 6 _ _ (by kernel_rfl) rfl rfl
      have e6 : a.tmps[79]?.getD undef = _ := (Array.getD_eq_getD_getElem? ..).symm.trans d6
      have d13 : a.tmps.getD 86 undef = undef := dep 13 _ _ (by kernel_rfl) rfl rfl
      have e13 : a.tmps[86]?.getD undef = _ := (Array.getD_eq_getD_getElem? ..).symm.trans d13
      have d4 : a.tmps.getD 77 undef = .bool false := dep 4 _ _ (by kernel_rfl) rfl rfl
      have e4 : a.tmps[77]?.getD undef = _ := (Array.getD_eq_getD_getElem? ..).symm.trans d4
      rw [if_pos (wanted_some rfl rfl rfl (by rw [hsz]; simp [hs, k3, k4, k5, k7, k8, k9, k10, ptr]) d4)]
      refine grow_same (v := .bool false) ?_ rfl
      clear old dep ho hsz hb
      go_simp
    | 15, ho =>
      obtain rfl := Option.some.inj ho
      have d4 : a.tmps.getD 77 undef = .bool false := dep 4 _ _ (by kernel_rfl) rfl rfl
      have e4 : a.tmps[77]?.getD undef = _ := (Array.getD_eq_getD_getElem? ..).symm.trans d4
      have d14 : a.tmps.getD 87 undef = .bool false := dep 14 _ _ (by kernel_rfl) rfl rfl
      have e14 : a.tmps[87]?.getD undef = _ := (Array.getD_eq_getD_getElem? ..).symm.trans d14
      rw [if_pos (wanted_none rfl)]
      refine grow_same (v := .bool false) ?_ rfl
      clear old dep ho hsz hb
      go_simp
    | i + 16, ho => exact absurd ho (by simp)
  · intro a w9 hb hsz hdf fin keep
    have kptm2 : Keeps SW tm a.tmps := Keeps.region hsz keep (by kernel_rfl) (by dsimp only; repeat (first | (with_reducible exact Keeps.refl _ _) | ((with_reducible refine Keeps.put ?_ ?_ _); rfl)))
    have hstm2 : a.tmps.size = 264 := hsz.trans (by simp [hs, k3, k4, k5, k7, k8, k9, k10, ptr])
    have vtm2_5 : a.tmps[5]? = some (.int .i64 (n : Int)) := slot_get ((keep 5 (by kernel_rfl)).trans (by simp [Array.getD_eq_getD_getElem?, hs, k3, k4, k5, k7, k8, k9, k10, ptr])) (by omega)
    have vtm2_88 : a.tmps[88]? = some (.bool false) := slot_get (fin 15 _ _ rfl rfl) (by omega)
    obtain ⟨tm2, df⟩ := a
    dsimp only at hdf hsz kptm2 hstm2 vtm2_5 vtm2_88
    subst hdf
    clear fin keep hsz
    have y5 := slot_at vtm2_5 (by omega)
    have y88 := slot_at vtm2_88 (by omega)
    go_upto_if 88 with fail
    refine wp_cond_false (by simp [Act.eval, hstm2, y88]) ?_
    go_wp2
    exact hK _ _ n _ _ _ _ _ _ (by repeat (first | (with_reducible exact kptm2) | ((with_reducible refine Keeps.put ?_ ?_ _); rfl))) (by simp [hstm2, y5]) (by subst hw8; have h2 := h.up; exact h2.below hb)
end Go.Proofs.Ythlclhfepnmaeaa
