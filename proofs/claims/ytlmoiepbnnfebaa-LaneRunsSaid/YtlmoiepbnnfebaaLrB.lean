/-
  LaneRuns' walk: its pieces, a crash, and it is opened.
-/
import Derived.Test.YtlmoiepbnnfebaaLrA
namespace Go.Proofs.Ytlmoiepbnnfebaa
open Go.RowKit
set_option maxRecDepth 20000
set_option linter.unusedSimpArgs false
set_option linter.unusedVariables false

theorem rn_up {w : World} {tm : Array Value} (hs : tm.size = 247) (f9 : tm[9]? = some (.bool false)) {Q : Exit → Act → World → Prop}
    (hK : ∀ tm' : Array Value, Keeps SD0 tm tm' → Q .normal ⟨tm', []⟩ w) :
    Code.wp Try.prog (subC (Try.f3.body.getD .skip) [1,1,1,1,1,1,1,1,0,1,0,0,1,1,0,0,1,1,1]) Q ⟨tm, []⟩ w := by
  conv => arg 2; whnf
  have HK := hide hK
  clear hK
  have k9 := slot_at f9 (by omega)
  clear f9
  go_upto_if 189 with fail
  refine wp_cond_false (by simp [Act.eval, hs]) ?_
  go_wp2
  exact HK.out _ (by repeat (first | (with_reducible exact Keeps.refl _ _) | ((with_reducible refine Keeps.put ?_ ?_ _); rfl)))
set_option maxHeartbeats 4000000 in
theorem rn_dw {w : World} {gy n m s cE ca : Nat} {AE Aa : Option Addr}  (hst : Calls Try.prog 24 #[.slice AE n cE, .slice Aa m ca] w fun e w' => e = .returned (.bool true) ∧ Below w.heap.size w w') (hsn : s ≤ n) (hnm : n ≤ ca) (hn : n ≤ 1000)
    {tm : Array Value} (hs : tm.size = 247) (f22 : tm[22]? = some (ptr gy)) (f23 : tm[23]? = some (.slice AE n cE)) (f6 : tm[6]? = some (.slice Aa m ca)) (f7 : tm[7]? = some (.int .i64 (s : Int))) (f24 : tm[24]? = some (.int .i64 0)) {Q : Exit → Act → World → Prop}
    (hK : ∀ tm' w', Keeps SDN tm tm' → tm'[4]? = some (ptr gy) → tm'[6]? = some (.slice Aa n n) → tm'[7]? = some (.int .i64 (n : Int)) → tm'[9]? = some (.bool false) → tm'[10]? = some (.bool false) → Below w.heap.size w w' → Q .normal ⟨tm', []⟩ w') :
    Code.wp Try.prog (subC (Try.f3.body.getD .skip) [1,1,1,1,1,1,1,1,0,1,0,0,1,1,0,0,1,1,1,1,0,1,1,1]) Q ⟨tm, []⟩ w := by
  conv => arg 2; whnf
  have hun : ∀ b : Bool, ¬ (undef = Value.bool b) := fun b => by simp [undef]
  have k22 := slot_at f22 (by omega)
  have k23 := slot_at f23 (by omega)
  have k6 := slot_at f6 (by omega)
  have k7 := slot_at f7 (by omega)
  have k24 := slot_at f24 (by omega)
  unfold ptr at k22
  clear f22 f23 f6 f7 f24
  have hge : decide ((s : Int) ≤ (n : Int)) = true := by simp; omega
  have HCAP := hide hnm
  have hn2 : (n : Int) ≤ 1000 := by omega
  go_upto_if 232 with (go_at_call 24; ((with_reducible refine hst.mono ?_); rintro e w3 ⟨rfl, hb3⟩; have B3 := hide hb3; clear hb3 hst))
  refine wp_cond_false (by simp [Act.eval, hs, k22, k23, k6, k7, k24, ptr]) ?_
  go_upto_if 234 with fail
  refine wp_cond_false (by simp [Act.eval, hs, k22, k23, k6, k7, k24, ptr]) ?_
  go_upto_region 60 with fail
  refine region_grows_n 247 (by simp [hs, k22, k23, k6, k7, k24, ptr]) [Say.is (.pointer (some ⟨gy, 0, none⟩)), Say.is (.slice Aa m ca), Say.is (.slice AE n cE), Say.is (.int .i64 (n : Int)), Say.is (.slice AE n cE), Say.is (.int .i64 (n : Int)), Say.is (.slice Aa n n), Say.is (.pointer (some ⟨gy, 0, none⟩)), Say.is (.slice Aa n n)] (by kernel_rfl) (by kernel_rfl) (by kernel_rfl) (by kernel_rfl) ?_ ?_
  · intro i o ho a w2 hb hsz old dep
    match i, ho with
    | 0, ho =>
      obtain rfl := Option.some.inj ho
      have o22 : a.tmps.getD 22 undef = .pointer (some ⟨gy, 0, none⟩) := (old 22 (by kernel_rfl)).trans (by simp [Array.getD_eq_getD_getElem?, hs, k22, k23, k6, k7, k24, ptr])
      have oe22 : a.tmps[22]?.getD undef = _ := (Array.getD_eq_getD_getElem? ..).symm.trans o22
      rw [if_pos (wanted_none rfl)]
      refine grow_same (v := .pointer (some ⟨gy, 0, none⟩)) ?_ rfl
      clear old dep ho hsz hb
      go_simp
    | 1, ho =>
      obtain rfl := Option.some.inj ho
      have o6 : a.tmps.getD 6 undef = .slice Aa m ca := (old 6 (by kernel_rfl)).trans (by simp [Array.getD_eq_getD_getElem?, hs, k22, k23, k6, k7, k24, ptr])
      have oe6 : a.tmps[6]?.getD undef = _ := (Array.getD_eq_getD_getElem? ..).symm.trans o6
      rw [if_pos (wanted_none rfl)]
      refine grow_same (v := .slice Aa m ca) ?_ rfl
      clear old dep ho hsz hb
      go_simp
    | 2, ho =>
      obtain rfl := Option.some.inj ho
      have o23 : a.tmps.getD 23 undef = .slice AE n cE := (old 23 (by kernel_rfl)).trans (by simp [Array.getD_eq_getD_getElem?, hs, k22, k23, k6, k7, k24, ptr])
      have oe23 : a.tmps[23]?.getD undef = _ := (Array.getD_eq_getD_getElem? ..).symm.trans o23
      rw [if_pos (wanted_none rfl)]
      refine grow_same (v := .slice AE n cE) ?_ rfl
      clear old dep ho hsz hb
      go_simp
    | 3, ho =>
      obtain rfl := Option.some.inj ho
      have d2 : a.tmps.getD 239 undef = .slice AE n cE := dep 2 _ _ (by kernel_rfl) rfl rfl
      have e2 : a.tmps[239]?.getD undef = _ := (Array.getD_eq_getD_getElem? ..).symm.trans d2
      rw [if_pos (wanted_none rfl)]
      refine grow_same (v := .int .i64 (n : Int)) ?_ rfl
      clear old dep ho hsz hb
      go_simp
    | 4, ho =>
      obtain rfl := Option.some.inj ho
      have o23 : a.tmps.getD 23 undef = .slice AE n cE := (old 23 (by kernel_rfl)).trans (by simp [Array.getD_eq_getD_getElem?, hs, k22, k23, k6, k7, k24, ptr])
      have oe23 : a.tmps[23]?.getD undef = _ := (Array.getD_eq_getD_getElem? ..).symm.trans o23
      rw [if_pos (wanted_none rfl)]
      refine grow_same (v := .slice AE n cE) ?_ rfl
      clear old dep ho hsz hb
      go_simp
    | 5, ho =>
      obtain rfl := Option.some.inj ho
      have d4 : a.tmps.getD 241 undef = .slice AE n cE := dep 4 _ _ (by kernel_rfl) rfl rfl
      have e4 : a.tmps[241]?.getD undef = _ := (Array.getD_eq_getD_getElem? ..).symm.trans d4
      rw [if_pos (wanted_none rfl)]
      refine grow_same (v := .int .i64 (n : Int)) ?_ rfl
      clear old dep ho hsz hb
      go_simp
    | 6, ho =>
      obtain rfl := Option.some.inj ho
      have d1 : a.tmps.getD 238 undef = .slice Aa m ca := dep 1 _ _ (by kernel_rfl) rfl rfl
      have e1 : a.tmps[238]?.getD undef = _ := (Array.getD_eq_getD_getElem? ..).symm.trans d1
      have d3 : a.tmps.getD 240 undef = .int .i64 (n : Int) := dep 3 _ _ (by kernel_rfl) rfl rfl
      have e3 : a.tmps[240]?.getD undef = _ := (Array.getD_eq_getD_getElem? ..).symm.trans d3
      have d5 : a.tmps.getD 242 undef = .int .i64 (n : Int) := dep 5 _ _ (by kernel_rfl) rfl rfl
      have e5 : a.tmps[242]?.getD undef = _ := (Array.getD_eq_getD_getElem? ..).symm.trans d5
      rw [if_pos (wanted_none rfl)]
      refine grow_same (v := .slice Aa n n) (exec_lowR n rfl d1 d3 d5 HCAP.out) rfl
    | 7, ho =>
      obtain rfl := Option.some.inj ho
      have d0 : a.tmps.getD 237 undef = .pointer (some ⟨gy, 0, none⟩) := dep 0 _ _ (by kernel_rfl) rfl rfl
      have e0 : a.tmps[237]?.getD undef = _ := (Array.getD_eq_getD_getElem? ..).symm.trans d0
      rw [if_pos (wanted_none rfl)]
      refine grow_same (v := .pointer (some ⟨gy, 0, none⟩)) ?_ rfl
      clear old dep ho hsz hb
      go_simp
    | 8, ho =>
      obtain rfl := Option.some.inj ho
      have d6 : a.tmps.getD 243 undef = .slice Aa n n := dep 6 _ _ (by kernel_rfl) rfl rfl
      have e6 : a.tmps[243]?.getD undef = _ := (Array.getD_eq_getD_getElem? ..).symm.trans d6
      rw [if_pos (wanted_none rfl)]
      refine grow_same (v := .slice Aa n n) ?_ rfl
      clear old dep ho hsz hb
      go_simp
    | i + 9, ho => exact absurd ho (by simp)
  · intro a w3' hb hsz hdf fin keep
    have kptm2 : Keeps SDN tm a.tmps := Keeps.region hsz keep (by kernel_rfl) (by dsimp only; repeat (first | (with_reducible exact Keeps.refl _ _) | ((with_reducible refine Keeps.put ?_ ?_ _); rfl)))
    have hstm2 : a.tmps.size = 247 := hsz.trans (by simp [hs, k22, k23, k6, k7, k24, ptr])
    have vtm2_4 : a.tmps[4]? = some (.pointer (some ⟨gy, 0, none⟩)) := slot_get (fin 7 _ _ rfl rfl) (by omega)
    have vtm2_6 : a.tmps[6]? = some (.slice Aa n n) := slot_get (fin 8 _ _ rfl rfl) (by omega)
    obtain ⟨tm2, df⟩ := a
    dsimp only at hdf hsz kptm2 hstm2 vtm2_4 vtm2_6
    subst hdf
    clear fin keep hsz
    have z4 := slot_at vtm2_4 (by omega)
    have z6 := slot_at vtm2_6 (by omega)
    go_wp2
    exact hK _ _ (by repeat (first | (with_reducible exact kptm2) | ((with_reducible refine Keeps.put ?_ ?_ _); rfl))) (by simp [hstm2, z4, ptr]) (by simp [hstm2, z6]) (by simp [hstm2]) (by simp [hstm2]) (by simp [hstm2]) (B3.out.trans (hb.mono B3.out.size))
set_option maxHeartbeats 4000000 in
theorem rn_3w {w : World} {gy n m s cE ca : Nat} {AE Aa : Option Addr}  (hst : Calls Try.prog 24 #[.slice AE n cE, .slice Aa m ca] w fun e w' => e = .returned (.bool true) ∧ Below w.heap.size w w') (hsn : s ≤ n) (hnm : n ≤ ca) (hn : n ≤ 1000)
    {tm : Array Value} (hs : tm.size = 247) (f18 : tm[18]? = some (ptr gy)) (f19 : tm[19]? = some (.slice AE n cE)) (f6 : tm[6]? = some (.slice Aa m ca)) (f7 : tm[7]? = some (.int .i64 (s : Int))) {Q : Exit → Act → World → Prop}
    (hK : ∀ tm' w', Keeps SSW tm tm' → tm'[4]? = some (ptr gy) → tm'[6]? = some (.slice Aa n n) → tm'[7]? = some (.int .i64 (n : Int)) → tm'[9]? = some (.bool false) → tm'[10]? = some (.bool false) → Below w.heap.size w w' → Q .normal ⟨tm', []⟩ w') :
    Code.wp Try.prog (subC (Try.f3.body.getD .skip) [1,1,1,1,1,1,1,1,0,1,0,0,1,1,0,0,1,0,1,0,1,1,1,1,1,1,1,0,1,1,1]) Q ⟨tm, []⟩ w := by
  conv => arg 2; whnf
  have hun : ∀ b : Bool, ¬ (undef = Value.bool b) := fun b => by simp [undef]
  have k18 := slot_at f18 (by omega)
  have k19 := slot_at f19 (by omega)
  have k6 := slot_at f6 (by omega)
  have k7 := slot_at f7 (by omega)
  unfold ptr at k18
  clear f18 f19 f6 f7
  have hge : decide ((s : Int) ≤ (n : Int)) = true := by simp; omega
  have HCAP := hide hnm
  have hn2 : (n : Int) ≤ 1000 := by omega
  go_upto_if 162 with (go_at_call 24; ((with_reducible refine hst.mono ?_); rintro e w3 ⟨rfl, hb3⟩; have B3 := hide hb3; clear hb3 hst))
  refine wp_cond_false (by simp [Act.eval, hs, k18, k19, k6, k7, ptr]) ?_
  go_upto_if 164 with fail
  refine wp_cond_false (by simp [Act.eval, hs, k18, k19, k6, k7, ptr]) ?_
  go_upto_region 47 with fail
  refine region_grows_n 247 (by simp [hs, k18, k19, k6, k7, ptr]) [Say.is (.pointer (some ⟨gy, 0, none⟩)), Say.is (.slice Aa m ca), Say.is (.slice AE n cE), Say.is (.int .i64 (n : Int)), Say.is (.slice AE n cE), Say.is (.int .i64 (n : Int)), Say.is (.slice Aa n n), Say.is (.pointer (some ⟨gy, 0, none⟩)), Say.is (.slice Aa n n)] (by kernel_rfl) (by kernel_rfl) (by kernel_rfl) (by kernel_rfl) ?_ ?_
  · intro i o ho a w2 hb hsz old dep
    match i, ho with
    | 0, ho =>
      obtain rfl := Option.some.inj ho
      have o18 : a.tmps.getD 18 undef = .pointer (some ⟨gy, 0, none⟩) := (old 18 (by kernel_rfl)).trans (by simp [Array.getD_eq_getD_getElem?, hs, k18, k19, k6, k7, ptr])
      have oe18 : a.tmps[18]?.getD undef = _ := (Array.getD_eq_getD_getElem? ..).symm.trans o18
      rw [if_pos (wanted_none rfl)]
      refine grow_same (v := .pointer (some ⟨gy, 0, none⟩)) ?_ rfl
      clear old dep ho hsz hb
      go_simp
    | 1, ho =>
      obtain rfl := Option.some.inj ho
      have o6 : a.tmps.getD 6 undef = .slice Aa m ca := (old 6 (by kernel_rfl)).trans (by simp [Array.getD_eq_getD_getElem?, hs, k18, k19, k6, k7, ptr])
      have oe6 : a.tmps[6]?.getD undef = _ := (Array.getD_eq_getD_getElem? ..).symm.trans o6
      rw [if_pos (wanted_none rfl)]
      refine grow_same (v := .slice Aa m ca) ?_ rfl
      clear old dep ho hsz hb
      go_simp
    | 2, ho =>
      obtain rfl := Option.some.inj ho
      have o19 : a.tmps.getD 19 undef = .slice AE n cE := (old 19 (by kernel_rfl)).trans (by simp [Array.getD_eq_getD_getElem?, hs, k18, k19, k6, k7, ptr])
      have oe19 : a.tmps[19]?.getD undef = _ := (Array.getD_eq_getD_getElem? ..).symm.trans o19
      rw [if_pos (wanted_none rfl)]
      refine grow_same (v := .slice AE n cE) ?_ rfl
      clear old dep ho hsz hb
      go_simp
    | 3, ho =>
      obtain rfl := Option.some.inj ho
      have d2 : a.tmps.getD 169 undef = .slice AE n cE := dep 2 _ _ (by kernel_rfl) rfl rfl
      have e2 : a.tmps[169]?.getD undef = _ := (Array.getD_eq_getD_getElem? ..).symm.trans d2
      rw [if_pos (wanted_none rfl)]
      refine grow_same (v := .int .i64 (n : Int)) ?_ rfl
      clear old dep ho hsz hb
      go_simp
    | 4, ho =>
      obtain rfl := Option.some.inj ho
      have o19 : a.tmps.getD 19 undef = .slice AE n cE := (old 19 (by kernel_rfl)).trans (by simp [Array.getD_eq_getD_getElem?, hs, k18, k19, k6, k7, ptr])
      have oe19 : a.tmps[19]?.getD undef = _ := (Array.getD_eq_getD_getElem? ..).symm.trans o19
      rw [if_pos (wanted_none rfl)]
      refine grow_same (v := .slice AE n cE) ?_ rfl
      clear old dep ho hsz hb
      go_simp
    | 5, ho =>
      obtain rfl := Option.some.inj ho
      have d4 : a.tmps.getD 171 undef = .slice AE n cE := dep 4 _ _ (by kernel_rfl) rfl rfl
      have e4 : a.tmps[171]?.getD undef = _ := (Array.getD_eq_getD_getElem? ..).symm.trans d4
      rw [if_pos (wanted_none rfl)]
      refine grow_same (v := .int .i64 (n : Int)) ?_ rfl
      clear old dep ho hsz hb
      go_simp
    | 6, ho =>
      obtain rfl := Option.some.inj ho
      have d1 : a.tmps.getD 168 undef = .slice Aa m ca := dep 1 _ _ (by kernel_rfl) rfl rfl
      have e1 : a.tmps[168]?.getD undef = _ := (Array.getD_eq_getD_getElem? ..).symm.trans d1
      have d3 : a.tmps.getD 170 undef = .int .i64 (n : Int) := dep 3 _ _ (by kernel_rfl) rfl rfl
      have e3 : a.tmps[170]?.getD undef = _ := (Array.getD_eq_getD_getElem? ..).symm.trans d3
      have d5 : a.tmps.getD 172 undef = .int .i64 (n : Int) := dep 5 _ _ (by kernel_rfl) rfl rfl
      have e5 : a.tmps[172]?.getD undef = _ := (Array.getD_eq_getD_getElem? ..).symm.trans d5
      rw [if_pos (wanted_none rfl)]
      refine grow_same (v := .slice Aa n n) (exec_lowR n rfl d1 d3 d5 HCAP.out) rfl
    | 7, ho =>
      obtain rfl := Option.some.inj ho
      have d0 : a.tmps.getD 167 undef = .pointer (some ⟨gy, 0, none⟩) := dep 0 _ _ (by kernel_rfl) rfl rfl
      have e0 : a.tmps[167]?.getD undef = _ := (Array.getD_eq_getD_getElem? ..).symm.trans d0
      rw [if_pos (wanted_none rfl)]
      refine grow_same (v := .pointer (some ⟨gy, 0, none⟩)) ?_ rfl
      clear old dep ho hsz hb
      go_simp
    | 8, ho =>
      obtain rfl := Option.some.inj ho
      have d6 : a.tmps.getD 173 undef = .slice Aa n n := dep 6 _ _ (by kernel_rfl) rfl rfl
      have e6 : a.tmps[173]?.getD undef = _ := (Array.getD_eq_getD_getElem? ..).symm.trans d6
      rw [if_pos (wanted_none rfl)]
      refine grow_same (v := .slice Aa n n) ?_ rfl
      clear old dep ho hsz hb
      go_simp
    | i + 9, ho => exact absurd ho (by simp)
  · intro a w3' hb hsz hdf fin keep
    have kptm2 : Keeps SSW tm a.tmps := Keeps.region hsz keep (by kernel_rfl) (by dsimp only; repeat (first | (with_reducible exact Keeps.refl _ _) | ((with_reducible refine Keeps.put ?_ ?_ _); rfl)))
    have hstm2 : a.tmps.size = 247 := hsz.trans (by simp [hs, k18, k19, k6, k7, ptr])
    have vtm2_4 : a.tmps[4]? = some (.pointer (some ⟨gy, 0, none⟩)) := slot_get (fin 7 _ _ rfl rfl) (by omega)
    have vtm2_6 : a.tmps[6]? = some (.slice Aa n n) := slot_get (fin 8 _ _ rfl rfl) (by omega)
    obtain ⟨tm2, df⟩ := a
    dsimp only at hdf hsz kptm2 hstm2 vtm2_4 vtm2_6
    subst hdf
    clear fin keep hsz
    have z4 := slot_at vtm2_4 (by omega)
    have z6 := slot_at vtm2_6 (by omega)
    go_wp2
    exact hK _ _ (by repeat (first | (with_reducible exact kptm2) | ((with_reducible refine Keeps.put ?_ ?_ _); rfl))) (by simp [hstm2, z4, ptr]) (by simp [hstm2, z6]) (by simp [hstm2]) (by simp [hstm2]) (by simp [hstm2]) (B3.out.trans (hb.mono B3.out.size))
set_option maxHeartbeats 4000000 in
theorem rn_dn_ {w : World} {gy n m s cE ca co : Nat} {AE Aa Ao : Option Addr} {b : Bool} {X : Nat → Prop} {rs : List Rc}  (hst : Calls Try.prog 24 #[.slice AE n cE, .slice Aa m ca] w fun e w' => e = .returned (.bool b) ∧ Below w.heap.size w w') (hb : (b && decide ((s : Int) ≤ (n : Int))) = false) (hso : ∀ w', Below w.heap.size w w' → Calls Try.prog 24 #[.slice AE n cE, .slice Ao n co] w' fun e w'' => e = .returned (.bool true) ∧ Below w'.heap.size w' w'') (hr : RecsAt w X (.slice Ao n co) rs) (hX : ∀ k, X k → k < w.heap.size) (hn : n ≤ 1000)
    {tm : Array Value} (hs : tm.size = 247) (f22 : tm[22]? = some (ptr gy)) (f23 : tm[23]? = some (.slice AE n cE)) (f6 : tm[6]? = some (.slice Aa m ca)) (f7 : tm[7]? = some (.int .i64 (s : Int))) (f24 : tm[24]? = some (.int .i64 0)) (f8 : tm[8]? = some (.slice Ao n co)) (f10 : tm[10]? = some (.bool true)) {Q : Exit → Act → World → Prop}
    (hK : ∀ tm' w' A', Keeps SDN tm tm' → tm'[4]? = some (ptr gy) → tm'[6]? = some (.slice A' n n) → tm'[7]? = some (.int .i64 (n : Int)) → tm'[9]? = some (.bool false) → tm'[10]? = some (.bool false) → RecsAt w' (fun k => X k ∨ w.heap.size ≤ k) (.slice A' n n) rs → Below w.heap.size w w' → Q .normal ⟨tm', []⟩ w') :
    Code.wp Try.prog (subC (Try.f3.body.getD .skip) [1,1,1,1,1,1,1,1,0,1,0,0,1,1,0,0,1,1,1,1,0,1,1,1]) Q ⟨tm, []⟩ w := by
  conv => arg 2; whnf
  have hun : ∀ b : Bool, ¬ (undef = Value.bool b) := fun b => by simp [undef]
  have k22 := slot_at f22 (by omega)
  have k23 := slot_at f23 (by omega)
  have k6 := slot_at f6 (by omega)
  have k7 := slot_at f7 (by omega)
  have k24 := slot_at f24 (by omega)
  have k8 := slot_at f8 (by omega)
  have k10 := slot_at f10 (by omega)
  unfold ptr at k22
  clear f22 f23 f6 f7 f24 f8 f10
  have HSO := hide hso
  have HR := hide hr
  have HX := hide hX
  have HRL := hide (show rs.length = n by obtain ⟨_, _, e, _⟩ := hr; injection e with _ e _; exact e.symm)
  have hn2 : (n : Int) ≤ 1000 := by omega
  clear hso hr hX
  cases b
  · skip
    go_upto_if 232 with (first | (go_at_call 24; ((with_reducible refine hst.mono ?_); rintro e w3 ⟨rfl, hb3⟩; have B3 := hide hb3; have hs4 := HSO.out w3 hb3; clear hb3 hst)) | (go_at_call 24; ((with_reducible refine hs4.mono ?_); rintro e w4 ⟨rfl, hb4⟩; have B4 := hide (B3.out.trans (hb4.mono B3.out.size)); obtain ⟨v5, w5, hrun, hrec, hb5⟩ := run_nil_recs (HR.out.below B4.out) (by omega) (fun k hk => Nat.lt_of_lt_of_le (HX.out k hk) B4.out.size); have R5 := hide (hrec.sub (Y := fun k => X k ∨ w.heap.size ≤ k) (fun k _ hk => hk.imp id (fun h => Nat.le_trans B4.out.size h))); have B5 := hide (B4.out.trans (hb5.mono B4.out.size)); obtain ⟨A5, c5, ev5, hc5⟩ := hrec.form; rw [HRL.out] at ev5 hc5; subst ev5; have HCAP := hide hc5; clear hb4 hs4 hrec hb5 hc5)))
    refine wp_cond_false (by simp [Act.eval, hs, k22, k23, k6, k7, k24, k8, k10, ptr]) ?_
    go_upto_if 234 with fail
    refine wp_cond_true (by simp [Act.eval, hs, k22, k23, k6, k7, k24, k8, k10, ptr]) ?_
    go_upto_region 60 with (at_builtin; refine wpList_run (by first | rfl | simp [Region.wanted, yielded]) (.const (.slice none 0 0)) (.tmp 235) 34 rfl rfl (by simp [Act.eval, hs, k22, k23, k6, k7, k24, k8, k10, ptr]) hrun ?_)
    refine region_grows_n 247 (by simp [hs, k22, k23, k6, k7, k24, k8, k10, ptr]) [Say.is (.pointer (some ⟨gy, 0, none⟩)), Say.is (.slice A5 n c5), Say.is (.slice AE n cE), Say.is (.int .i64 (n : Int)), Say.is (.slice AE n cE), Say.is (.int .i64 (n : Int)), Say.is (.slice A5 n n), Say.is (.pointer (some ⟨gy, 0, none⟩)), Say.is (.slice A5 n n)] (by kernel_rfl) (by kernel_rfl) (by kernel_rfl) (by kernel_rfl) ?_ ?_
    · intro i o ho a w2 hb hsz old dep
      match i, ho with
      | 0, ho =>
        obtain rfl := Option.some.inj ho
        have o22 : a.tmps.getD 22 undef = .pointer (some ⟨gy, 0, none⟩) := (old 22 (by kernel_rfl)).trans (by simp [Array.getD_eq_getD_getElem?, hs, k22, k23, k6, k7, k24, k8, k10, ptr])
        have oe22 : a.tmps[22]?.getD undef = _ := (Array.getD_eq_getD_getElem? ..).symm.trans o22
        rw [if_pos (wanted_none rfl)]
        refine grow_same (v := .pointer (some ⟨gy, 0, none⟩)) ?_ rfl
        clear old dep ho hsz hb
        go_simp
      | 1, ho =>
        obtain rfl := Option.some.inj ho
        have o6 : a.tmps.getD 6 undef = .slice A5 n c5 := (old 6 (by kernel_rfl)).trans (by simp [Array.getD_eq_getD_getElem?, hs, k22, k23, k6, k7, k24, k8, k10, ptr])
        have oe6 : a.tmps[6]?.getD undef = _ := (Array.getD_eq_getD_getElem? ..).symm.trans o6
        rw [if_pos (wanted_none rfl)]
        refine grow_same (v := .slice A5 n c5) ?_ rfl
        clear old dep ho hsz hb
        go_simp
      | 2, ho =>
        obtain rfl := Option.some.inj ho
        have o23 : a.tmps.getD 23 undef = .slice AE n cE := (old 23 (by kernel_rfl)).trans (by simp [Array.getD_eq_getD_getElem?, hs, k22, k23, k6, k7, k24, k8, k10, ptr])
        have oe23 : a.tmps[23]?.getD undef = _ := (Array.getD_eq_getD_getElem? ..).symm.trans o23
        rw [if_pos (wanted_none rfl)]
        refine grow_same (v := .slice AE n cE) ?_ rfl
        clear old dep ho hsz hb
        go_simp
      | 3, ho =>
        obtain rfl := Option.some.inj ho
        have d2 : a.tmps.getD 239 undef = .slice AE n cE := dep 2 _ _ (by kernel_rfl) rfl rfl
        have e2 : a.tmps[239]?.getD undef = _ := (Array.getD_eq_getD_getElem? ..).symm.trans d2
        rw [if_pos (wanted_none rfl)]
        refine grow_same (v := .int .i64 (n : Int)) ?_ rfl
        clear old dep ho hsz hb
        go_simp
      | 4, ho =>
        obtain rfl := Option.some.inj ho
        have o23 : a.tmps.getD 23 undef = .slice AE n cE := (old 23 (by kernel_rfl)).trans (by simp [Array.getD_eq_getD_getElem?, hs, k22, k23, k6, k7, k24, k8, k10, ptr])
        have oe23 : a.tmps[23]?.getD undef = _ := (Array.getD_eq_getD_getElem? ..).symm.trans o23
        rw [if_pos (wanted_none rfl)]
        refine grow_same (v := .slice AE n cE) ?_ rfl
        clear old dep ho hsz hb
        go_simp
      | 5, ho =>
        obtain rfl := Option.some.inj ho
        have d4 : a.tmps.getD 241 undef = .slice AE n cE := dep 4 _ _ (by kernel_rfl) rfl rfl
        have e4 : a.tmps[241]?.getD undef = _ := (Array.getD_eq_getD_getElem? ..).symm.trans d4
        rw [if_pos (wanted_none rfl)]
        refine grow_same (v := .int .i64 (n : Int)) ?_ rfl
        clear old dep ho hsz hb
        go_simp
      | 6, ho =>
        obtain rfl := Option.some.inj ho
        have d1 : a.tmps.getD 238 undef = .slice A5 n c5 := dep 1 _ _ (by kernel_rfl) rfl rfl
        have e1 : a.tmps[238]?.getD undef = _ := (Array.getD_eq_getD_getElem? ..).symm.trans d1
        have d3 : a.tmps.getD 240 undef = .int .i64 (n : Int) := dep 3 _ _ (by kernel_rfl) rfl rfl
        have e3 : a.tmps[240]?.getD undef = _ := (Array.getD_eq_getD_getElem? ..).symm.trans d3
        have d5 : a.tmps.getD 242 undef = .int .i64 (n : Int) := dep 5 _ _ (by kernel_rfl) rfl rfl
        have e5 : a.tmps[242]?.getD undef = _ := (Array.getD_eq_getD_getElem? ..).symm.trans d5
        rw [if_pos (wanted_none rfl)]
        refine grow_same (v := .slice A5 n n) (exec_lowR n rfl d1 d3 d5 HCAP.out) rfl
      | 7, ho =>
        obtain rfl := Option.some.inj ho
        have d0 : a.tmps.getD 237 undef = .pointer (some ⟨gy, 0, none⟩) := dep 0 _ _ (by kernel_rfl) rfl rfl
        have e0 : a.tmps[237]?.getD undef = _ := (Array.getD_eq_getD_getElem? ..).symm.trans d0
        rw [if_pos (wanted_none rfl)]
        refine grow_same (v := .pointer (some ⟨gy, 0, none⟩)) ?_ rfl
        clear old dep ho hsz hb
        go_simp
      | 8, ho =>
        obtain rfl := Option.some.inj ho
        have d6 : a.tmps.getD 243 undef = .slice A5 n n := dep 6 _ _ (by kernel_rfl) rfl rfl
        have e6 : a.tmps[243]?.getD undef = _ := (Array.getD_eq_getD_getElem? ..).symm.trans d6
        rw [if_pos (wanted_none rfl)]
        refine grow_same (v := .slice A5 n n) ?_ rfl
        clear old dep ho hsz hb
        go_simp
      | i + 9, ho => exact absurd ho (by simp)
    · intro a w5' hb hsz hdf fin keep
      have kptm2 : Keeps SDN tm a.tmps := Keeps.region hsz keep (by kernel_rfl) (by dsimp only; repeat (first | (with_reducible exact Keeps.refl _ _) | ((with_reducible refine Keeps.put ?_ ?_ _); rfl)))
      have hstm2 : a.tmps.size = 247 := hsz.trans (by simp [hs, k22, k23, k6, k7, k24, k8, k10, ptr])
      have vtm2_4 : a.tmps[4]? = some (.pointer (some ⟨gy, 0, none⟩)) := slot_get (fin 7 _ _ rfl rfl) (by omega)
      have vtm2_6 : a.tmps[6]? = some (.slice A5 n n) := slot_get (fin 8 _ _ rfl rfl) (by omega)
      obtain ⟨tm2, df⟩ := a
      dsimp only at hdf hsz kptm2 hstm2 vtm2_4 vtm2_6
      subst hdf
      clear fin keep hsz
      have z4 := slot_at vtm2_4 (by omega)
      have z6 := slot_at vtm2_6 (by omega)
      go_wp2
      exact hK _ _ A5 (by repeat (first | (with_reducible exact kptm2) | ((with_reducible refine Keeps.put ?_ ?_ _); rfl))) (by simp [hstm2, z4, ptr]) (by simp [hstm2, z6]) (by simp [hstm2]) (by simp [hstm2]) (by simp [hstm2]) (by have := (RecsN.low R5.out (k := n) (Nat.le_refl _)).below hb; rwa [List.take_of_length_le (by rw [HRL.out]; exact Nat.le_refl _)] at this) (B5.out.trans (hb.mono B5.out.size))
  · skip
    have hge : decide ((s : Int) ≤ (n : Int)) = false := hb
    have hge2 : ¬ s ≤ n := by simp at hge; omega
    have hge3 : decide (s ≤ n) = false := decide_eq_false hge2
    go_upto_if 232 with (first | (go_at_call 24; ((with_reducible refine hst.mono ?_); rintro e w3 ⟨rfl, hb3⟩; have B3 := hide hb3; have hs4 := HSO.out w3 hb3; clear hb3 hst)) | (go_at_call 24; ((with_reducible refine hs4.mono ?_); rintro e w4 ⟨rfl, hb4⟩; have B4 := hide (B3.out.trans (hb4.mono B3.out.size)); obtain ⟨v5, w5, hrun, hrec, hb5⟩ := run_nil_recs (HR.out.below B4.out) (by omega) (fun k hk => Nat.lt_of_lt_of_le (HX.out k hk) B4.out.size); have R5 := hide (hrec.sub (Y := fun k => X k ∨ w.heap.size ≤ k) (fun k _ hk => hk.imp id (fun h => Nat.le_trans B4.out.size h))); have B5 := hide (B4.out.trans (hb5.mono B4.out.size)); obtain ⟨A5, c5, ev5, hc5⟩ := hrec.form; rw [HRL.out] at ev5 hc5; subst ev5; have HCAP := hide hc5; clear hb4 hs4 hrec hb5 hc5)))
    refine wp_cond_false (by simp [Act.eval, hs, k22, k23, k6, k7, k24, k8, k10, ptr]) ?_
    go_upto_if 234 with fail
    refine wp_cond_true (by simp [Act.eval, hs, k22, k23, k6, k7, k24, k8, k10, ptr]) ?_
    go_upto_region 60 with (at_builtin; refine wpList_run (by first | rfl | simp [Region.wanted, yielded]) (.const (.slice none 0 0)) (.tmp 235) 34 rfl rfl (by simp [Act.eval, hs, k22, k23, k6, k7, k24, k8, k10, ptr]) hrun ?_)
    refine region_grows_n 247 (by simp [hs, k22, k23, k6, k7, k24, k8, k10, ptr]) [Say.is (.pointer (some ⟨gy, 0, none⟩)), Say.is (.slice A5 n c5), Say.is (.slice AE n cE), Say.is (.int .i64 (n : Int)), Say.is (.slice AE n cE), Say.is (.int .i64 (n : Int)), Say.is (.slice A5 n n), Say.is (.pointer (some ⟨gy, 0, none⟩)), Say.is (.slice A5 n n)] (by kernel_rfl) (by kernel_rfl) (by kernel_rfl) (by kernel_rfl) ?_ ?_
    · intro i o ho a w2 hb hsz old dep
      match i, ho with
      | 0, ho =>
        obtain rfl := Option.some.inj ho
        have o22 : a.tmps.getD 22 undef = .pointer (some ⟨gy, 0, none⟩) := (old 22 (by kernel_rfl)).trans (by simp [Array.getD_eq_getD_getElem?, hs, k22, k23, k6, k7, k24, k8, k10, ptr])
        have oe22 : a.tmps[22]?.getD undef = _ := (Array.getD_eq_getD_getElem? ..).symm.trans o22
        rw [if_pos (wanted_none rfl)]
        refine grow_same (v := .pointer (some ⟨gy, 0, none⟩)) ?_ rfl
        clear old dep ho hsz hb
        go_simp
      | 1, ho =>
        obtain rfl := Option.some.inj ho
        have o6 : a.tmps.getD 6 undef = .slice A5 n c5 := (old 6 (by kernel_rfl)).trans (by simp [Array.getD_eq_getD_getElem?, hs, k22, k23, k6, k7, k24, k8, k10, ptr])
        have oe6 : a.tmps[6]?.getD undef = _ := (Array.getD_eq_getD_getElem? ..).symm.trans o6
        rw [if_pos (wanted_none rfl)]
        refine grow_same (v := .slice A5 n c5) ?_ rfl
        clear old dep ho hsz hb
        go_simp
      | 2, ho =>
        obtain rfl := Option.some.inj ho
        have o23 : a.tmps.getD 23 undef = .slice AE n cE := (old 23 (by kernel_rfl)).trans (by simp [Array.getD_eq_getD_getElem?, hs, k22, k23, k6, k7, k24, k8, k10, ptr])
        have oe23 : a.tmps[23]?.getD undef = _ := (Array.getD_eq_getD_getElem? ..).symm.trans o23
        rw [if_pos (wanted_none rfl)]
        refine grow_same (v := .slice AE n cE) ?_ rfl
        clear old dep ho hsz hb
        go_simp
      | 3, ho =>
        obtain rfl := Option.some.inj ho
        have d2 : a.tmps.getD 239 undef = .slice AE n cE := dep 2 _ _ (by kernel_rfl) rfl rfl
        have e2 : a.tmps[239]?.getD undef = _ := (Array.getD_eq_getD_getElem? ..).symm.trans d2
        rw [if_pos (wanted_none rfl)]
        refine grow_same (v := .int .i64 (n : Int)) ?_ rfl
        clear old dep ho hsz hb
        go_simp
      | 4, ho =>
        obtain rfl := Option.some.inj ho
        have o23 : a.tmps.getD 23 undef = .slice AE n cE := (old 23 (by kernel_rfl)).trans (by simp [Array.getD_eq_getD_getElem?, hs, k22, k23, k6, k7, k24, k8, k10, ptr])
        have oe23 : a.tmps[23]?.getD undef = _ := (Array.getD_eq_getD_getElem? ..).symm.trans o23
        rw [if_pos (wanted_none rfl)]
        refine grow_same (v := .slice AE n cE) ?_ rfl
        clear old dep ho hsz hb
        go_simp
      | 5, ho =>
        obtain rfl := Option.some.inj ho
        have d4 : a.tmps.getD 241 undef = .slice AE n cE := dep 4 _ _ (by kernel_rfl) rfl rfl
        have e4 : a.tmps[241]?.getD undef = _ := (Array.getD_eq_getD_getElem? ..).symm.trans d4
        rw [if_pos (wanted_none rfl)]
        refine grow_same (v := .int .i64 (n : Int)) ?_ rfl
        clear old dep ho hsz hb
        go_simp
      | 6, ho =>
        obtain rfl := Option.some.inj ho
        have d1 : a.tmps.getD 238 undef = .slice A5 n c5 := dep 1 _ _ (by kernel_rfl) rfl rfl
        have e1 : a.tmps[238]?.getD undef = _ := (Array.getD_eq_getD_getElem? ..).symm.trans d1
        have d3 : a.tmps.getD 240 undef = .int .i64 (n : Int) := dep 3 _ _ (by kernel_rfl) rfl rfl
        have e3 : a.tmps[240]?.getD undef = _ := (Array.getD_eq_getD_getElem? ..).symm.trans d3
        have d5 : a.tmps.getD 242 undef = .int .i64 (n : Int) := dep 5 _ _ (by kernel_rfl) rfl rfl
        have e5 : a.tmps[242]?.getD undef = _ := (Array.getD_eq_getD_getElem? ..).symm.trans d5
        rw [if_pos (wanted_none rfl)]
        refine grow_same (v := .slice A5 n n) (exec_lowR n rfl d1 d3 d5 HCAP.out) rfl
      | 7, ho =>
        obtain rfl := Option.some.inj ho
        have d0 : a.tmps.getD 237 undef = .pointer (some ⟨gy, 0, none⟩) := dep 0 _ _ (by kernel_rfl) rfl rfl
        have e0 : a.tmps[237]?.getD undef = _ := (Array.getD_eq_getD_getElem? ..).symm.trans d0
        rw [if_pos (wanted_none rfl)]
        refine grow_same (v := .pointer (some ⟨gy, 0, none⟩)) ?_ rfl
        clear old dep ho hsz hb
        go_simp
      | 8, ho =>
        obtain rfl := Option.some.inj ho
        have d6 : a.tmps.getD 243 undef = .slice A5 n n := dep 6 _ _ (by kernel_rfl) rfl rfl
        have e6 : a.tmps[243]?.getD undef = _ := (Array.getD_eq_getD_getElem? ..).symm.trans d6
        rw [if_pos (wanted_none rfl)]
        refine grow_same (v := .slice A5 n n) ?_ rfl
        clear old dep ho hsz hb
        go_simp
      | i + 9, ho => exact absurd ho (by simp)
    · intro a w5' hb hsz hdf fin keep
      have kptm2 : Keeps SDN tm a.tmps := Keeps.region hsz keep (by kernel_rfl) (by dsimp only; repeat (first | (with_reducible exact Keeps.refl _ _) | ((with_reducible refine Keeps.put ?_ ?_ _); rfl)))
      have hstm2 : a.tmps.size = 247 := hsz.trans (by simp [hs, k22, k23, k6, k7, k24, k8, k10, ptr])
      have vtm2_4 : a.tmps[4]? = some (.pointer (some ⟨gy, 0, none⟩)) := slot_get (fin 7 _ _ rfl rfl) (by omega)
      have vtm2_6 : a.tmps[6]? = some (.slice A5 n n) := slot_get (fin 8 _ _ rfl rfl) (by omega)
      obtain ⟨tm2, df⟩ := a
      dsimp only at hdf hsz kptm2 hstm2 vtm2_4 vtm2_6
      subst hdf
      clear fin keep hsz
      have z4 := slot_at vtm2_4 (by omega)
      have z6 := slot_at vtm2_6 (by omega)
      go_wp2
      exact hK _ _ A5 (by repeat (first | (with_reducible exact kptm2) | ((with_reducible refine Keeps.put ?_ ?_ _); rfl))) (by simp [hstm2, z4, ptr]) (by simp [hstm2, z6]) (by simp [hstm2]) (by simp [hstm2]) (by simp [hstm2]) (by have := (RecsN.low R5.out (k := n) (Nat.le_refl _)).below hb; rwa [List.take_of_length_le (by rw [HRL.out]; exact Nat.le_refl _)] at this) (B5.out.trans (hb.mono B5.out.size))
end Go.Proofs.Ytlmoiepbnnfebaa
