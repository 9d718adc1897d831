/-
  The walk of DiskRuns: its pieces, a crash.
-/
import Derived.Test.YthlclhfepnmaeaaRunsD
import Derived.Test.YthlclhfepnmaeaaRunsC
namespace Go.Proofs.Ythlclhfepnmaeaa
open Go.RowKit
set_option linter.unusedSimpArgs false
set_option linter.unusedVariables false

/-- The first i are as f has them. -/
def cr {α : Type} (i : Nat) (f g : Nat → α) (q : Nat) : α := if q < i then f q else g q
theorem cr_zero {α : Type} (f g : Nat → α) : cr 0 f g = g := funext fun q => if_neg (Nat.not_lt_zero q)
theorem cr_at {α : Type} (i : Nat) (f g : Nat → α) : cr i f g i = g i := if_neg (Nat.lt_irrefl i)
theorem cr_step {α : Type} (i : Nat) (f g : Nat → α) {x : α} (hx : x = f i) : (fun q => if q = i then x else cr i f g q) = cr (i + 1) f g := by
  funext q
  by_cases e : q = i
  · subst e
    rw [if_pos rfl]
    unfold cr
    rw [if_pos (Nat.lt_succ_self q)]
    exact hx
  · rw [if_neg e]
    unfold cr
    by_cases h : q < i
    · rw [if_pos h, if_pos (Nat.lt_succ_of_lt h)]
    · rw [if_neg h, if_neg (by omega)]
theorem Md.same {w : World} {b1 gm : Nat} {PC : Array Value} {dat dat' : Nat → Nat → List UInt8} {wt wt' : Nat → List CallD} {lf lf' : Nat → Int} {vs : Nat → Value} (h : Md w b1 gm PC dat wt lf vs) (h1 : ∀ q, q < 3 → dat q = dat' q) (h2 : ∀ q, q < 3 → wt q = wt' q) (h3 : ∀ q, q < 3 → lf q = lf' q) : Md w b1 gm PC dat' wt' lf' vs :=
  ⟨h.blk, h.size, fun r s hr hs => by rw [← h1 r hr]; exact h.dats r s hr hs, h.rows, fun r hr => by rw [← h3 r hr]; exact h.lefts r hr, fun r hr => by rw [← h2 r hr]; exact h.own r hr, h.apart, h.each⟩
def SC (t : Nat) : Bool := t == 13 || (decide (180 ≤ t) && decide (t ≤ 193))
theorem sc_sw (t : Nat) (h : SW t = false) : SC t = false := by
  simp only [SC, SW, Bool.or_eq_false_iff, Bool.and_eq_false_iff, decide_eq_false_iff_not, beq_eq_false_iff_ne] at h ⊢
  omega
set_option maxHeartbeats 2000000 in
theorem runs_c {w0 w : World} {gm d bx : Nat} {D : Ds} {PC : Array Value} {dat : Nat → Nat → List UInt8} {wt : Nat → List CallD} {lf : Nat → Int} {vs : Nat → Value} {kd r s : Int} {A : Option Addr} {m c : Nat} {mask : Nat} (hfit : ∀ q, q < 3 → ∀ x ∈ wt q, x.Fit w0 w0.heap.size) (hsx : ∀ q, q < 3 → ∀ x ∈ wt q, 0 ≤ x.s ∧ x.s < 8) (hlen : ∀ q, q < 3 → (wt q).length ≤ 200)
    (hmd : Md w w0.heap.size gm PC dat wt lf vs) (hmany : Many w (fun g => MX w0.heap.size gm vs g ∨ g = bx) [(d, D)]) (hle : Below w0.heap.size w0 w) (hg0 : w0.heap.size ≤ gm) (hbox : Blk w bx 36 #[.int .i64 kd, .int .i64 r, .int .i64 s, .slice A m c, .int .u64 (mask : Int)]) (hne : bx ≠ gm)
    {tm : Array Value} (hs : tm.size = 264) (f4 : tm[4]? = some (ptr gm)) (f7 : tm[7]? = some (ptr bx)) (f180 : tm[180]? = some (.int .i64 0)) {Q : Exit → Act → World → Prop}
    (hK : ∀ tm' w' PC' vs', Keeps SC tm tm' → Md w' w0.heap.size gm PC' (fun q => kdat (bitOf mask) (wt q) (dat q) (wt q).length) (fun _ => []) (fun _ => -1) vs' → Many w' (MX w0.heap.size gm vs') [(d, D)] → Below w0.heap.size w0 w' → Q (.exit 5) ⟨tm', []⟩ w') :
    Code.wp Try.prog (subC (Try.f3.body.getD .skip) [1,1,1,1,1,1,0,1,0,0,1,1,0,0,1,1,1,1,0,1,0,1,1,1,1,1,0,1,1,0]) Q ⟨tm, []⟩ w := by
  conv => arg 2; whnf
  refine wp_loop (fun a w' => ∃ (tm' : Array Value) (j : Nat) (PC' : Array Value) (vs' : Nat → Value), a = ⟨tm', []⟩ ∧ j ≤ 3 ∧ Keeps SC tm tm' ∧ tm'[180]? = some (.int .i64 (j : Int)) ∧ Md w' w0.heap.size gm PC' (cr j (fun q => kdat (bitOf mask) (wt q) (dat q) (wt q).length) dat) (cr j (fun _ => []) wt) (cr j (fun _ => -1) lf) vs' ∧ Many w' (fun g => MX w0.heap.size gm vs g ∨ g = bx) [(d, D)] ∧ (∀ g, MX w0.heap.size gm vs' g → MX w0.heap.size gm vs g) ∧ Below w0.heap.size w0 w' ∧ Blk w' bx 36 #[.int .i64 kd, .int .i64 r, .int .i64 s, .slice A m c, .int .u64 (mask : Int)]) (fun a _ => 3 - (intOf (a.tmps.getD 180 undef)).toNat) ⟨_, 0, PC, vs, rfl, by omega, Keeps.refl _ _, f180, by rw [cr_zero, cr_zero, cr_zero]; exact hmd, hmany, fun _ hg => hg, hle, hbox⟩ ?_
  rintro a w' ⟨tm1, j, PC', vs', rfl, hi, hkp, fi, hmd, hmany, hX, hle, hbox⟩
  have hs1 : tm1.size = 264 := hkp.1.trans hs
  have k4 := slot_at (hkp.get rfl f4) (by omega)
  have k7 := slot_at (hkp.get rfl f7) (by omega)
  have ki := slot_at fi (by omega)
  have hmu : intOf (tm1.getD 180 undef) = (j : Int) := by rw [slot_getD fi]; rfl
  clear f4 f7 f180 hs
  unfold ptr at k4 k7
  by_cases hi3 : j < 3
  · have hi0 : (0 : Int) ≤ (j : Int) := by omega
    have hi1 : (j : Int) < 3 := by omega
    have d4 : w'.cell? ⟨bx, 4, none⟩ = some (.int .u64 (mask : Int)) := hbox.cell 4 _ rfl
    have hwi : cr j (fun _ => []) wt j = wt j := cr_at ..
    have hkeep := rn_keep hmd hmany (.inl (.inr (.inl rfl))) hle hg0 mask hi3 (by rw [hwi]; exact hfit j hi3) (by rw [hwi]; exact hsx j hi3) (by rw [hwi]; exact hlen j hi3)
    rw [hwi, cr_at, cr_step j (fun q => kdat (bitOf mask) (wt q) (dat q) (wt q).length) dat rfl, cr_step j (fun _ => []) wt rfl] at hkeep
    go_wp2
    refine wp_cond_true (by simp [Act.eval, hs1]) ?_
    go_upto_region 46 with (go_at_call 7; refine hkeep.mono ?_; rintro e w3 ⟨rfl, ⟨PC3, hmd3⟩, hmany3, hle3, hk3⟩; have HMD := hide hmd3; have HK := hide hk3; have HMN := hide hmany3; have HLE := hide hle3; clear hmd3 hk3 hmany3 hle3)
    refine region_turns_p 264 (by simp [hs1, k4, k7, ki, ptr]) (G := Turns (· = gm)) [Word.is _ (.pointer (some ⟨gm, 0, none⟩)), Word.is _ (.int .i64 (j : Int)), Word.is _ (.pointer (some ⟨gm, 0, none⟩)), Word.is _ (.pointer (some ⟨gm, 27, none⟩)), Word.is _ (.pointer (some ⟨gm, 27 + j, none⟩)), Word.any _] (Stored gm 32 [(5, (27 + j), .int .i64 (-1))] (PC3)) (Turns.refl _) Turns.trans (by kernel_rfl) (by kernel_rfl) (by kernel_rfl) (fun L L' w h hS => Stored.ext (by kernel_rfl) h hS) (Stored.start0 _ HMD.out.blk) ?_ ?_
    · intro i o ho L a w2 hb hS hLi hnot hyes hsz old dep
      match i, ho with
      | 0, ho =>
        obtain rfl := Option.some.inj ho
        have o4 : a.tmps.getD 4 undef = .pointer (some ⟨gm, 0, none⟩) := (old 4 (by kernel_rfl)).trans (by simp [Array.getD_eq_getD_getElem?, hs1, k4, k7, ki, ptr])
        have oe4 : a.tmps[4]?.getD undef = _ := (Array.getD_eq_getD_getElem? ..).symm.trans o4
        rw [if_pos (wanted_none rfl)]
        refine turn_same (Turns.refl _) (v := .pointer (some ⟨gm, 0, none⟩)) ?_ rfl (hS.other (by rfl))
        clear old dep ho hsz hb hS hLi hnot hyes
        go_simp
      | 1, ho =>
        obtain rfl := Option.some.inj ho
        have o13 : a.tmps.getD 13 undef = .int .i64 (j : Int) := (old 13 (by kernel_rfl)).trans (by simp [Array.getD_eq_getD_getElem?, hs1, k4, k7, ki, ptr])
        have oe13 : a.tmps[13]?.getD undef = _ := (Array.getD_eq_getD_getElem? ..).symm.trans o13
        rw [if_pos (wanted_none rfl)]
        refine turn_same (Turns.refl _) (v := .int .i64 (j : Int)) ?_ rfl (hS.other (by rfl))
        clear old dep ho hsz hb hS hLi hnot hyes
        go_simp
      | 2, ho =>
        obtain rfl := Option.some.inj ho
        have d0 : a.tmps.getD 188 undef = .pointer (some ⟨gm, 0, none⟩) := dep 0 _ _ (by kernel_rfl) rfl rfl
        have e0 : a.tmps[188]?.getD undef = _ := (Array.getD_eq_getD_getElem? ..).symm.trans d0
        rw [if_pos (wanted_none rfl)]
        refine turn_same (Turns.refl _) (v := .pointer (some ⟨gm, 0, none⟩)) ?_ rfl (hS.other (by rfl))
        clear old dep ho hsz hb hS hLi hnot hyes
        go_simp
      | 3, ho =>
        obtain rfl := Option.some.inj ho
        have d2 : a.tmps.getD 190 undef = .pointer (some ⟨gm, 0, none⟩) := dep 2 _ _ (by kernel_rfl) rfl rfl
        have e2 : a.tmps[190]?.getD undef = _ := (Array.getD_eq_getD_getElem? ..).symm.trans d2
        rw [if_pos (wanted_none rfl)]
        refine turn_same (Turns.refl _) (v := .pointer (some ⟨gm, 27, none⟩)) ?_ rfl (hS.other (by rfl))
        clear old dep ho hsz hb hS hLi hnot hyes
        go_simp
      | 4, ho =>
        obtain rfl := Option.some.inj ho
        have d1 : a.tmps.getD 189 undef = .int .i64 (j : Int) := dep 1 _ _ (by kernel_rfl) rfl rfl
        have e1 : a.tmps[189]?.getD undef = _ := (Array.getD_eq_getD_getElem? ..).symm.trans d1
        have d3 : a.tmps.getD 191 undef = .pointer (some ⟨gm, 27, none⟩) := dep 3 _ _ (by kernel_rfl) rfl rfl
        have e3 : a.tmps[191]?.getD undef = _ := (Array.getD_eq_getD_getElem? ..).symm.trans d3
        rw [if_pos (wanted_none rfl)]
        refine turn_same (Turns.refl _) (v := .pointer (some ⟨gm, 27 + j, none⟩)) ?_ rfl (hS.other (by rfl))
        clear old dep ho hsz hb hS hLi hnot hyes
        go_simp
      | 5, ho =>
        obtain rfl := Option.some.inj ho
        have d4 : a.tmps.getD 192 undef = .pointer (some ⟨gm, 27 + j, none⟩) := dep 4 _ _ (by kernel_rfl) rfl rfl
        have e4 : a.tmps[192]?.getD undef = _ := (Array.getD_eq_getD_getElem? ..).symm.trans d4
        rw [if_pos (wanted_none rfl)]
        obtain ⟨⟨u0, hu0⟩, hf0⟩ := hS.cell (27 + j) (by rw [HMD.out.size]; omega)
        refine turn_skips (w' := w2.setCell ⟨gm, (27 + j), none⟩ (.int .i64 (-1))) ?_ trivial (hS.at_ 0 rfl rfl hLi) (Turns.own w2 _ _ _)
        clear old dep ho hsz hb hS hLi hnot hyes
        go_simp
      | i + 6, ho => exact absurd ho (by simp)
    · intro a w4 hb hS hsz hdf fin keep
      have kptm2 : Keeps SC tm1 a.tmps := Keeps.region hsz keep (by kernel_rfl) (by dsimp only; repeat (first | (with_reducible exact Keeps.refl _ _) | ((with_reducible refine Keeps.put ?_ ?_ _); rfl)))
      have hstm2 : a.tmps.size = 264 := hsz.trans (by simp [hs1, k4, k7, ki, ptr])
      have vtm2_4 : a.tmps[4]? = some (ptr gm) := slot_get ((keep 4 (by kernel_rfl)).trans (by simp [Array.getD_eq_getD_getElem?, hs1, k4, k7, ki, ptr])) (by omega)
      have vtm2_7 : a.tmps[7]? = some (ptr bx) := slot_get ((keep 7 (by kernel_rfl)).trans (by simp [Array.getD_eq_getD_getElem?, hs1, k4, k7, ki, ptr])) (by omega)
      have vtm2_180 : a.tmps[180]? = some (.int .i64 (j : Int)) := slot_get ((keep 180 (by kernel_rfl)).trans (by simp [Array.getD_eq_getD_getElem?, hs1, k4, k7, ki, ptr])) (by omega)
      obtain ⟨tm2, df⟩ := a
      dsimp only at hdf hsz kptm2 hstm2 vtm2_4 vtm2_7 vtm2_180
      subst hdf
      clear fin keep hsz
      have hmd4 := HMD.out.left_k hi3 (-1) hb.kept hS.on_
      rw [cr_step j (fun _ => -1) lf rfl] at hmd4
      have hmany4 := HMN.out.foreign hb.kept (fun g hg => .inl (.inl (.inr (.inl hg))))
      have hle4 := HLE.out.trans (hb.below HLE.out.size (fun g hg => by rw [hg]; exact hg0))
      have hbox4 := hb.blk (HK.out.blk hbox (fun e => hne e)) (fun e => hne e)
      have z180 := slot_at vtm2_180 (by omega)
      clear hb hS vtm2_4 vtm2_7 vtm2_180
      go_wp2
      refine ⟨⟨_, j + 1, _, _, rfl, by omega, hkp.trans (by repeat (first | (with_reducible exact kptm2) | ((with_reducible refine Keeps.put ?_ ?_ _); rfl))), by simp [hstm2], hmd4, hmany4, fun g hg => hX g (mx_none hg), hle4, hbox4⟩, ?_⟩
      rw [hmu]
      simp [intOf, hstm2, Array.getD_eq_getD_getElem?]
      omega
  · obtain rfl : j = 3 := by omega
    go_wp2
    refine wp_cond_false (by simp [Act.eval, hs1]) ?_
    go_wp2
    exact hK _ _ _ _ (by repeat (first | (with_reducible exact hkp) | ((with_reducible refine Keeps.put ?_ ?_ _); rfl))) (hmd.same (fun q hq => if_pos hq) (fun q hq => if_pos hq) (fun q hq => if_pos hq)) (hmany.less (fun g hg => .inl (hX g hg))) hle
set_option maxHeartbeats 2000000 in
theorem sw_crash {w0 w : World} {gm d bx n k : Nat} {D : Ds} {PC : Array Value} {dat : Nat → Nat → List UInt8} {wt : Nat → List CallD} {lf : Nat → Int} {vs : Nat → Value} {kd r s : Int} {A : Option Addr} {m c : Nat} {l : List UInt8} {mask : Nat} (h : SB w0 w gm d bx n k D PC dat wt lf vs kd r s A m c l mask) (hk : k ≤ 200)  {tm : Array Value} (hs : tm.size = 264) (f3 : tm[3]? = some (ptr d)) (f4 : tm[4]? = some (ptr gm)) (f5 : tm[5]? = some (.int .i64 (n : Int))) (f7 : tm[7]? = some (ptr bx)) (f9 : tm[9]? = some (.int .i64 r)) (f10 : tm[10]? = some (.int .i64 s)) (f65 : tm[65]? = some (.int .i64 2)) (f89 : tm[89]? = some (.bool false)) {Q : Exit → Act → World → Prop} (hK : ∀ (tm' : Array Value) w' (n' : Nat) D PC dat wt lf vs, Keeps SW tm tm' → tm'[5]? = some (.int .i64 (n' : Int)) → St w0 w' gm d n' (k + 1) D PC dat wt lf vs → Q .normal ⟨tm', []⟩ w') :
    Code.wp Try.prog (subC (Try.f3.body.getD .skip) [1,1,1,1,1,1,0,1,0,0,1,1,0,0,1,1,1,1,0,1,0,1]) Q ⟨tm, []⟩ w := by
  conv => arg 2; whnf
  have k3 := slot_at f3 (by omega)
  have k4 := slot_at f4 (by omega)
  have k5 := slot_at f5 (by omega)
  have k7 := slot_at f7 (by omega)
  have k9 := slot_at f9 (by omega)
  have k10 := slot_at f10 (by omega)
  obtain ⟨c0, c1, c2, c3, c4⟩ := h.cells
  clear f3 f4 f5 f7 f9 f10
  unfold ptr at k4 k7
  have k89 := slot_at f89 (by omega)
  have k65 := slot_at f65 (by omega)
  clear f89 f65
  refine wp_cond_false (by simp [Act.eval, k89, hs]) ?_
  go_upto_if 149 with fail
  refine wp_cond_false (by simp [Act.eval, hs, k65]) ?_
  go_upto_if 174 with fail
  refine wp_cond_true (by simp [Act.eval, hs, k65]) ?_
  have hcall := rn_crash h hk
  go_wp2_with (go_at_call 9; refine hcall.mono ?_; rintro e w2 ⟨rfl, hmd, hmany, hle, hbox⟩)
  refine runs_c h.tie.fit (fun q hq => h.tie.secs hq) (fun q hq => Nat.le_trans (h.tie.len q hq) hk) hmd hmany hle h.gmlo hbox (fun e => h.far (.inl e)) (by simp [hs]) (by simp [hs, k4, ptr]) (by simp [hs, k7, ptr]) (by simp [hs]) ?_
  intro tm' w' PC' vs' hkp hmd' hmany' hle'
  have hs3 : tm'.size = 264 := hkp.1.trans (by simp [hs])
  have k5' := slot_at (hkp.get (t := 5) (v := .int .i64 (n : Int)) rfl (by simp [hs, k5])) (by omega)
  have kp0 : Keeps SW tm tm' := Keeps.trans (by repeat (first | (with_reducible exact Keeps.refl _ _) | ((with_reducible refine Keeps.put ?_ ?_ _); rfl))) (Keeps.more hkp sc_sw)
  go_wp2
  exact hK _ _ _ _ _ _ _ _ _ (by repeat (first | (with_reducible exact kp0) | ((with_reducible refine Keeps.put ?_ ?_ _); rfl))) (by simp [hs3, k5']) ⟨h.tie.crash (bitOf mask), hmd', hmany', hle'⟩
end Go.Proofs.Ythlclhfepnmaeaa
