/-
  The walk of DiskRuns: its pieces, a write that is taken.
-/
import Derived.Test.YthlclhfepnmaeaaRunsB
import Derived.Lib.AppendZeros
namespace Go.Proofs.Ythlclhfepnmaeaa
open Go.RowKit
set_option linter.unusedSimpArgs false
set_option linter.unusedVariables false

theorem region_dummy : True := trivial
def AP1 (w1 : World) (cells : Array Value) (v : Value) (w2 : World) : Prop := (∃ g, v = .slice (some ⟨g, 0, none⟩) 1 1 ∧ Blk w2 g 36 cells) ∧ Below w1.heap.size w1 w2
def AP2 (w1 : World) (base : Nat) (rv : Value) (m : Nat) (cs : List CallD) (v : Value) (w2 : World) : Prop := ∃ u, Below w1.heap.size w1 u ∧ u.grownBy w2 rv.ownBlock ∧ w2.ownsRow base 36 5 v m (ccalls cs) ∧ (v.ownBlock = rv.ownBlock ∨ v.ownBlock = some u.heap.size)
def AP3 (w1 : World) (base : Nat) (rv : Value) (m : Nat) (cs : List CallD) (gm off : Nat) (v : Value) (w2 : World) : Prop := ∃ u2, AP2 w1 base rv m cs v u2 ∧ w2 = u2.setCell ⟨gm, off, none⟩ v
theorem fit_more {w : World} {B B' : Nat} {x : CallD} (h : x.Fit w B) (hB : B ≤ B') : x.Fit w B' := ⟨h.row.more hB, h.len, h.mask, h.r, h.s, h.kind⟩
theorem callRow_one {w : World} {g : Nat} {x : CallD} (hb : Blk w g 36 x.cells.toArray) (hf : x.Fit w w.heap.size) : CallRow w w.heap.size (.slice (some ⟨g, 0, none⟩) 1 1) [x] := by
  refine ⟨_, _, rfl, fun _ => ⟨g, 0, rfl, hb.lt, fun j y hj i u hu => ?_⟩, fun y hy => by rw [List.mem_singleton.1 hy]; exact hf⟩
  cases j with
  | succ j => simp at hj
  | zero =>
    simp only [List.getElem?_cons_zero, Option.some.injEq] at hj
    subst hj
    have := hb.cell i u (by simpa using hu)
    simpa using this
/-- Some blocks of the model turn, and new ones come. -/
theorem Many.turns {w w' : World} {X Y S : Nat → Prop} {l : List (Nat × Ds)} (h : Many w X l) (hk : Kept S w w') (hS : ∀ k, S k → X k ∨ w.heap.size ≤ k) (hY : ∀ k, Y k → X k ∨ (w.heap.size ≤ k ∧ k < w'.heap.size)) : Many w' Y l := by
  obtain ⟨hX, labs, h1, h2, h3, h4⟩ := id h
  refine ⟨fun k hx => ?_, labs, fun i x hi => (h1 i x hi).keep (S := fun k => S k ∧ k < w.heap.size) ⟨hk.os, hk.tape, hk.output, hk.size, fun k hlt hn => hk.block k hlt (fun hs => hn ⟨hs, hlt⟩)⟩ (fun k hs => ?_), h2, fun i k hk0 hy => ?_, h4⟩
  · rcases hY k hx with h5 | h5
    · exact Nat.lt_of_lt_of_le (hX k h5) hk.size
    · exact h5.2
  · by_cases hz : labs i k = 0
    · exact hz
    · rcases hS k hs.1 with hx | hx
      · exact absurd hx (h3 i k hz)
      · exact absurd hs.2 (by omega)
  · rcases hY k hy with h5 | h5
    · exact h3 i k hk0 h5
    · have := labs_lt labs h1 h2 hk0; omega
/-- Behind the append and its store. -/
theorem runs_more {w0 w1 w3 : World} {gm d bx n k rn : Nat} {D : Ds} {PC : Array Value} {dat : Nat → Nat → List UInt8} {wt : Nat → List CallD} {lf : Nat → Int} {vs : Nat → Value} {kd s : Int} {A : Option Addr} {m c : Nat} {l : List UInt8} {mask : Nat} {v : Value}
    (h : SB w0 w1 gm d bx n k D PC dat wt lf vs kd (rn : Int) s A m c l mask) (hr : rn < 3) (h3 : AP3 w1 w0.heap.size (vs rn) ((wt rn).length + 1) (wt rn ++ [⟨kd, (rn : Int), s, .slice A m c, l, mask⟩]) gm (24 + rn) v w3) :
    ∃ PC' vs', Md w3 w0.heap.size gm PC' dat (fun q => if q = rn then wt rn ++ [⟨kd, (rn : Int), s, .slice A m c, l, mask⟩] else wt q) lf vs' ∧ Many w3 (fun g => MX w0.heap.size gm vs' g ∨ g = bx) [(d, D)] ∧ Below w0.heap.size w0 w3 ∧ Blk w3 bx 36 #[.int .i64 kd, .int .i64 (rn : Int), .int .i64 s, .slice A m c, .int .u64 (mask : Int)] := by
  obtain ⟨u2, ⟨u, hbu, hgu, hown, hat⟩, rfl⟩ := h3
  have hu := h.below hbu
  have hgm := hu.md.blk.lt
  have hltq : ∀ q, q < 3 → ∀ g, (vs q).ownBlock = some g → g < u.heap.size := fun q hq g hg => (World.ownsRow.lt (hu.md.own q hq) g hg).2
  have hmd := hu.md.more hr (x := ⟨kd, (rn : Int), s, .slice A m c, l, mask⟩) hltq hown hgu hat
  have hbxlt := hu.box.lt
  have hfar : ∀ g, (vs rn).ownBlock = some g → g ≠ bx := fun g hg e => h.far (.inr ⟨rn, hr, by rw [hg, e]⟩)
  have hgmbx : gm ≠ bx := fun e => h.far (.inl e.symm)
  have hk1 : Kept (fun k => (vs rn).ownBlock = some k ∨ k = gm) u (u2.setCell ⟨gm, 24 + rn, none⟩ v) :=
    Kept.trans ((Kept.of_grown hgu).mono (fun i hi => .inl (.inl hi))) (Kept.setCell u2 ⟨gm, 24 + rn, none⟩ v) (fun i hi => .inl (.inr hi))
  refine ⟨_, _, hmd, ?_, hu.le.trans (hk1.below hu.le.size (fun g hg => ?_)), ?_⟩
  · refine hu.many.turns hk1 (fun g hg => ?_) (fun g hg => ?_)
    · rcases hg with hg | hg
      · exact .inl (.inl (.inr (.inr ⟨rn, hr, hg⟩)))
      · exact .inl (.inl (.inr (.inl hg)))
    · rcases hg with (hg | hg | ⟨q, hq, hg⟩) | hg
      · exact .inl (.inl (.inl hg))
      · exact .inl (.inl (.inr (.inl hg)))
      · dsimp only at hg
        by_cases e : q = rn
        · rw [if_pos e] at hg
          rcases hat with h1 | h1
          · exact .inl (.inl (.inr (.inr ⟨rn, hr, by rw [← h1]; exact hg⟩)))
          · rw [h1] at hg
            injection hg with hg
            have := (World.ownsRow.lt hown g (by rw [h1, hg])).2
            exact .inr ⟨by omega, by simpa [World.setCell] using this⟩
        · rw [if_neg e] at hg
          exact .inl (.inl (.inr (.inr ⟨q, hq, hg⟩)))
      · exact .inl (.inr hg)
  · rcases hg with hg | hg
    · exact (World.ownsRow.lt (hu.md.own rn hr) g hg).1
    · rw [hg]; exact h.gmlo
  · exact hk1.blk hu.box (fun e => by
      rcases e with e | e
      · exact hfar bx e rfl
      · exact hgmbx e.symm)
/-- 'left' is set, whatever the way. -/
theorem Md.left_k {w w' : World} {b1 gm : Nat} {PC : Array Value} {dat : Nat → Nat → List UInt8} {wt : Nat → List CallD} {lf : Nat → Int} {vs : Nat → Value} (h : Md w b1 gm PC dat wt lf vs) {r : Nat} (hr : r < 3) (z : Int) (hk : Kept (fun k => k = gm) w w') (hb : Blk w' gm 32 (PC.setIfInBounds (27 + r) (.int .i64 z))) :
    Md w' b1 gm (PC.setIfInBounds (27 + r) (.int .i64 z)) dat wt (fun q => if q = r then z else lf q) vs := by
  have h2 := h.left_ hr z
  exact ⟨hb, h2.size, h2.dats, h2.rows, h2.lefts, fun q hq => hk.own (h.own q hq) (fun k hk' e2 => h.apart q hq k hk' e2), h.apart, h.each⟩
theorem Stored.off {g : Nat} {t : TypeId} {i a : Nat} {v : Value} {cs : Array Value} {L : Nat → Bool} {w : World} (h : Stored g t [(i, a, v)] cs L w) (hL : L i = false) : Blk w g t cs := by
  unfold Stored filled at h
  simpa [hL] using h
theorem Stored.on_ {g : Nat} {t : TypeId} {i a : Nat} {v : Value} {cs : Array Value} {w : World} (h : Stored g t [(i, a, v)] cs (fun _ => true) w) : Blk w g t (cs.setIfInBounds a v) := by
  unfold Stored filled at h
  simpa using h
theorem Turns.kept {g : Nat} {w w' : World} (h : Turns (· = g) w w') : Kept (fun k => k = g) w w' := ⟨h.1, h.2.1, h.2.2.1, h.size, fun _ hk hn => h.block hk hn⟩
theorem Tie.left_lt {w0 : World} {D : Ds} {dat : Nat → Nat → List UInt8} {wt : Nat → List CallD} {lf : Nat → Int} {n k : Nat} (h : Tie w0 D dat wt lf n k) {r : Nat} (hr : r < 3) : lf r < 9223372036854775808 := by
  obtain ⟨rg, hat, his⟩ := h.is r hr
  have hs := (h.small.2 rg (at_mem hat)).2
  rcases his.left with ⟨_, e⟩ | ⟨_, e⟩
  · rw [e]; decide
  · rw [e]; omega
set_option maxHeartbeats 2000000 in
theorem sw_write_ok {w0 w : World} {gm d bx n k : Nat} {D : Ds} {PC : Array Value} {dat : Nat → Nat → List UInt8} {wt : Nat → List CallD} {lf : Nat → Int} {vs : Nat → Value} {kd s : Int} {rn : Nat} {A : Option Addr} {m c : Nat} {l : List UInt8} {mask : Nat} (h : SB w0 w gm d bx n k D PC dat wt lf vs kd (rn : Int) s A m c l mask) (hk : k ≤ 200) (hr : rn < 3) (hss : 0 ≤ s ∧ s < 8) (hm : m ≤ 64) (hd : lf rn ≠ 0) {tm : Array Value} (hs : tm.size = 264) (f3 : tm[3]? = some (ptr d)) (f4 : tm[4]? = some (ptr gm)) (f5 : tm[5]? = some (.int .i64 (n : Int))) (f7 : tm[7]? = some (ptr bx)) (f9 : tm[9]? = some (.int .i64 (rn : Int))) (f10 : tm[10]? = some (.int .i64 s)) (f8 : tm[8]? = some (.bool true)) (f89 : tm[89]? = some (.bool true)) {Q : Exit → Act → World → Prop} (hK : ∀ (tm' : Array Value) w' (n' : Nat) D PC dat wt lf vs, Keeps SW tm tm' → tm'[5]? = some (.int .i64 (n' : Int)) → St w0 w' gm d n' (k + 1) D PC dat wt lf vs → Q .normal ⟨tm', []⟩ w') :
    Code.wp Try.prog (subC (Try.f3.body.getD .skip) [1,1,1,1,1,1,0,1,0,0,1,1,0,0,1,1,1,1,0,1,0,1]) Q ⟨tm, []⟩ w := by
  conv => arg 2; whnf
  have k3 := slot_at f3 (by omega)
  have k4 := slot_at f4 (by omega)
  have k5 := slot_at f5 (by omega)
  have k7 := slot_at f7 (by omega)
  have k9 := slot_at f9 (by omega)
  have k10 := slot_at f10 (by omega)
  obtain ⟨c0, c1, c2, c3, c4⟩ := h.cells
  clear f3 f4 f5 f7 f9 f10
  unfold ptr at k4 k7
  have HNZ := hide (show (lf rn == 0) = false by rw [beq_eq_false_iff_ne]; exact hd)
  have HMM := hide (show decide ((64 : Int) < (m : Int)) = false by simp; omega)
  have k89 := slot_at f89 (by omega)
  have k8 := slot_at f8 (by omega)
  have HC3 := hide c3
  have HBL := hide h.box.lt
  refine wp_cond_true (by simp [Act.eval, k89, hs]) ?_
  go_upto_region 25 with fail
  refine region_grows_p 264 (by simp [hs, k3, k4, k5, k7, k8, k9, k10, ptr]) [Say.is (.bool true), Say.is (.bool false), Say.is (.bool false), Say.is (.pointer (some ⟨bx, 3, none⟩)), Say.is (.slice A m c), Say.is (.int .i64 (m : Int)), Say.is (.bool false), Say.is (.bool false), Say.is (.bool false)] (by kernel_rfl) (by kernel_rfl) (by kernel_rfl) ?_ ?_
  · intro i o ho a w2 hb hsz old dep
    match i, ho with
    | 0, ho =>
      obtain rfl := Option.some.inj ho
      have o8 : a.tmps.getD 8 undef = .bool true := (old 8 (by kernel_rfl)).trans (by simp [Array.getD_eq_getD_getElem?, hs, k3, k4, k5, k7, k8, k9, k10, ptr])
      have oe8 : a.tmps[8]?.getD undef = _ := (Array.getD_eq_getD_getElem? ..).symm.trans o8
      rw [if_pos (wanted_none rfl)]
      refine grow_same (v := .bool true) ?_ rfl
      clear old dep ho hsz hb
      go_simp
    | 1, ho =>
      obtain rfl := Option.some.inj ho
      have d0 : a.tmps.getD 125 undef = .bool true := dep 0 _ _ (by kernel_rfl) rfl rfl
      have e0 : a.tmps[125]?.getD undef = _ := (Array.getD_eq_getD_getElem? ..).symm.trans d0
      rw [if_pos (wanted_none rfl)]
      refine grow_same (v := .bool false) ?_ rfl
      clear old dep ho hsz hb
      go_simp
    | 2, ho =>
      obtain rfl := Option.some.inj ho
      have d1 : a.tmps.getD 126 undef = .bool false := dep 1 _ _ (by kernel_rfl) rfl rfl
      have e1 : a.tmps[126]?.getD undef = _ := (Array.getD_eq_getD_getElem? ..).symm.trans d1
      rw [if_pos (wanted_none rfl)]
      refine grow_same (v := .bool false) ?_ rfl
      clear old dep ho hsz hb
      go_simp
    | 3, ho =>
      obtain rfl := Option.some.inj ho
      have o7 : a.tmps.getD 7 undef = .pointer (some ⟨bx, 0, none⟩) := (old 7 (by kernel_rfl)).trans (by simp [Array.getD_eq_getD_getElem?, hs, k3, k4, k5, k7, k8, k9, k10, ptr])
      have oe7 : a.tmps[7]?.getD undef = _ := (Array.getD_eq_getD_getElem? ..).symm.trans o7
      have d2 : a.tmps.getD 127 undef = .bool false := dep 2 _ _ (by kernel_rfl) rfl rfl
      have e2 : a.tmps[127]?.getD undef = _ := (Array.getD_eq_getD_getElem? ..).symm.trans d2
      rw [if_pos (wanted_some rfl rfl rfl (by rw [hsz]; simp [hs, k3, k4, k5, k7, k8, k9, k10, ptr]) d2)]
      refine grow_same (v := .pointer (some ⟨bx, 3, none⟩)) ?_ rfl
      clear old dep ho hsz hb
      go_simp
    | 4, ho =>
      obtain rfl := Option.some.inj ho
      have d3 : a.tmps.getD 128 undef = .pointer (some ⟨bx, 3, none⟩) := dep 3 _ _ (by kernel_rfl) rfl rfl
      have e3 : a.tmps[128]?.getD undef = _ := (Array.getD_eq_getD_getElem? ..).symm.trans d3
      have d2 : a.tmps.getD 127 undef = .bool false := dep 2 _ _ (by kernel_rfl) rfl rfl
      have e2 : a.tmps[127]?.getD undef = _ := (Array.getD_eq_getD_getElem? ..).symm.trans d2
      rw [if_pos (wanted_some rfl rfl rfl (by rw [hsz]; simp [hs, k3, k4, k5, k7, k8, k9, k10, ptr]) d2)]
      have g0 := (hb.cell (p := ⟨bx, 3, none⟩) HBL.out).trans HC3.out
      refine grow_same (v := .slice A m c) ?_ rfl
      clear old dep ho hsz hb
      go_simp
    | 5, ho =>
      obtain rfl := Option.some.inj ho
      have d4 : a.tmps.getD 129 undef = .slice A m c := dep 4 _ _ (by kernel_rfl) rfl rfl
      have e4 : a.tmps[129]?.getD undef = _ := (Array.getD_eq_getD_getElem? ..).symm.trans d4
      have d2 : a.tmps.getD 127 undef = .bool false := dep 2 _ _ (by kernel_rfl) rfl rfl
      have e2 : a.tmps[127]?.getD undef = _ := (Array.getD_eq_getD_getElem? ..).symm.trans d2
      rw [if_pos (wanted_some rfl rfl rfl (by rw [hsz]; simp [hs, k3, k4, k5, k7, k8, k9, k10, ptr]) d2)]
      refine grow_same (v := .int .i64 (m : Int)) ?_ rfl
      clear old dep ho hsz hb
      go_simp
    | 6, ho =>
      obtain rfl := Option.some.inj ho
      have d5 : a.tmps.getD 130 undef = .int .i64 (m : Int) := dep 5 _ _ (by kernel_rfl) rfl rfl
      have e5 : a.tmps[130]?.getD undef = _ := (Array.getD_eq_getD_getElem? ..).symm.trans d5
      have d2 : a.tmps.getD 127 undef = .bool false := dep 2 _ _ (by kernel_rfl) rfl rfl
      have e2 : a.tmps[127]?.getD undef = _ := (Array.getD_eq_getD_getElem? ..).symm.trans d2
      rw [if_pos (wanted_some rfl rfl rfl (by rw [hsz]; simp [hs, k3, k4, k5, k7, k8, k9, k10, ptr]) d2)]
      have hmm := HMM.out
      refine grow_same (v := .bool false) ?_ rfl
      clear old dep ho hsz hb
      go_simp
    | 7, ho =>
      obtain rfl := Option.some.inj ho
      have d2 : a.tmps.getD 127 undef = .bool false := dep 2 _ _ (by kernel_rfl) rfl rfl
      have e2 : a.tmps[127]?.getD undef = _ := (Array.getD_eq_getD_getElem? ..).symm.trans d2
      have d6 : a.tmps.getD 131 undef = .bool false := dep 6 _ _ (by kernel_rfl) rfl rfl
      have e6 : a.tmps[131]?.getD undef = _ := (Array.getD_eq_getD_getElem? ..).symm.trans d6
      rw [if_pos (wanted_none rfl)]
      refine grow_same (v := .bool false) ?_ rfl
      clear old dep ho hsz hb
      go_simp
    | 8, ho =>
      obtain rfl := Option.some.inj ho
      have d7 : a.tmps.getD 132 undef = .bool false := dep 7 _ _ (by kernel_rfl) rfl rfl
      have e7 : a.tmps[132]?.getD undef = _ := (Array.getD_eq_getD_getElem? ..).symm.trans d7
      rw [if_pos (wanted_none rfl)]
      refine grow_same (v := .bool false) ?_ rfl
      clear old dep ho hsz hb
      go_simp
    | i + 9, ho => exact absurd ho (by simp)
  · intro a w1 hb hsz hdf fin keep
    have kptm2 : Keeps SW tm a.tmps := Keeps.region hsz keep (by kernel_rfl) (by dsimp only; repeat (first | (with_reducible exact Keeps.refl _ _) | ((with_reducible refine Keeps.put ?_ ?_ _); rfl)))
    have hstm2 : a.tmps.size = 264 := hsz.trans (by simp [hs, k3, k4, k5, k7, k8, k9, k10, ptr])
    have vtm2_3 : a.tmps[3]? = some (ptr d) := slot_get ((keep 3 (by kernel_rfl)).trans (by simp [Array.getD_eq_getD_getElem?, hs, k3, k4, k5, k7, k8, k9, k10, ptr])) (by omega)
    have vtm2_4 : a.tmps[4]? = some (ptr gm) := slot_get ((keep 4 (by kernel_rfl)).trans (by simp [Array.getD_eq_getD_getElem?, hs, k3, k4, k5, k7, k8, k9, k10, ptr])) (by omega)
    have vtm2_5 : a.tmps[5]? = some (.int .i64 (n : Int)) := slot_get ((keep 5 (by kernel_rfl)).trans (by simp [Array.getD_eq_getD_getElem?, hs, k3, k4, k5, k7, k8, k9, k10, ptr])) (by omega)
    have vtm2_7 : a.tmps[7]? = some (ptr bx) := slot_get ((keep 7 (by kernel_rfl)).trans (by simp [Array.getD_eq_getD_getElem?, hs, k3, k4, k5, k7, k8, k9, k10, ptr])) (by omega)
    have vtm2_9 : a.tmps[9]? = some (.int .i64 (rn : Int)) := slot_get ((keep 9 (by kernel_rfl)).trans (by simp [Array.getD_eq_getD_getElem?, hs, k3, k4, k5, k7, k8, k9, k10, ptr])) (by omega)
    have vtm2_10 : a.tmps[10]? = some (.int .i64 s) := slot_get ((keep 10 (by kernel_rfl)).trans (by simp [Array.getD_eq_getD_getElem?, hs, k3, k4, k5, k7, k8, k9, k10, ptr])) (by omega)
    have vtm2_11 : a.tmps[11]? = some (.int .i64 0) := slot_get ((keep 11 (by kernel_rfl)).trans (by simp [Array.getD_eq_getD_getElem?, hs, k3, k4, k5, k7, k8, k9, k10, ptr])) (by omega)
    have vtm2_124 : a.tmps[124]? = some (.bool false) := slot_get (fin 8 _ _ rfl rfl) (by omega)
    obtain ⟨tm2, df⟩ := a
    dsimp only at hdf hsz kptm2 hstm2 vtm2_3 vtm2_4 vtm2_5 vtm2_7 vtm2_9 vtm2_10 vtm2_11 vtm2_124
    subst hdf
    clear fin keep hsz
    have y3 := slot_at vtm2_3 (by omega)
    have y4 := slot_at vtm2_4 (by omega)
    have y5 := slot_at vtm2_5 (by omega)
    have y7 := slot_at vtm2_7 (by omega)
    have y9 := slot_at vtm2_9 (by omega)
    have y10 := slot_at vtm2_10 (by omega)
    have y11 := slot_at vtm2_11 (by omega)
    have y124 := slot_at vtm2_124 (by omega)
    unfold ptr at y4 y7
    have hx := h.below hb
    obtain ⟨d0, d1, d2, d3, d4⟩ := hx.cells
    clear hb
    go_upto_if 124 with fail
    refine wp_cond_false (by simp [Act.eval, hstm2, y124]) ?_
    have hlf := hx.md.blk.cell _ _ (h.md.lefts rn hr)
    have hr0 : (0 : Int) ≤ (rn : Int) := by omega
    have hr3 : (rn : Int) < 3 := by omega
    go_upto_if 133 with fail
    refine wp_cond_false (by simp [Act.eval, hstm2, HNZ.out]) ?_
    obtain ⟨A5, c5, hv5, hp5, _⟩ := hx.md.row hr
    have hc5 := hx.md.blk.cell _ _ hp5
    obtain ⟨wn, hwn⟩ : ∃ wn, (wt rn).length = wn := ⟨_, rfl⟩
    rw [hwn] at hc5 hv5
    have HVS := hide hv5
    have HC5 := hide hc5
    have HLN := hide (Nat.le_trans (hx.tie.len rn hr) hk)
    have HX := hide hx
    have HGL := hide hx.md.blk.lt
    have HBX := hide hx.box.lt
    have D0 := hide d0
    have D1 := hide d1
    have D2 := hide d2
    have D3 := hide d3
    have D4 := hide d4
    clear hv5 hc5 d0 d1 d2 d3 d4 hlf
    go_upto_region 21 with fail
    refine region_phases_n 264 (by simp [hstm2, y3, y4, y5, y7, y9, y10, y11, ptr]) (valV [some (.pointer (some ⟨gm, 0, none⟩)), some (.int .i64 (rn : Int)), some (.pointer (some ⟨gm, 0, none⟩)), some (.int .i64 (rn : Int)), some (.pointer (some ⟨gm, 0, none⟩)), some (.pointer (some ⟨gm, 24, none⟩)), some (.pointer (some ⟨gm, 24 + rn, none⟩)), some (.slice A5 wn c5), some (.agg #[.int .i64 kd, .int .i64 (rn : Int), .int .i64 s, .slice A m c, .int .u64 (mask : Int)]), none, none, some (.pointer (some ⟨gm, 0, none⟩)), some (.pointer (some ⟨gm, 24, none⟩)), some (.pointer (some ⟨gm, 24 + rn, none⟩)), none]) (phased [⟨14, 10, fun v w2 => AP3 w1 w0.heap.size (vs rn) ((wt rn).length + 1) (wt rn ++ [⟨kd, (rn : Int), s, .slice A m c, l, mask⟩]) gm (24 + rn) v w2⟩, ⟨10, 10, fun v w2 => AP2 w1 w0.heap.size (vs rn) ((wt rn).length + 1) (wt rn ++ [⟨kd, (rn : Int), s, .slice A m c, l, mask⟩]) v w2⟩, ⟨9, 9, fun v w2 => AP1 w1 #[.int .i64 kd, .int .i64 (rn : Int), .int .i64 s, .slice A m c, .int .u64 (mask : Int)] v w2⟩] (fun w2 => Below w1.heap.size w1 w2)) (by kernel_rfl) (by kernel_rfl) (by kernel_rfl) (by kernel_rfl) (phased_ext (by kernel_rfl)) ((Below.refl _ _).drew) ?_ ?_
    · intro i o ho L a w2 hph hsz hLi hnot hyes old dep
      match i, ho with
      | 0, ho =>
        obtain rfl := Option.some.inj ho
        rw [if_pos (wanted_none rfl)]
        have o4 : a.tmps.getD 4 undef = .pointer (some ⟨gm, 0, none⟩) := (old 4 (by kernel_rfl)).trans (by simp [Array.getD_eq_getD_getElem?, hstm2, y3, y4, y5, y7, y9, y10, y11, ptr])
        have oe4 : a.tmps[4]?.getD undef = _ := (Array.getD_eq_getD_getElem? ..).symm.trans o4
        refine wp_yields (v := .pointer (some ⟨gm, 0, none⟩)) (w' := w2) ?_ (fun u hu => Option.some.inj (Option.some.inj hu)) (phased_quiet hLi (by rfl) hph)
        clear dep old ho hsz hph hnot hyes hLi
        go_simp
      | 1, ho =>
        obtain rfl := Option.some.inj ho
        rw [if_pos (wanted_none rfl)]
        have o9 : a.tmps.getD 9 undef = .int .i64 (rn : Int) := (old 9 (by kernel_rfl)).trans (by simp [Array.getD_eq_getD_getElem?, hstm2, y3, y4, y5, y7, y9, y10, y11, ptr])
        have oe9 : a.tmps[9]?.getD undef = _ := (Array.getD_eq_getD_getElem? ..).symm.trans o9
        refine wp_yields (v := .int .i64 (rn : Int)) (w' := w2) ?_ (fun u hu => Option.some.inj (Option.some.inj hu)) (phased_quiet hLi (by rfl) hph)
        clear dep old ho hsz hph hnot hyes hLi
        go_simp
      | 2, ho =>
        obtain rfl := Option.some.inj ho
        rw [if_pos (wanted_none rfl)]
        have o4 : a.tmps.getD 4 undef = .pointer (some ⟨gm, 0, none⟩) := (old 4 (by kernel_rfl)).trans (by simp [Array.getD_eq_getD_getElem?, hstm2, y3, y4, y5, y7, y9, y10, y11, ptr])
        have oe4 : a.tmps[4]?.getD undef = _ := (Array.getD_eq_getD_getElem? ..).symm.trans o4
        refine wp_yields (v := .pointer (some ⟨gm, 0, none⟩)) (w' := w2) ?_ (fun u hu => Option.some.inj (Option.some.inj hu)) (phased_quiet hLi (by rfl) hph)
        clear dep old ho hsz hph hnot hyes hLi
        go_simp
      | 3, ho =>
        obtain rfl := Option.some.inj ho
        rw [if_pos (wanted_none rfl)]
        have o9 : a.tmps.getD 9 undef = .int .i64 (rn : Int) := (old 9 (by kernel_rfl)).trans (by simp [Array.getD_eq_getD_getElem?, hstm2, y3, y4, y5, y7, y9, y10, y11, ptr])
        have oe9 : a.tmps[9]?.getD undef = _ := (Array.getD_eq_getD_getElem? ..).symm.trans o9
        refine wp_yields (v := .int .i64 (rn : Int)) (w' := w2) ?_ (fun u hu => Option.some.inj (Option.some.inj hu)) (phased_quiet hLi (by rfl) hph)
        clear dep old ho hsz hph hnot hyes hLi
        go_simp
      | 4, ho =>
        obtain rfl := Option.some.inj ho
        rw [if_pos (wanted_none rfl)]
        have d2 : a.tmps.getD 93 undef = .pointer (some ⟨gm, 0, none⟩) := dep 2 _ _ (by kernel_rfl) rfl rfl _ rfl
        have e2 : a.tmps[93]?.getD undef = _ := (Array.getD_eq_getD_getElem? ..).symm.trans d2
        refine wp_yields (v := .pointer (some ⟨gm, 0, none⟩)) (w' := w2) ?_ (fun u hu => Option.some.inj (Option.some.inj hu)) (phased_quiet hLi (by rfl) hph)
        clear dep old ho hsz hph hnot hyes hLi
        go_simp
      | 5, ho =>
        obtain rfl := Option.some.inj ho
        rw [if_pos (wanted_none rfl)]
        have d4 : a.tmps.getD 95 undef = .pointer (some ⟨gm, 0, none⟩) := dep 4 _ _ (by kernel_rfl) rfl rfl _ rfl
        have e4 : a.tmps[95]?.getD undef = _ := (Array.getD_eq_getD_getElem? ..).symm.trans d4
        refine wp_yields (v := .pointer (some ⟨gm, 24, none⟩)) (w' := w2) ?_ (fun u hu => Option.some.inj (Option.some.inj hu)) (phased_quiet hLi (by rfl) hph)
        clear dep old ho hsz hph hnot hyes hLi
        go_simp
      | 6, ho =>
        obtain rfl := Option.some.inj ho
        rw [if_pos (wanted_none rfl)]
        have d3 : a.tmps.getD 94 undef = .int .i64 (rn : Int) := dep 3 _ _ (by kernel_rfl) rfl rfl _ rfl
        have e3 : a.tmps[94]?.getD undef = _ := (Array.getD_eq_getD_getElem? ..).symm.trans d3
        have d5 : a.tmps.getD 96 undef = .pointer (some ⟨gm, 24, none⟩) := dep 5 _ _ (by kernel_rfl) rfl rfl _ rfl
        have e5 : a.tmps[96]?.getD undef = _ := (Array.getD_eq_getD_getElem? ..).symm.trans d5
        refine wp_yields (v := .pointer (some ⟨gm, 24 + rn, none⟩)) (w' := w2) ?_ (fun u hu => Option.some.inj (Option.some.inj hu)) (phased_quiet hLi (by rfl) hph)
        clear dep old ho hsz hph hnot hyes hLi
        go_simp
      | 7, ho =>
        obtain rfl := Option.some.inj ho
        rw [if_pos (wanted_none rfl)]
        have d6 : a.tmps.getD 97 undef = .pointer (some ⟨gm, 24 + rn, none⟩) := dep 6 _ _ (by kernel_rfl) rfl rfl _ rfl
        have e6 : a.tmps[97]?.getD undef = _ := (Array.getD_eq_getD_getElem? ..).symm.trans d6
        have hA : Below w1.heap.size w1 w2 := by
          have h2 := hph
          unfold phased at h2
          rw [if_neg (by rw [hnot 14 (by kernel_rfl)]; decide)] at h2
          unfold phased at h2
          rw [if_neg (by rw [hnot 10 (by kernel_rfl)]; decide)] at h2
          exact phased_all (R := fun w2 => Below w1.heap.size w1 w2) (fun q hq v w h => by simp only [List.mem_cons, List.not_mem_nil, or_false] at hq; rcases hq with rfl; exact h.2) (fun w h => h) h2
        have g0 := (hA.cell (p := ⟨gm, 24 + rn, none⟩) HGL.out).trans HC5.out
        refine wp_yields (v := .slice A5 wn c5) (w' := w2) ?_ (fun u hu => Option.some.inj (Option.some.inj hu)) (phased_quiet hLi (by rfl) hph)
        clear dep old ho hsz hph hnot hyes hLi hA
        go_simp
      | 8, ho =>
        obtain rfl := Option.some.inj ho
        rw [if_pos (wanted_none rfl)]
        have o7 : a.tmps.getD 7 undef = .pointer (some ⟨bx, 0, none⟩) := (old 7 (by kernel_rfl)).trans (by simp [Array.getD_eq_getD_getElem?, hstm2, y3, y4, y5, y7, y9, y10, y11, ptr])
        have oe7 : a.tmps[7]?.getD undef = _ := (Array.getD_eq_getD_getElem? ..).symm.trans o7
        have hA : Below w1.heap.size w1 w2 := by
          have h2 := hph
          unfold phased at h2
          rw [if_neg (by rw [hnot 14 (by kernel_rfl)]; decide)] at h2
          unfold phased at h2
          rw [if_neg (by rw [hnot 10 (by kernel_rfl)]; decide)] at h2
          exact phased_all (R := fun w2 => Below w1.heap.size w1 w2) (fun q hq v w h => by simp only [List.mem_cons, List.not_mem_nil, or_false] at hq; rcases hq with rfl; exact h.2) (fun w h => h) h2
        have g0 := (hA.cell (p := ⟨bx, 0, none⟩) HBX.out).trans D0.out
        have g1 := (hA.cell (p := ⟨bx, 1, none⟩) HBX.out).trans D1.out
        have g2 := (hA.cell (p := ⟨bx, 2, none⟩) HBX.out).trans D2.out
        have g3 := (hA.cell (p := ⟨bx, 3, none⟩) HBX.out).trans D3.out
        have g4 := (hA.cell (p := ⟨bx, 4, none⟩) HBX.out).trans D4.out
        refine wp_yields (v := .agg #[.int .i64 kd, .int .i64 (rn : Int), .int .i64 s, .slice A m c, .int .u64 (mask : Int)]) (w' := w2) ?_ (fun u hu => Option.some.inj (Option.some.inj hu)) (phased_quiet hLi (by rfl) hph)
        clear dep old ho hsz hph hnot hyes hLi hA
        go_simp
      | 9, ho =>
        obtain rfl := Option.some.inj ho
        rw [if_pos (wanted_none rfl)]
        have d8 : a.tmps.getD 99 undef = .agg #[.int .i64 kd, .int .i64 (rn : Int), .int .i64 s, .slice A m c, .int .u64 (mask : Int)] := dep 8 _ _ (by kernel_rfl) rfl rfl _ rfl
        have e8 : a.tmps[99]?.getD undef = _ := (Array.getD_eq_getD_getElem? ..).symm.trans d8
        have hA : Below w1.heap.size w1 w2 := by
          have h2 := hph
          unfold phased at h2
          rw [if_neg (by rw [hnot 14 (by kernel_rfl)]; decide)] at h2
          unfold phased at h2
          rw [if_neg (by rw [hnot 10 (by kernel_rfl)]; decide)] at h2
          exact phased_all (R := fun w2 => Below w1.heap.size w1 w2) (fun q hq v w h => by simp only [List.mem_cons, List.not_mem_nil, or_false] at hq; rcases hq with rfl; exact h.2) (fun w h => h) h2
        refine wp_yields (v := .slice (some ⟨w2.heap.size, 0, none⟩) 1 1) (w' := w2.alloc (.cells #[.int .i64 kd, .int .i64 (rn : Int), .int .i64 s, .slice A m c, .int .u64 (mask : Int)] 36)) ?_ (fun u hu => by cases Option.some.inj hu) ?_
        · clear dep old ho hsz hph hnot hyes hLi hA
          go_simp
        · unfold phased
          rw [if_neg (by simp [also, hnot 14 (by kernel_rfl)])]
          unfold phased
          rw [if_neg (by simp [also, hnot 10 (by kernel_rfl)])]
          unfold phased
          rw [if_pos (by simp [also])]
          exact ⟨by simp [also], ⟨w2.heap.size, by simp [yielding], Blk.new_ w2 _ _ rfl⟩, hA.alloc hA.size _⟩
      | 10, ho =>
        obtain rfl := Option.some.inj ho
        rw [if_pos (wanted_none rfl)]
        have d7 : a.tmps.getD 98 undef = .slice A5 wn c5 := dep 7 _ _ (by kernel_rfl) rfl rfl _ rfl
        have e7 : a.tmps[98]?.getD undef = _ := (Array.getD_eq_getD_getElem? ..).symm.trans d7
        unfold phased at hph
        rw [if_neg (by rw [hnot 14 (by kernel_rfl)]; decide)] at hph
        unfold phased at hph
        rw [if_neg (by rw [hLi]; decide)] at hph
        unfold phased at hph
        rw [if_pos (hyes 9 (by kernel_rfl))] at hph
        obtain ⟨_, ⟨gz, eg, hgz⟩, hA⟩ := hph
        have eg2 : a.tmps.getD 100 undef = .slice (some ⟨gz, 0, none⟩) 1 1 := eg
        have hx2 := HX.out.below hA
        have hle2 := hx2.le
        have hown := hx2.md.own rn hr
        rw [HVS.out] at hown
        obtain ⟨v', w', hrun, h2, h3, h4⟩ := run_append_calls 22 (.slice A5 wn c5) (wt rn).length (wt rn) [⟨kd, (rn : Int), s, .slice A m c, l, mask⟩] (some ⟨gz, 0, none⟩) 1 1 hown rfl (callRow_one hgz (fit_more (hx2.fit.below hle2) hle2.size)) (by have := HLN.out; omega) hle2.size
        refine Lib.wp_append_run w2 (.tmp 98) (.tmp 100) 22 22 rfl _ _ d7 eg2 v' w' hrun ⟨v', rfl, (fun u hu => by cases Option.some.inj hu), ?_⟩
        unfold phased
        rw [if_neg (by simp [also, hnot 14 (by kernel_rfl)])]
        unfold phased
        rw [if_pos (by simp [also])]
        exact ⟨by simp [also], w2, hA, by rw [HVS.out]; exact h3, by simpa [yielding] using h2, by rw [HVS.out]; simpa [yielding] using h4⟩
      | 11, ho =>
        obtain rfl := Option.some.inj ho
        rw [if_pos (wanted_none rfl)]
        have d0 : a.tmps.getD 91 undef = .pointer (some ⟨gm, 0, none⟩) := dep 0 _ _ (by kernel_rfl) rfl rfl _ rfl
        have e0 : a.tmps[91]?.getD undef = _ := (Array.getD_eq_getD_getElem? ..).symm.trans d0
        refine wp_yields (v := .pointer (some ⟨gm, 0, none⟩)) (w' := w2) ?_ (fun u hu => Option.some.inj (Option.some.inj hu)) (phased_quiet hLi (by rfl) hph)
        clear dep old ho hsz hph hnot hyes hLi
        go_simp
      | 12, ho =>
        obtain rfl := Option.some.inj ho
        rw [if_pos (wanted_none rfl)]
        have d11 : a.tmps.getD 102 undef = .pointer (some ⟨gm, 0, none⟩) := dep 11 _ _ (by kernel_rfl) rfl rfl _ rfl
        have e11 : a.tmps[102]?.getD undef = _ := (Array.getD_eq_getD_getElem? ..).symm.trans d11
        refine wp_yields (v := .pointer (some ⟨gm, 24, none⟩)) (w' := w2) ?_ (fun u hu => Option.some.inj (Option.some.inj hu)) (phased_quiet hLi (by rfl) hph)
        clear dep old ho hsz hph hnot hyes hLi
        go_simp
      | 13, ho =>
        obtain rfl := Option.some.inj ho
        rw [if_pos (wanted_none rfl)]
        have d1 : a.tmps.getD 92 undef = .int .i64 (rn : Int) := dep 1 _ _ (by kernel_rfl) rfl rfl _ rfl
        have e1 : a.tmps[92]?.getD undef = _ := (Array.getD_eq_getD_getElem? ..).symm.trans d1
        have d12 : a.tmps.getD 103 undef = .pointer (some ⟨gm, 24, none⟩) := dep 12 _ _ (by kernel_rfl) rfl rfl _ rfl
        have e12 : a.tmps[103]?.getD undef = _ := (Array.getD_eq_getD_getElem? ..).symm.trans d12
        refine wp_yields (v := .pointer (some ⟨gm, 24 + rn, none⟩)) (w' := w2) ?_ (fun u hu => Option.some.inj (Option.some.inj hu)) (phased_quiet hLi (by rfl) hph)
        clear dep old ho hsz hph hnot hyes hLi
        go_simp
      | 14, ho =>
        obtain rfl := Option.some.inj ho
        rw [if_pos (wanted_none rfl)]
        have d13 : a.tmps.getD 104 undef = .pointer (some ⟨gm, 24 + rn, none⟩) := dep 13 _ _ (by kernel_rfl) rfl rfl _ rfl
        have e13 : a.tmps[104]?.getD undef = _ := (Array.getD_eq_getD_getElem? ..).symm.trans d13
        unfold phased at hph
        rw [if_neg (by rw [hLi]; decide)] at hph
        unfold phased at hph
        rw [if_pos (hyes 10 (by kernel_rfl))] at hph
        obtain ⟨_, hph⟩ := hph
        have hph' : AP2 w1 w0.heap.size (vs rn) ((wt rn).length + 1) (wt rn ++ [⟨kd, (rn : Int), s, .slice A m c, l, mask⟩]) (a.tmps.getD 101 undef) w2 := hph
        obtain ⟨v, hv⟩ : ∃ v, a.tmps.getD 101 undef = v := ⟨_, rfl⟩
        rw [hv] at hph'
        have hv2 : a.tmps[101]?.getD undef = v := (Array.getD_eq_getD_getElem? ..).symm.trans hv
        obtain ⟨u, hu1, hu2, hu3, hu4⟩ := id hph'
        obtain ⟨A9, c9, rfl⟩ := own5_form hu3
        have hgb : Blk w2 gm 32 PC := (hu2.block gm ((HX.out.below hu1).md.blk.lt) (fun e => HX.out.md.apart rn hr gm e.symm rfl)).trans (HX.out.below hu1).md.blk
        have g0 := hgb.cell _ _ (HX.out.md.rows rn hr)
        have g1 := hgb.frozen (24 + rn)
        refine wp_skips (w' := w2.setCell ⟨gm, 24 + rn, none⟩ (.slice A9 ((wt rn).length + 1) c9)) ?_ (fun u hu => by cases Option.some.inj hu) ?_
        · clear dep old ho hsz hnot hyes hLi hph hu1 hu2 hu3 hu4 hgb hph'
          go_simp
        · unfold phased
          rw [if_pos (by simp [also])]
          refine ⟨by simp [also, hyes 10 (by kernel_rfl)], w2, ?_, ?_⟩
          · show AP2 w1 w0.heap.size (vs rn) ((wt rn).length + 1) (wt rn ++ [⟨kd, (rn : Int), s, .slice A m c, l, mask⟩]) (if 10 = 14 then _ else got _ a 10) w2
            rw [if_neg (by decide)]
            exact hph
          · show _ = w2.setCell _ (a.tmps.getD 101 undef)
            rw [hv]
      | i + 15, ho => exact absurd ho (by simp)
    · intro a w3 hph hsz hdf fin keep
      have kptm3 : Keeps SW tm a.tmps := Keeps.region hsz keep (by kernel_rfl) (by dsimp only; repeat (first | (with_reducible exact kptm2) | ((with_reducible refine Keeps.put ?_ ?_ _); rfl)))
      have hstm3 : a.tmps.size = 264 := hsz.trans (by simp [hstm2, y3, y4, y5, y7, y9, y10, y11, ptr])
      have vtm3_3 : a.tmps[3]? = some (ptr d) := slot_get ((keep 3 (by kernel_rfl)).trans (by simp [Array.getD_eq_getD_getElem?, hstm2, y3, y4, y5, y7, y9, y10, y11, ptr])) (by omega)
      have vtm3_4 : a.tmps[4]? = some (ptr gm) := slot_get ((keep 4 (by kernel_rfl)).trans (by simp [Array.getD_eq_getD_getElem?, hstm2, y3, y4, y5, y7, y9, y10, y11, ptr])) (by omega)
      have vtm3_5 : a.tmps[5]? = some (.int .i64 (n : Int)) := slot_get ((keep 5 (by kernel_rfl)).trans (by simp [Array.getD_eq_getD_getElem?, hstm2, y3, y4, y5, y7, y9, y10, y11, ptr])) (by omega)
      have vtm3_7 : a.tmps[7]? = some (ptr bx) := slot_get ((keep 7 (by kernel_rfl)).trans (by simp [Array.getD_eq_getD_getElem?, hstm2, y3, y4, y5, y7, y9, y10, y11, ptr])) (by omega)
      have vtm3_9 : a.tmps[9]? = some (.int .i64 (rn : Int)) := slot_get ((keep 9 (by kernel_rfl)).trans (by simp [Array.getD_eq_getD_getElem?, hstm2, y3, y4, y5, y7, y9, y10, y11, ptr])) (by omega)
      have vtm3_10 : a.tmps[10]? = some (.int .i64 s) := slot_get ((keep 10 (by kernel_rfl)).trans (by simp [Array.getD_eq_getD_getElem?, hstm2, y3, y4, y5, y7, y9, y10, y11, ptr])) (by omega)
      have vtm3_11 : a.tmps[11]? = some (.int .i64 0) := slot_get ((keep 11 (by kernel_rfl)).trans (by simp [Array.getD_eq_getD_getElem?, hstm2, y3, y4, y5, y7, y9, y10, y11, ptr])) (by omega)
      unfold phased at hph
      rw [if_pos rfl] at hph
      obtain ⟨_, hph⟩ := hph
      obtain ⟨tm3, df⟩ := a
      dsimp only at hdf hsz kptm3 hstm3 vtm3_3 vtm3_4 vtm3_5 vtm3_7 vtm3_9 vtm3_10 vtm3_11
      subst hdf
      clear fin keep hsz
      obtain ⟨PC', vs', hmd3, hmany3, hle3, hbox3⟩ := runs_more HX.out hr hph
      have HMD := hide hmd3
      have z3 := slot_at vtm3_3 (by omega)
      have z4 := slot_at vtm3_4 (by omega)
      have z5 := slot_at vtm3_5 (by omega)
      have z7 := slot_at vtm3_7 (by omega)
      have z9 := slot_at vtm3_9 (by omega)
      have z10 := slot_at vtm3_10 (by omega)
      have z11 := slot_at vtm3_11 (by omega)
      unfold ptr at z4 z7
      have hlf3 := hmd3.blk.cell _ _ (hmd3.lefts rn hr)
      have hn0 : (n : Int) ≤ 200 := by have := hx.tie.few; omega
      have hn1 : (0 : Int) ≤ (n : Int) := by omega
      have hTI := hide hx.tie
      have hf := hide hx.fit
      have hbl := hide hx.len
      have hl1 := hx.tie.left_lt hr
      have HLW := hide (fun h : 0 < lf rn => show IntKind.i64.wrap (lf rn - 1) = lf rn - 1 by rw [IntKind.wrap_i64]; omega)
      have hg0 := hx.gmlo
      have HGB := hide (show gm ≠ bx from fun e => hx.far (.inl e.symm))
      clear hph hmd3 vtm3_3 vtm3_4 vtm3_5 vtm3_7 vtm3_9 vtm3_10 vtm3_11 hx HX
      by_cases hpos : 0 < lf rn
      · have hp1 : decide (lf rn > 0) = true := by simpa using hpos
        go_upto_if 113 with fail
        refine wp_cond_true (by simp [Act.eval, hstm3]) ?_
        go_upto_region 24 with fail
        refine region_turns_n 264 (by simp [hstm3, z3, z4, z5, z7, z9, z10, z11, ptr]) (G := Turns (· = gm)) [Word.is _ (.pointer (some ⟨gm, 0, none⟩)), Word.is _ (.int .i64 (rn : Int)), Word.is _ (.pointer (some ⟨gm, 0, none⟩)), Word.is _ (.pointer (some ⟨gm, 27, none⟩)), Word.is _ (.pointer (some ⟨gm, 27 + rn, none⟩)), Word.is _ (.int .i64 (lf rn)), Word.is _ (.int .i64 (lf rn - 1)), Word.is _ (.pointer (some ⟨gm, 0, none⟩)), Word.is _ (.pointer (some ⟨gm, 27, none⟩)), Word.is _ (.pointer (some ⟨gm, 27 + rn, none⟩)), Word.any _] (Stored gm 32 [(10, (27 + rn), .int .i64 (lf rn - 1))] (PC')) (Turns.refl _) Turns.trans (Turns.drew _) (by kernel_rfl) (by kernel_rfl) (by kernel_rfl) (by kernel_rfl) (fun L L' w h hS => Stored.ext (by kernel_rfl) h hS) (Stored.start _ HMD.out.blk) ?_ ?_
        · intro i o ho L a w2 hb hS hLi hnot hyes hsz old dep
          match i, ho with
          | 0, ho =>
            obtain rfl := Option.some.inj ho
            have o4 : a.tmps.getD 4 undef = .pointer (some ⟨gm, 0, none⟩) := (old 4 (by kernel_rfl)).trans (by simp [Array.getD_eq_getD_getElem?, hstm3, z3, z4, z5, z7, z9, z10, z11, ptr])
            have oe4 : a.tmps[4]?.getD undef = _ := (Array.getD_eq_getD_getElem? ..).symm.trans o4
            rw [if_pos (wanted_none rfl)]
            refine turn_same (Turns.refl _) (v := .pointer (some ⟨gm, 0, none⟩)) ?_ rfl (hS.other (by rfl))
            clear old dep ho hsz hb hS hLi hnot hyes
            go_simp
          | 1, ho =>
            obtain rfl := Option.some.inj ho
            have o9 : a.tmps.getD 9 undef = .int .i64 (rn : Int) := (old 9 (by kernel_rfl)).trans (by simp [Array.getD_eq_getD_getElem?, hstm3, z3, z4, z5, z7, z9, z10, z11, ptr])
            have oe9 : a.tmps[9]?.getD undef = _ := (Array.getD_eq_getD_getElem? ..).symm.trans o9
            rw [if_pos (wanted_none rfl)]
            refine turn_same (Turns.refl _) (v := .int .i64 (rn : Int)) ?_ rfl (hS.other (by rfl))
            clear old dep ho hsz hb hS hLi hnot hyes
            go_simp
          | 2, ho =>
            obtain rfl := Option.some.inj ho
            have d0 : a.tmps.getD 114 undef = .pointer (some ⟨gm, 0, none⟩) := dep 0 _ _ (by kernel_rfl) rfl rfl
            have e0 : a.tmps[114]?.getD undef = _ := (Array.getD_eq_getD_getElem? ..).symm.trans d0
            rw [if_pos (wanted_none rfl)]
            refine turn_same (Turns.refl _) (v := .pointer (some ⟨gm, 0, none⟩)) ?_ rfl (hS.other (by rfl))
            clear old dep ho hsz hb hS hLi hnot hyes
            go_simp
          | 3, ho =>
            obtain rfl := Option.some.inj ho
            have d2 : a.tmps.getD 116 undef = .pointer (some ⟨gm, 0, none⟩) := dep 2 _ _ (by kernel_rfl) rfl rfl
            have e2 : a.tmps[116]?.getD undef = _ := (Array.getD_eq_getD_getElem? ..).symm.trans d2
            rw [if_pos (wanted_none rfl)]
            refine turn_same (Turns.refl _) (v := .pointer (some ⟨gm, 27, none⟩)) ?_ rfl (hS.other (by rfl))
            clear old dep ho hsz hb hS hLi hnot hyes
            go_simp
          | 4, ho =>
            obtain rfl := Option.some.inj ho
            have d1 : a.tmps.getD 115 undef = .int .i64 (rn : Int) := dep 1 _ _ (by kernel_rfl) rfl rfl
            have e1 : a.tmps[115]?.getD undef = _ := (Array.getD_eq_getD_getElem? ..).symm.trans d1
            have d3 : a.tmps.getD 117 undef = .pointer (some ⟨gm, 27, none⟩) := dep 3 _ _ (by kernel_rfl) rfl rfl
            have e3 : a.tmps[117]?.getD undef = _ := (Array.getD_eq_getD_getElem? ..).symm.trans d3
            rw [if_pos (wanted_none rfl)]
            refine turn_same (Turns.refl _) (v := .pointer (some ⟨gm, 27 + rn, none⟩)) ?_ rfl (hS.other (by rfl))
            clear old dep ho hsz hb hS hLi hnot hyes
            go_simp
          | 5, ho =>
            obtain rfl := Option.some.inj ho
            have d4 : a.tmps.getD 118 undef = .pointer (some ⟨gm, 27 + rn, none⟩) := dep 4 _ _ (by kernel_rfl) rfl rfl
            have e4 : a.tmps[118]?.getD undef = _ := (Array.getD_eq_getD_getElem? ..).symm.trans d4
            rw [if_pos (wanted_none rfl)]
            have g0 := (hS.off (hnot 10 (by kernel_rfl))).cell _ _ (HMD.out.lefts rn hr)
            refine turn_same (Turns.refl _) (v := .int .i64 (lf rn)) ?_ rfl (hS.other (by rfl))
            clear old dep ho hsz hb hS hLi hnot hyes
            go_simp
          | 6, ho =>
            obtain rfl := Option.some.inj ho
            have d5 : a.tmps.getD 119 undef = .int .i64 (lf rn) := dep 5 _ _ (by kernel_rfl) rfl rfl
            have e5 : a.tmps[119]?.getD undef = _ := (Array.getD_eq_getD_getElem? ..).symm.trans d5
            rw [if_pos (wanted_none rfl)]
            have hw := HLW.out hpos
            refine turn_same (Turns.refl _) (v := .int .i64 (lf rn - 1)) ?_ rfl (hS.other (by rfl))
            clear old dep ho hsz hb hS hLi hnot hyes
            go_simp
          | 7, ho =>
            obtain rfl := Option.some.inj ho
            have d0 : a.tmps.getD 114 undef = .pointer (some ⟨gm, 0, none⟩) := dep 0 _ _ (by kernel_rfl) rfl rfl
            have e0 : a.tmps[114]?.getD undef = _ := (Array.getD_eq_getD_getElem? ..).symm.trans d0
            rw [if_pos (wanted_none rfl)]
            refine turn_same (Turns.refl _) (v := .pointer (some ⟨gm, 0, none⟩)) ?_ rfl (hS.other (by rfl))
            clear old dep ho hsz hb hS hLi hnot hyes
            go_simp
          | 8, ho =>
            obtain rfl := Option.some.inj ho
            have d7 : a.tmps.getD 121 undef = .pointer (some ⟨gm, 0, none⟩) := dep 7 _ _ (by kernel_rfl) rfl rfl
            have e7 : a.tmps[121]?.getD undef = _ := (Array.getD_eq_getD_getElem? ..).symm.trans d7
            rw [if_pos (wanted_none rfl)]
            refine turn_same (Turns.refl _) (v := .pointer (some ⟨gm, 27, none⟩)) ?_ rfl (hS.other (by rfl))
            clear old dep ho hsz hb hS hLi hnot hyes
            go_simp
          | 9, ho =>
            obtain rfl := Option.some.inj ho
            have d1 : a.tmps.getD 115 undef = .int .i64 (rn : Int) := dep 1 _ _ (by kernel_rfl) rfl rfl
            have e1 : a.tmps[115]?.getD undef = _ := (Array.getD_eq_getD_getElem? ..).symm.trans d1
            have d8 : a.tmps.getD 122 undef = .pointer (some ⟨gm, 27, none⟩) := dep 8 _ _ (by kernel_rfl) rfl rfl
            have e8 : a.tmps[122]?.getD undef = _ := (Array.getD_eq_getD_getElem? ..).symm.trans d8
            rw [if_pos (wanted_none rfl)]
            refine turn_same (Turns.refl _) (v := .pointer (some ⟨gm, 27 + rn, none⟩)) ?_ rfl (hS.other (by rfl))
            clear old dep ho hsz hb hS hLi hnot hyes
            go_simp
          | 10, ho =>
            obtain rfl := Option.some.inj ho
            have d6 : a.tmps.getD 120 undef = .int .i64 (lf rn - 1) := dep 6 _ _ (by kernel_rfl) rfl rfl
            have e6 : a.tmps[120]?.getD undef = _ := (Array.getD_eq_getD_getElem? ..).symm.trans d6
            have d9 : a.tmps.getD 123 undef = .pointer (some ⟨gm, 27 + rn, none⟩) := dep 9 _ _ (by kernel_rfl) rfl rfl
            have e9 : a.tmps[123]?.getD undef = _ := (Array.getD_eq_getD_getElem? ..).symm.trans d9
            rw [if_pos (wanted_none rfl)]
            obtain ⟨⟨u0, hu0⟩, hf0⟩ := hS.cell (27 + rn) (by rw [HMD.out.size]; omega)
            refine turn_skips (w' := w2.setCell ⟨gm, (27 + rn), none⟩ (.int .i64 (lf rn - 1))) ?_ trivial (hS.at_ 0 rfl rfl hLi) (Turns.own w2 _ _ _)
            clear old dep ho hsz hb hS hLi hnot hyes
            go_simp
          | i + 11, ho => exact absurd ho (by simp)
        · intro a w4 hb hS hsz hdf fin keep
          have kptm4 : Keeps SW tm a.tmps := Keeps.region hsz keep (by kernel_rfl) (by dsimp only; repeat (first | (with_reducible exact kptm3) | ((with_reducible refine Keeps.put ?_ ?_ _); rfl)))
          have hstm4 : a.tmps.size = 264 := hsz.trans (by simp [hstm3, z3, z4, z5, z7, z9, z10, z11, ptr])
          have vtm4_3 : a.tmps[3]? = some (ptr d) := slot_get ((keep 3 (by kernel_rfl)).trans (by simp [Array.getD_eq_getD_getElem?, hstm3, z3, z4, z5, z7, z9, z10, z11, ptr])) (by omega)
          have vtm4_4 : a.tmps[4]? = some (ptr gm) := slot_get ((keep 4 (by kernel_rfl)).trans (by simp [Array.getD_eq_getD_getElem?, hstm3, z3, z4, z5, z7, z9, z10, z11, ptr])) (by omega)
          have vtm4_5 : a.tmps[5]? = some (.int .i64 ((n : Int) + 1)) := slot_get ((keep 5 (by kernel_rfl)).trans (by simp [Array.getD_eq_getD_getElem?, hstm3, z3, z4, z5, z7, z9, z10, z11, ptr])) (by omega)
          have vtm4_7 : a.tmps[7]? = some (ptr bx) := slot_get ((keep 7 (by kernel_rfl)).trans (by simp [Array.getD_eq_getD_getElem?, hstm3, z3, z4, z5, z7, z9, z10, z11, ptr])) (by omega)
          have vtm4_9 : a.tmps[9]? = some (.int .i64 (rn : Int)) := slot_get ((keep 9 (by kernel_rfl)).trans (by simp [Array.getD_eq_getD_getElem?, hstm3, z3, z4, z5, z7, z9, z10, z11, ptr])) (by omega)
          have vtm4_10 : a.tmps[10]? = some (.int .i64 s) := slot_get ((keep 10 (by kernel_rfl)).trans (by simp [Array.getD_eq_getD_getElem?, hstm3, z3, z4, z5, z7, z9, z10, z11, ptr])) (by omega)
          have vtm4_11 : a.tmps[11]? = some (.int .i64 0) := slot_get ((keep 11 (by kernel_rfl)).trans (by simp [Array.getD_eq_getD_getElem?, hstm3, z3, z4, z5, z7, z9, z10, z11, ptr])) (by omega)
          obtain ⟨tm4, df⟩ := a
          dsimp only at hdf hsz kptm4 hstm4 vtm4_3 vtm4_4 vtm4_5 vtm4_7 vtm4_9 vtm4_10 vtm4_11
          subst hdf
          clear fin keep hsz
          have hmd4 := HMD.out.left_k hr (lf rn - 1) hb.kept hS.on_
          have hmany4 := hmany3.foreign hb.kept (fun g hg => .inl (.inl (.inr (.inl hg))))
          have hle4 := hle3.trans (hb.below hle3.size (fun g hg => by rw [hg]; exact hg0))
          have hbox4 := hb.blk hbox3 (fun e => HGB.out e.symm)
          have hmd5 : Md w4 w0.heap.size gm (PC'.setIfInBounds (27 + rn) (.int .i64 (lf rn - 1))) dat (fun q => if q = rn then wt rn ++ [⟨kd, (rn : Int), s, .slice A m c, l, mask⟩] else wt q) (fun q => if q = rn then (if lf rn > 0 then lf rn - 1 else lf rn) else lf q) vs' := by simpa only [if_pos (show lf rn > 0 from hpos)] using hmd4
          have y3 := slot_at vtm4_3 (by omega)
          have y5 := slot_at vtm4_5 (by omega)
          have y7 := slot_at vtm4_7 (by omega)
          have y9 := slot_at vtm4_9 (by omega)
          have y10 := slot_at vtm4_10 (by omega)
          have y11 := slot_at vtm4_11 (by omega)
          unfold ptr at y7
          have d3 : w4.cell? ⟨bx, 3, none⟩ = some (.slice A m c) := hbox4.cell 3 _ rfl
          clear hb hS hmd4 vtm4_3 vtm4_4 vtm4_5 vtm4_7 vtm4_9 vtm4_10 vtm4_11 hbox3 hbox4 hlf3
          have hcall := rn_write_ok hTI.out hk hr hd hss hm hf.out hbl.out hmany4 (fun g hg => .inl hg) hle4 hmd5
          go_upto_if 148 with (go_at_call 6; refine (hcall).mono ?_; rintro e w5 ⟨rfl, D8, wt2, lf2, hS⟩)
          refine wp_cond_false (by simp [Act.eval, hstm4]) ?_
          go_wp2
          exact hK _ _ (n + 1) _ _ _ _ _ _ (by repeat (first | (with_reducible exact kptm4) | ((with_reducible refine Keeps.put ?_ ?_ _); rfl))) (by simp [hstm4, y5]) hS
      · have hp1 : decide (lf rn > 0) = false := by simpa using hpos
        go_upto_if 113 with fail
        refine wp_cond_false (by simp [Act.eval, hstm3]) ?_
        have hmd5 : Md w3 w0.heap.size gm PC' dat (fun q => if q = rn then wt rn ++ [⟨kd, (rn : Int), s, .slice A m c, l, mask⟩] else wt q) (fun q => if q = rn then (if lf rn > 0 then lf rn - 1 else lf rn) else lf q) vs' := by
          have e : (fun q => if q = rn then (if lf rn > 0 then lf rn - 1 else lf rn) else lf q) = lf := by
            funext q
            by_cases e : q = rn
            · rw [if_pos e, if_neg (show ¬ lf rn > 0 from hpos), e]
            · rw [if_neg e]
          rw [e]
          exact HMD.out
        have d3 : w3.cell? ⟨bx, 3, none⟩ = some (.slice A m c) := hbox3.cell 3 _ rfl
        have hcall := rn_write_ok hTI.out hk hr hd hss hm hf.out hbl.out hmany3 (fun g hg => .inl hg) hle3 hmd5
        go_upto_if 148 with (go_at_call 6; refine (hcall).mono ?_; rintro e w5 ⟨rfl, D8, wt2, lf2, hS⟩)
        refine wp_cond_false (by simp [Act.eval, hstm3]) ?_
        go_wp2
        exact hK _ _ (n + 1) _ _ _ _ _ _ (by repeat (first | (with_reducible exact kptm3) | ((with_reducible refine Keeps.put ?_ ?_ _); rfl))) (by simp [hstm3, z5]) hS
end Go.Proofs.Ythlclhfepnmaeaa
