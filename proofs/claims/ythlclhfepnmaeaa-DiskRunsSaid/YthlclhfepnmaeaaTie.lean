/-
  That the disk is the model of DiskRuns: what each kind of call leaves of it.
-/
import Derived.Test.YthlclhfepnmaeaaMdm
namespace Go.Proofs.Ythlclhfepnmaeaa
open Go.RowKit

/-- The disk is the model. -/
structure Tie (w0 : World) (D : Ds) (dat : Nat → Nat → List UInt8) (wt : Nat → List CallD) (lf : Nat → Int) (n k : Nat) : Prop where
  shape : Shape D 3 8
  writes : D.writes = n
  is : ∀ r : Nat, r < 3 → ∃ rg, D.at? (r : Int) = some rg ∧ Is rg (dat r) (wt r) (lf r)
  fit : ∀ r : Nat, r < 3 → ∀ x ∈ wt r, x.Fit w0 w0.heap.size
  len : ∀ r : Nat, r < 3 → (wt r).length ≤ k
  small : Small D k
  few : n ≤ k
section
variable {w0 : World} {D : Ds} {dat : Nat → Nat → List UInt8} {wt : Nat → List CallD} {lf : Nat → Int} {n k : Nat}
theorem Tie.up (h : Tie w0 D dat wt lf n k) : Tie w0 D dat wt lf n (k + 1) := ⟨h.shape, h.writes, h.is, h.fit, fun r hr => Nat.le_succ_of_le (h.len r hr), h.small.more (Nat.le_succ k), Nat.le_succ_of_le h.few⟩
theorem at_set {D : Ds} {r q : Nat} {rg rg' : Rg} (h : D.at? (r : Int) = some rg) {m z : Nat} : (⟨m, D.regs.set (r : Int).toNat rg', z⟩ : Ds).at? (q : Int) = if q = r then some rg' else D.at? (q : Int) := by
  rw [at_nat] at h
  have hlt : r < D.regs.length := (List.getElem?_eq_some_iff.1 h).1
  rw [at_nat, at_nat, Int.toNat_natCast]
  show (D.regs.set r rg')[q]? = _
  rw [List.getElem?_set]
  by_cases e : r = q
  · subst e
    rw [if_pos rfl, if_pos hlt, if_pos rfl]
  · rw [if_neg e, if_neg (fun e2 => e e2.symm)]
/-- No such region. -/
theorem Tie.none_ (h : Tie w0 D dat wt lf n k) {r : Int} (hr : r < 0 ∨ 3 ≤ r) : D.at? r = none := by
  unfold Ds.at?
  split
  · rfl
  · rw [List.getElem?_eq_none_iff, h.shape.1]
    omega
theorem Tie.write (h : Tie w0 D dat wt lf n k) {r : Nat} (hr : r < 3) (hd : lf r ≠ 0) {x : CallD} (hx : 0 ≤ x.s ∧ x.s < 8 ∧ x.data.length ≤ 64) (hf : x.Fit w0 w0.heap.size) :
    D.wrCode (r : Int) x.s x.data.length = 0 ∧ Tie w0 (D.wr (r : Int) x.s x.data) dat (fun q => if q = r then wt r ++ [x] else wt q) (fun q => if q = r then (if lf r > 0 then lf r - 1 else lf r) else lf q) (n + 1) (k + 1) := by
  obtain ⟨rg, hat, his⟩ := h.is r hr
  have hdn : rg.down = false := by rw [his.down]; simp [hd]
  have hsz := h.shape.2
  have hw := wr_ok hat hx.1 (by omega) hx.2.2 hdn
  refine ⟨hw.1, ?_⟩
  have hsh := h.shape.wr (r : Int) x.s x.data
  have hsm := h.small.wr (r : Int) x.s x.data
  rw [hw.2] at hsh hsm ⊢
  refine ⟨hsh, by show D.writes + 1 = n + 1; rw [h.writes], fun q hq => ?_, fun q hq y hy => ?_, fun q hq => ?_, hsm, Nat.succ_le_succ h.few⟩
  · unfold Ds.write
    rw [at_set hat]
    by_cases e : q = r
    · subst e
      rw [if_pos rfl, if_pos rfl, if_pos rfl]
      exact ⟨_, rfl, his.write hd hx⟩
    · rw [if_neg e, if_neg e, if_neg e]
      exact h.is q hq
  · by_cases e : q = r
    · rw [if_pos e] at hy
      rcases List.mem_append.1 hy with hy | hy
      · exact h.fit r hr y hy
      · rw [List.mem_singleton.1 hy]
        exact hf
    · rw [if_neg e] at hy
      exact h.fit q hq y hy
  · by_cases e : q = r
    · rw [if_pos e, List.length_append, List.length_singleton]
      exact Nat.succ_le_succ (h.len r hr)
    · rw [if_neg e]
      exact Nat.le_succ_of_le (h.len q hq)
/-- A write that is refused. -/
theorem Tie.write_bad (h : Tie w0 D dat wt lf n k) {r s : Int} {b : List UInt8} (hb : ¬ (0 ≤ r ∧ r < 3 ∧ 0 ≤ s ∧ s < 8) ∨ 64 < b.length) : D.wrCode r s b.length = 1 ∧ D.wr r s b = D := by
  by_cases hr : r < 0 ∨ 3 ≤ r
  · exact wr_none (h.none_ hr)
  · obtain ⟨j, rfl⟩ : ∃ j : Nat, r = (j : Int) := ⟨r.toNat, by omega⟩
    obtain ⟨rg, hat, _⟩ := h.is j (by omega)
    have hsz := h.shape.2
    exact wr_bad hat (by omega)
theorem Tie.write_down (h : Tie w0 D dat wt lf n k) {r : Nat} {s : Int} {b : List UInt8} (hr : r < 3) (hs : 0 ≤ s ∧ s < 8) (hb : b.length ≤ 64) (hd : lf r = 0) : D.wrCode (r : Int) s b.length = 10 ∧ D.wr (r : Int) s b = D := by
  obtain ⟨rg, hat, his⟩ := h.is r hr
  have hsz := h.shape.2
  exact wr_dn hat hs.1 (by omega) hb (by rw [his.down]; simp [hd])
theorem Tie.barrier (h : Tie w0 D dat wt lf n k) {r : Nat} (hr : r < 3) (hd : lf r ≠ 0) :
    D.brCode (r : Int) = 0 ∧ Tie w0 (D.br (r : Int)) (fun q => if q = r then kdat (bitOf 18446744073709551615) (wt r) (dat r) (wt r).length else dat q) (fun q => if q = r then [] else wt q) lf n (k + 1) := by
  obtain ⟨rg, hat, his⟩ := h.is r hr
  have hdn : rg.down = false := by rw [his.down]; simp [hd]
  have hsh := h.shape.br (r : Int)
  have hsm := h.small.br (r : Int)
  have e1 : D.brCode (r : Int) = 0 := by unfold Ds.brCode; rw [hat]; dsimp only; rw [hdn]; rfl
  have e2 : D.br (r : Int) = D.barrier (r : Int).toNat rg := by unfold Ds.br; rw [hat]; dsimp only; rw [hdn]; rfl
  refine ⟨e1, ?_⟩
  rw [e2] at hsh hsm ⊢
  refine ⟨hsh, h.writes, fun q hq => ?_, fun q hq y hy => ?_, fun q hq => ?_, hsm.more (Nat.le_succ k), Nat.le_succ_of_le h.few⟩
  · unfold Ds.barrier
    rw [at_set hat]
    by_cases e : q = r
    · subst e
      rw [if_pos rfl, if_pos rfl, if_pos rfl]
      exact ⟨_, rfl, his.barrier⟩
    · rw [if_neg e, if_neg e, if_neg e]
      exact h.is q hq
  · by_cases e : q = r
    · rw [if_pos e] at hy
      cases hy
    · rw [if_neg e] at hy
      exact h.fit q hq y hy
  · by_cases e : q = r
    · rw [if_pos e]
      exact Nat.zero_le _
    · rw [if_neg e]
      exact Nat.le_succ_of_le (h.len q hq)
theorem Tie.barrier_none (h : Tie w0 D dat wt lf n k) {r : Int} (hr : r < 0 ∨ 3 ≤ r) : D.brCode r = 1 ∧ D.br r = D := by
  unfold Ds.brCode Ds.br
  rw [h.none_ hr]
  exact ⟨rfl, rfl⟩
theorem Tie.barrier_down (h : Tie w0 D dat wt lf n k) {r : Nat} (hr : r < 3) (hd : lf r = 0) : D.brCode (r : Int) = 10 ∧ D.br (r : Int) = D := by
  obtain ⟨rg, hat, his⟩ := h.is r hr
  have hdn : rg.down = true := by rw [his.down]; simp [hd]
  unfold Ds.brCode Ds.br
  rw [hat]
  dsimp only
  rw [hdn]
  exact ⟨rfl, rfl⟩
theorem Tie.arm (h : Tie w0 D dat wt lf n k) {r : Nat} (hr : r < 3) (z : Int) (hz : z < 9223372036854775808) : Tie w0 (D.ar (r : Int) z) dat wt (fun q => if q = r then (if z > 0 then z else 0) else lf q) n (k + 1) := by
  obtain ⟨rg, hat, his⟩ := h.is r hr
  have hsm := h.small.ar (r : Int) z hz
  have e2 : D.ar (r : Int) z = D.arm (r : Int).toNat rg z := by unfold Ds.ar; rw [hat]
  rw [e2] at hsm ⊢
  refine ⟨⟨by show (List.set _ _ _).length = 3; rw [List.length_set]; exact h.shape.1, h.shape.2⟩, h.writes, fun q hq => ?_, h.fit, fun q hq => Nat.le_succ_of_le (h.len q hq), hsm.more (Nat.le_succ k), Nat.le_succ_of_le h.few⟩
  unfold Ds.arm
  rw [at_set hat]
  by_cases e : q = r
  · subst e
    rw [if_pos rfl, if_pos rfl]
    exact ⟨_, rfl, his.arm z⟩
  · rw [if_neg e, if_neg e]
    exact h.is q hq
theorem Tie.arm_none (h : Tie w0 D dat wt lf n k) {r z : Int} (hr : r < 0 ∨ 3 ≤ r) : D.ar r z = D := by
  unfold Ds.ar
  rw [h.none_ hr]
theorem Tie.crash (h : Tie w0 D dat wt lf n k) (m : Nat → Bool) : Tie w0 (D.crash m) (fun q => kdat m (wt q) (dat q) (wt q).length) (fun _ => []) (fun _ => -1) n (k + 1) := by
  refine ⟨h.shape.crash m, h.writes, fun q hq => ?_, fun _ _ _ hy => (by cases hy), fun _ _ => Nat.zero_le _, (h.small.crash m).more (Nat.le_succ k), Nat.le_succ_of_le h.few⟩
  obtain ⟨rg, hat, his⟩ := h.is q hq
  refine ⟨rg.crash m, ?_, his.crash m⟩
  rw [at_nat] at hat ⊢
  show (D.regs.map (Rg.crash m))[q]? = _
  rw [List.getElem?_map, hat]
  rfl
end
end Go.Proofs.Ythlclhfepnmaeaa
