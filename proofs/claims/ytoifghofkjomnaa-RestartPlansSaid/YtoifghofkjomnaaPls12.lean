/-
  RestartPlans: the model's lists in memory, how they are turned; a statement of a great function's code, by its path.
-/
import Derived.Test.YtoifghofkjomnaaPlan12
import Derived.Test.YtoifghofkjomnaaSix12
namespace Go.Proofs.Ytoifghofkjomnaa
open Go.RowKit
set_option maxRecDepth 20000
set_option linter.unusedSimpArgs false
set_option linter.unusedVariables false

/-- The statement at a path. -/
def subC : Code → List Nat → Code
  | c, [] => c
  | .seq a b, i :: p => if i = 0 then subC a p else subC b p
  | .cond _ a b, i :: p => if i = 0 then subC a p else subC b p
  | .block _ c, _ :: p => subC c p
  | .loop c, _ :: p => subC c p
  | .scope c, _ :: p => subC c p
  | _, _ :: _ => .skip
/-! What the model has of each number. -/
def loA (es : List Ei) (t : Nat) : List Ch := es.foldl (fun l e => loS t l e.r) []
def opA (es : List Ei) (t : Nat) : Bool := es.foldl (fun b e => opS t b e.r) false
theorem loA_in (es : List Ei) {t : Nat} (h : 1 ≤ t ∧ t ≤ 3) : loP es t = loA es t := if_pos h
theorem opA_in (es : List Ei) {t : Nat} (h : 1 ≤ t ∧ t ≤ 3) : opP es t = opA es t := if_pos h
theorem loA_length (es : List Ei) (t : Nat) : (loA es t).length ≤ es.length := by
  have := fold_len t es []
  simpa [loA] using this
theorem loA_snoc (es : List Ei) (x : Ei) : setN (loA es) x.r.t (loS x.r.t (loA es x.r.t) x.r) = loA (es ++ [x]) := by
  funext t
  unfold loA
  rw [List.foldl_append, List.foldl_cons, List.foldl_nil]
  by_cases e : t = x.r.t
  · subst e
    rw [setN_at]
  · rw [setN_ne _ _ e]
    exact (if_neg (fun h => e h.symm)).symm
theorem opA_snoc (es : List Ei) (x : Ei) : setN (opA es) x.r.t (opS x.r.t (opA es x.r.t) x.r) = opA (es ++ [x]) := by
  funext t
  unfold opA
  rw [List.foldl_append, List.foldl_cons, List.foldl_nil]
  by_cases e : t = x.r.t
  · subst e
    rw [setN_at]
  · rw [setN_ne _ _ e]
    exact (if_neg (fun h => e h.symm)).symm
/-- The lists and their flags, beside four other things; the entry at hand. -/
abbrev LQ (RA RB RC RD : Res) (lb ob : Nat) (vs vr : Nat → Value) (os : Nat → Bool) (ls : Nat → List Ch) : List Res :=
  [RA, RB, RC, RD, Res.blk lb 34 (cellsN 8 vs), Res.blk ob 35 (cellsN 8 (fun t => .bool (os t))), Res.rows chK 8 vr ls]
section
variable {A0 W : World} {F0 : Nat → Prop} {RA RB RC RD : Res} {lb ob eb t : Nat} {vs vr : Nat → Value} {os : Nat → Bool} {ls : Nat → List Ch} {ec : Array Value}
theorem LQ.storeLo (h : Ow A0 F0 W (LQ RA RB RC RD lb ob vs vr os ls ++ [Res.blk eb 40 ec])) (v : Value) : Ow A0 F0 (W.setCell ⟨lb, t, none⟩ v) (LQ RA RB RC RD lb ob (setN vs t v) vr os ls ++ [Res.blk eb 40 ec]) := by
  have := h.set_ (i := 4) rfl t v
  rw [cellsN_set] at this
  exact this
theorem setB (os : Nat → Bool) (t : Nat) (b : Bool) : setN (fun t => Value.bool (os t)) t (.bool b) = fun q => Value.bool (setN os t b q) := by
  funext q
  by_cases e : q = t
  · subst e
    rw [setN_at, setN_at]
  · rw [setN_ne _ _ e, setN_ne _ _ e]
theorem LQ.storeOp (h : Ow A0 F0 W (LQ RA RB RC RD lb ob vs vr os ls ++ [Res.blk eb 40 ec])) (b : Bool) : Ow A0 F0 (W.setCell ⟨ob, t, none⟩ (.bool b)) (LQ RA RB RC RD lb ob vs vr (setN os t b) ls ++ [Res.blk eb 40 ec]) := by
  have := h.set_ (i := 5) rfl t (.bool b)
  rw [cellsN_set, setB] at this
  exact this
theorem LQ.cells (h : Ow A0 F0 W (LQ RA RB RC RD lb ob vs vr os ls ++ [Res.blk eb 40 ec])) (ht : t < 8) : W.cell? ⟨lb, t, none⟩ = some (vs t) ∧ W.cell? ⟨ob, t, none⟩ = some (.bool (os t)) ∧ W.frozen? ⟨lb, t, none⟩ = false ∧ W.frozen? ⟨ob, t, none⟩ = false :=
  have h1 := h.blk (i := 4) rfl
  have h2 := h.blk (i := 5) rfl
  ⟨h1.cell _ _ (cellsN_at vs ht), h2.cell _ _ (cellsN_at (fun t => Value.bool (os t)) ht), h1.frozen _, h2.frozen _⟩
end
theorem loS_add {t : Nat} {l : List Ch} {r : Rc} (ht : r.t = t) (h : r.k = 2 ∨ r.k = 3) : loS t l r = l ++ [chOf r] ∧ ∀ b, opS t b r = true := ⟨by unfold loS; rw [if_pos ht, if_pos h], fun b => by unfold opS; rw [if_pos ht, if_pos h]⟩
theorem loS_cut {t : Nat} {l : List Ch} {r : Rc} (ht : r.t = t) (h : r.k = 4) : loS t l r = l.take (l.length - 1) ∧ ∀ b, opS t b r = b := ⟨by unfold loS; rw [if_pos ht, if_neg (by omega), if_pos h, List.dropLast_eq_take], fun b => by unfold opS; rw [if_pos ht, if_neg (by omega), if_neg (by omega)]⟩
theorem loS_end {t : Nat} {l : List Ch} {r : Rc} (ht : r.t = t) (h : r.k = 5 ∨ r.k = 6) : loS t l r = [] ∧ ∀ b, opS t b r = false := ⟨by unfold loS; rw [if_pos ht, if_neg (by omega), if_neg (by omega), if_pos h], fun b => by unfold opS; rw [if_pos ht, if_neg (by omega), if_pos h]⟩
theorem loS_none {t : Nat} {l : List Ch} {r : Rc} (ht : r.t = t) (h : r.k = 1 ∨ r.k = 7) : loS t l r = l ∧ ∀ b, opS t b r = b := ⟨by unfold loS; rw [if_pos ht, if_neg (by omega), if_neg (by omega), if_neg (by omega)], fun b => by unfold opS; rw [if_pos ht, if_neg (by omega), if_neg (by omega)]⟩
end Go.Proofs.Ytoifghofkjomnaa
