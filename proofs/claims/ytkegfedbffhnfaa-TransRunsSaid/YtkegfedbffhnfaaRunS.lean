/-
  TransRuns: table and model side by side, what each call makes of both.
-/
import Derived.Test.YtkegfedbffhnfaaSame11
namespace Go.Proofs.Ytkegfedbffhnfaa
open Go.RowKit
set_option maxRecDepth 20000
set_option linter.unusedSimpArgs false
set_option linter.unusedVariables false

theorem RelT.upd {R M : Tb} (h : RelT R M) {n : Nat} {o1 o2 : Option (Nat × Tx)} (e : o1.map Prod.snd = o2.map Prod.snd) : RelT (updT R n o1) (updT M n o2) := by
  intro i
  by_cases ei : i = n
  · subst ei
    rw [updT_at, updT_at]
    exact e
  · rw [updT_ne ei, updT_ne ei]
    exact h i
theorem RelT.least {R M : Tb} (h : RelT R M) : leastT R = leastT M := by
  have e : ∀ i, (R i).isNone = (M i).isNone := fun i => by
    cases hR : R i with
    | none => rw [h.none_ hR]
    | some z =>
      obtain ⟨x, t⟩ := z
      obtain ⟨y, hM⟩ := h.some_ hR
      rw [hM]
      rfl
  unfold leastT
  rw [e, e, e]
/-- Between two calls: table and model, and the call's own box. -/
structure RunS (w0 w : World) (g mb cb : Nat) (cc : Array Value) (R M : Tb) (q : Nat) : Prop where
  ow : Ow w0 (fun _ => False) w [Res.tt g R, Res.tab layM 29 mb M, Res.blk cb 33 cc]
  rel : RelT R M
  few : ∀ i x t, R i = some (x, t) → t.l.length ≤ q ∧ t.ops ≤ q
section
variable {w0 w w' : World} {g mb cb n q x z : Nat} {cc : Array Value} {R M : Tb} {t t' : Tx}
theorem few_upd (h : ∀ i x t, R i = some (x, t) → t.l.length ≤ q ∧ t.ops ≤ q) {o : Option (Nat × Tx)} (ho : ∀ x t, o = some (x, t) → t.l.length ≤ q + 1 ∧ t.ops ≤ q + 1) : ∀ i x t, updT R n o i = some (x, t) → t.l.length ≤ q + 1 ∧ t.ops ≤ q + 1 := by
  intro i x t e
  by_cases ei : i = n
  · subst ei
    rw [updT_at] at e
    exact ho x t e
  · rw [updT_ne ei] at e
    have := h i x t e
    omega
theorem RunS.more (h : RunS w0 w g mb cb cc R M q) : RunS w0 w g mb cb cc R M (q + 1) := ⟨h.ow, h.rel, fun i x t e => by have := h.few i x t e; omega⟩
theorem RunS.next (h : RunS w0 w g mb cb cc R M q) (hw : Ow w0 (fun _ => False) w' [Res.tt g R, Res.tab layM 29 mb M, Res.blk cb 33 cc]) : RunS w0 w' g mb cb cc R M (q + 1) := ⟨hw, h.rel, h.more.few⟩
theorem RunS.both (h : RunS w0 w g mb cb cc R M q) (ht : t'.l.length ≤ q + 1 ∧ t'.ops ≤ q + 1) (hw : Ow w0 (fun _ => False) w' [Res.tt g (updT R n (some (x, t'))), Res.tab layM 29 mb (updT M n (some (z, t'))), Res.blk cb 33 cc]) : RunS w0 w' g mb cb cc (updT R n (some (x, t'))) (updT M n (some (z, t'))) (q + 1) :=
  ⟨hw, h.rel.upd rfl, few_upd h.few (fun x t e => by injection e with e; injection e with e1 e2; subst e2; exact ht)⟩
theorem RunS.gone (h : RunS w0 w g mb cb cc R M q) (hw : Ow w0 (fun _ => False) w' [Res.tt g (updT R n none), Res.tab layM 29 mb (updT M n none), Res.blk cb 33 cc]) : RunS w0 w' g mb cb cc (updT R n none) (updT M n none) (q + 1) :=
  ⟨hw, h.rel.upd rfl, few_upd h.few (fun x t e => by cases e)⟩
theorem updT_zero (h : R 0 = none) : updT R 0 none = R := by
  funext k
  by_cases e : k = 0
  · subst e; rw [updT_at, h]
  · rw [updT_ne e]
/-- A place of the model's array emptied. -/
theorem Ow.emptied {A0 W : World} {F0 : Nat → Prop} {L : List Res} {i : Nat} {y : Lay} {ty : TypeId} {T : Tb} (h : Ow A0 F0 W L) (hi : L[i]? = some (Res.tab y ty g T)) (hn : n < 4) : Ow A0 F0 (W.setCell ⟨g, n, none⟩ (.pointer none)) (L.set i (Res.tab y ty g (updT T n none))) := by
  rcases Nat.eq_zero_or_pos n with rfl | hp
  · obtain ⟨O, h1, h2⟩ := h.split hi
    have h1 : Tab y ty W g T O := h1
    rw [updT_zero h1.zero]
    have hks := Kept.setCell W ⟨g, 0, none⟩ (.pointer none)
    have hblk := h1.blk.set_ 0 (.pointer none)
    have e : (cellsT T).setIfInBounds 0 (.pointer none) = cellsT T := by
      have := cellsT_upd T 0 none
      rw [updT_zero h1.zero] at this
      exact this
    rw [e] at hblk
    exact h2 _ (Res.tab y ty g T) (hks.mono (fun k e => .inl (by have e : k = g := e; rw [e]; exact h1.og))) ((⟨h1.og, hblk, h1.zero, h1.top, h1.at_.keep hks (fun k e1 e2 => e1.2 e2)⟩ : Tab y ty _ g T O).mono (fun k hk _ => .inl hk))
  · exact h.stored (o := none) hi hp hn (Below.refl _ _) (fun x t e => by cases e)
end
end Go.Proofs.Ytkegfedbffhnfaa
