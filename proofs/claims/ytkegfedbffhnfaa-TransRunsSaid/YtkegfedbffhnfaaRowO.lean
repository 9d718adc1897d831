/-
  Rows of one's own among other things: appended to, in a round of a range too; ints.
-/
import Derived.Test.YtkegfedbffhnfaaChanges
namespace Go.Proofs.Ytkegfedbffhnfaa
open Go.RowKit Go.Shelf
set_option maxRecDepth 20000
set_option linter.unusedSimpArgs false
set_option linter.unusedVariables false

/-- Ints. -/
def intsK : Kd Int where
  T := 3
  TS := 36
  m := 1
  cells := fun n => [.int .i64 n]
  z := .int .i64 0
  zs := [.int .i64 0]
  bytes := 8
  hT := Try.underlying36
  info := by kernel_rfl
  hz := rfl
  zero := fun w => by kernel_rfl
  hzs := by kernel_rfl
  zlen := rfl
  zone := fun u hu => by simp at hu; subst hu; rfl
  size := fun w => by kernel_rfl
  hby := by decide
  hm := by decide
  len := fun x => rfl
  one := fun x u hu => by simp at hu; subst hu; rfl
section
variable {α : Type} {K : Kd α} {A0 W W' : World} {F0 : Nat → Prop} {L : List Res} {i : Nat} {v v' : Value} {es es' : List α}
theorem Ow.krow (h : Ow A0 F0 W L) (hi : L[i]? = some (Res.row K v es)) : K.Row W v es := let ⟨S, h⟩ := h.get hi; h.1
theorem Ow.newrow (K : Kd α) (h : Ow A0 F0 W L) : Ow A0 F0 W (L ++ [Res.row K (.slice none 0 0) []]) := h.push (Below.refl _ _) ⟨Kd.Row.nil _ _, fun k e => by cases e⟩
/-- A row that another call handed out. -/
theorem Ow.gotrow (h : Ow A0 F0 W L) (hb : Below W.heap.size W W') (hr : K.Row W' v es) (hn : ∀ k, v.ownBlock = some k → W.heap.size ≤ k) : Ow A0 F0 W' (L ++ [Res.row K v es]) := h.push hb ⟨hr, hn⟩
theorem Ow.appended (h : Ow A0 F0 W L) (hi : L[i]? = some (Res.row K v es)) (h1 : K.Row W' v' es') (h2 : W.grownBy W' v.ownBlock) (h3 : v'.ownBlock = v.ownBlock ∨ v'.ownBlock = some W.heap.size) : Ow A0 F0 W' (L.set i (Res.row K v' es')) := by
  obtain ⟨S, ⟨h4, h5⟩, h6⟩ := h.split hi
  refine h6 _ _ ((Kept.of_grown h2).mono (fun k e => .inl (h5 k e))) ⟨h1, fun k e => ?_⟩
  rcases h3 with h3 | h3
  · exact .inl (h5 k (h3 ▸ e))
  · rw [h3] at e
    exact .inr (by have := Option.some.inj e; omega)
/-- A row turned in place. -/
theorem Ow.rowset (h : Ow A0 F0 W L) (hi : L[i]? = some (Res.row K v es)) (h1 : K.Row W' v' es') (h2 : Kept (fun k => v.ownBlock = some k) W W') (h3 : ∀ k, v'.ownBlock = some k → v.ownBlock = some k) : Ow A0 F0 W' (L.set i (Res.row K v' es')) := by
  obtain ⟨S, ⟨h4, h5⟩, h6⟩ := h.split hi
  exact h6 _ _ (h2.mono (fun k e => .inl (h5 k e))) ⟨h1, fun k e => .inl (h5 k (h3 k e))⟩
end
theorem OwF.shut {A0 W : World} {F0 F : Nat → Prop} {L : List Res} {D : Nat} (h : OwF A0 F0 F W L) (hD : ¬ F D) (h0 : A0.heap.size ≤ D) (o : Obj) : OwF A0 F0 F (W.putObj D o) L :=
  h.keep (X := fun k => k = D) ⟨rfl, rfl, rfl, by simp [World.putObj], fun j _ hj => World.putObj_heap_other hj⟩ (fun k e => by subst e; exact ⟨hD, h0⟩)
theorem OwF.rowof {α : Type} {K : Kd α} {w W : World} {F : Nat → Prop} {L : List Res} {i : Nat} {v : Value} {es : List α} (h : OwF w (fun _ => False) F W L) (hi : L[i]? = some (Res.row K v es)) : K.Row W v es ∧ Below w.heap.size w W ∧ ∀ k, v.ownBlock = some k → w.heap.size ≤ k := by
  obtain ⟨lab, h1, _, h3⟩ := h.ex
  obtain ⟨h4, h5⟩ := h3 i _ hi
  refine ⟨h4, Ow.bel ⟨F, h⟩, fun k e => ?_⟩
  have hl : lab k = i + 1 := h5 k e
  rcases h.new k ((h1 k).2 (by omega)) with h6 | h6
  · exact h6.elim
  · exact h6
/-- An operation that defers nothing. -/
def calmOp : Op → Bool
  | .defer _ => false
  | _ => true
theorem wpIn_of_wp {P : Program} {Q : Exit → Act → World → Prop} {l n : Nat} {o : Oper} {a : Act} {w : World} {K : Act → World → Prop} (hp : calmOp o.op = true) (h : o.wp P a w K Q) : o.wpIn (Fence.wide.inRound l) n P a w K Q := by
  unfold Oper.wpIn
  refine ⟨fun _ _ => trivial, ?_⟩
  rw [Oper.semAt_plain _ _ _ (by intro c hc; rw [hc] at hp; cases hp)]
  unfold Oper.wp at h
  generalize (execOp a.eval o).run P w = r at *
  cases r with
  | ok x w' =>
    cases x with
    | enter f args => exact ⟨fun e => (nomatch e), callsIn_wide.2 h⟩
    | row r args => exact ⟨fun e => (nomatch e), fun c cs _ => let ⟨v, w', hr, s⟩ := h c cs; ⟨v, w', hr, stepsIn_wide.2 s⟩⟩
    | round l f tmps assign body => exact h.elim
    | _ => exact h
  | halt x w' => cases x <;> exact h
theorem wpListIn_append_run {P : Program} {ops : Array Oper} {rest : List Oper} {o : Oper} {a : Act} {Q : Exit → Act → World → Prop} {w w' : World} {l n : Nat} {T : TypeId} {v u v' : Value} (hgd : o.guard = none) (s y : Operand)
    (ho : o.op = .call { callee := .builtin .append, args := #[s, y], argTypes := #[T, T] }) (hs : a.eval s = v) (hy : a.eval y = u) (hr : (Builtin.append_ #[T, T] o.type #[v, u]).run P w = .ok v' w')
    (hK : wpListIn (Fence.wide.inRound l) n P ops Q rest (a.put o.dst v') w') : wpListIn (Fence.wide.inRound l) n P ops Q (o :: rest) a w := by
  refine wpListIn_plain hgd fun K hK' => wpIn_of_wp (by rw [ho]; rfl) ?_
  unfold Oper.wp
  rw [exec_append_run s y T ho hs hy hr]
  exact hK' _ _ hK
end Go.Proofs.Ytkegfedbffhnfaa
