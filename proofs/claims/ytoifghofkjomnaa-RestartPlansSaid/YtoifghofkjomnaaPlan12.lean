/-
  A plan in memory beside the rows of its losers: how it is turned.
-/
import Derived.Test.YtoifghofkjomnaaDel12
import Derived.Test.YtoifghofkjomnaaFrom12
namespace Go.Proofs.Ytoifghofkjomnaa
open Go.RowKit
set_option maxRecDepth 20000
set_option linter.unusedSimpArgs false
set_option linter.unusedVariables false

section
variable {α : Type} {K : Kd α} {A0 W W' : World} {F0 : Nat → Prop} {L : List Res} {i n t : Nat} {vs : Nat → Value} {ls : Nat → List α} {v' : Value} {es' : List α}
/-- One of some rows was turned in place. -/
theorem Ow.rowsSet (h : Ow A0 F0 W L) (hi : L[i]? = some (Res.rows K n vs ls)) (ht : t < n) (h1 : K.Row W' v' es') (h2 : Kept (fun k => (vs t).ownBlock = some k) W W') (h3 : ∀ k, v'.ownBlock = some k → (vs t).ownBlock = some k) :
    Ow A0 F0 W' (L.set i (Res.rows K n (setN vs t v') (setN ls t es'))) := by
  obtain ⟨S, ⟨lab, hr⟩, h6⟩ := h.split hi
  refine h6 _ _ (h2.mono (fun k e => .inl ((hr t ht).2 k e).1)) ⟨lab, fun j hj => ?_⟩
  by_cases e : j = t
  · subst e
    rw [setN_at, setN_at]
    exact ⟨h1, fun k hk => ⟨.inl ((hr j ht).2 k (h3 k hk)).1, ((hr j ht).2 k (h3 k hk)).2⟩⟩
  · rw [setN_ne _ _ e, setN_ne _ _ e]
    refine ⟨(hr j hj).1.keep h2 (fun k hk hk2 => ?_), fun k hk => ⟨.inl ((hr j hj).2 k hk).1, ((hr j hj).2 k hk).2⟩⟩
    exact e ((((hr j hj).2 k hk).2).symm.trans ((hr t ht).2 k hk2).2)
/-- append to one of some rows, of a slice of one that was built. -/
theorem Ow.appRows {m c : Nat} {A : Option Addr} {x : α} {cs : Array Value} (h : Ow A0 F0 W L) (hi : L[i]? = some (Res.rows K n vs ls)) (ht : t < n) (hv : vs t = .slice A m c) (hcs : cs.toList = K.cells x) (hl : (ls t).length ≤ 100000) (ty : TypeId) :
    ∃ A' c' w4, (Builtin.append_ #[K.TS, K.TS] ty #[.slice A m c, .slice (some ⟨W.heap.size, 0, none⟩) 1 1]).run Try.prog (W.alloc (.cells cs K.T)) = .ok (.slice A' ((ls t).length + 1) c') w4 ∧
      Ow A0 F0 w4 (L.set i (Res.rows K n (setN vs t (.slice A' ((ls t).length + 1) c')) (setN ls t (ls t ++ [x])))) := by
  have hil : i < L.length := (List.getElem?_eq_some_iff.1 hi).1
  have S := h.box K.T cs
  have hi2 : (L ++ [Res.blk W.heap.size K.T cs])[i]? = some (Res.rows K n vs ls) := by rw [List.getElem?_append_left hil]; exact hi
  have hb : Blk (W.alloc (.cells cs K.T)) W.heap.size K.T cs := heap_new W _
  have hr := S.rowsAt hi2 ht
  rw [hv] at hr
  obtain ⟨v', w4, hrun, k1, k2, k3⟩ := run_append_k (K := K) (x := x) hr hl (fun k u hu => hb.cell k u (by rw [← hu, ← hcs, ← Array.getElem?_toList])) (c := 1) ty
  obtain ⟨A', c', e'⟩ := k1.form
  rw [List.length_append, List.length_singleton] at e'
  subst e'
  refine ⟨A', c', w4, hrun, ?_⟩
  rw [← hv] at k2 k3
  have h8 := (S.rowsApp hi2 ht k1 k2 k3).take L.length
  rw [List.set_append_left _ _ hil, List.take_left' (by rw [List.length_set])] at h8
  exact h8
end
theorem planC_setLo (fr : Nat) (vs : Nat → Value) (os : Nat → Bool) (v : Value) {t : Nat} (h : t < 4) : (planC fr vs os).setIfInBounds (1 + t) v = planC fr (setN vs t v) os := by
  match t, h with
  | 0, _ => rfl
  | 1, _ => rfl
  | 2, _ => rfl
  | 3, _ => rfl
theorem planC_setOp (fr : Nat) (vs : Nat → Value) (os : Nat → Bool) (b : Bool) {t : Nat} (h : t < 4) : (planC fr vs os).setIfInBounds (5 + t) (.bool b) = planC fr vs (setN os t b) := by
  match t, h with
  | 0, _ => rfl
  | 1, _ => rfl
  | 2, _ => rfl
  | 3, _ => rfl
/-- The plan with its rows. -/
abbrev PL (R : Res) (pb fr : Nat) (vs vr : Nat → Value) (os : Nat → Bool) (ls : Nat → List Ch) : List Res := [R, Res.blk pb 32 (planC fr vs os), Res.rows chK 4 vr ls]
section
variable {A0 W : World} {F0 : Nat → Prop} {R : Res} {pb fr t k : Nat} {vs vr : Nat → Value} {os : Nat → Bool} {ls : Nat → List Ch}
theorem PL.storeLo (h : Ow A0 F0 W (PL R pb fr vs vr os ls)) (ht : t < 4) (v : Value) : Ow A0 F0 (W.setCell ⟨pb, 1 + t, none⟩ v) (PL R pb fr (setN vs t v) vr os ls) := by
  have := h.set_ (i := 1) rfl (1 + t) v
  rw [planC_setLo _ _ _ _ ht] at this
  exact this
theorem PL.storeOp (h : Ow A0 F0 W (PL R pb fr vs vr os ls)) (ht : t < 4) (b : Bool) : Ow A0 F0 (W.setCell ⟨pb, 5 + t, none⟩ (.bool b)) (PL R pb fr vs vr (setN os t b) ls) := by
  have := h.set_ (i := 1) rfl (5 + t) (.bool b)
  rw [planC_setOp _ _ _ _ ht] at this
  exact this
theorem PL.cells (h : Ow A0 F0 W (PL R pb fr vs vr os ls)) (ht : t < 4) : W.cell? ⟨pb, 1 + t, none⟩ = some (vs t) ∧ W.cell? ⟨pb, 5 + t, none⟩ = some (.bool (os t)) ∧ W.frozen? ⟨pb, 1 + t, none⟩ = false ∧ W.frozen? ⟨pb, 5 + t, none⟩ = false :=
  have hb := h.blk (i := 1) rfl
  ⟨hb.cell _ _ (planC_lo fr vs os ht), hb.cell _ _ (planC_op fr vs os ht), hb.frozen _, hb.frozen _⟩
theorem PL.delete (h : Ow A0 F0 W (PL R pb fr vs vr os ls)) (ht : t < 4) {n : Nat} (hn : (ls t).length = n) (hl : n ≤ 100000) (hk : k ≤ n) :
    Calls Try.prog 19 #[vr t, .int .i64 (k : Int), .int .i64 (n : Int)] W fun e w' => ∃ v, e = .returned v ∧ ∃ A c, v = .slice A k c ∧ Ow A0 F0 w' (PL R pb fr vs (setN vr t (.slice A k c)) os (setN ls t ((ls t).take k))) := by
  refine (delete_from (h.rowsAt (i := 2) rfl ht) (by omega) hn hk).mono ?_
  rintro e w' ⟨A, c, rfl, h1, h2, h3⟩
  exact ⟨_, rfl, A, c, rfl, h.rowsSet (i := 2) rfl ht h1 h2 h3⟩
end
end Go.Proofs.Ytoifghofkjomnaa
