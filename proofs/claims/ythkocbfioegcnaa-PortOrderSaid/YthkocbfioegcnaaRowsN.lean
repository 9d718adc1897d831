/-
  Rows of records, numbered: each in a block of its own, all of them one thing of a call's own; and such rows told alone (KIn), to be read.
-/
import Derived.Test.YthkocbfioegcnaaRowK
namespace Go.Proofs.Ythkocbfioegcnaa
open Go.RowKit
set_option maxRecDepth 20000
set_option linter.unusedSimpArgs false
set_option linter.unusedVariables false

/-- One value of many changed. -/
def setN {β : Type} (f : Nat → β) (t : Nat) (x : β) : Nat → β := fun j => if j = t then x else f j
theorem setN_at {β : Type} (f : Nat → β) (t : Nat) (x : β) : setN f t x t = x := if_pos rfl
theorem setN_ne {β : Type} (f : Nat → β) {t j : Nat} (x : β) (h : j ≠ t) : setN f t x j = f j := if_neg h
theorem setN_same {β : Type} (f : Nat → β) (t : Nat) : setN f t (f t) = f := by
  funext j
  unfold setN
  split
  · next h => rw [h]
  · rfl
/-- The first n of them as cells. -/
def cellsN {β : Type} (n : Nat) (f : Nat → β) : Array β := ((List.range n).map f).toArray
theorem cellsN_at {β : Type} {n t : Nat} (f : Nat → β) (h : t < n) : (cellsN n f)[t]? = some (f t) := by
  unfold cellsN
  rw [List.getElem?_toArray, List.getElem?_map, List.getElem?_range h]
  rfl
theorem cellsN_set {β : Type} {n t : Nat} (f : Nat → β) (x : β) : (cellsN n f).setIfInBounds t x = cellsN n (setN f t x) := by
  unfold cellsN
  rw [List.setIfInBounds_toArray]
  congr 1
  apply List.ext_getElem?
  intro j
  by_cases hj : j < n
  · by_cases e : t = j
    · subst e
      rw [List.getElem?_set_self (by simpa using hj), List.getElem?_map, List.getElem?_range hj]
      simp [setN]
    · rw [List.getElem?_set_ne e, List.getElem?_map, List.getElem?_map, List.getElem?_range hj]
      simp [setN, fun h => e (Eq.symm h)]
      intro h
      exact absurd h.symm e
  · rw [List.getElem?_eq_none (by simp; omega), List.getElem?_eq_none (by simp; omega)]
/-- v reads as records, its array in a block of X. -/
def KIn {α : Type} (K : Kd α) (w : World) (X : Nat → Prop) (v : Value) (es : List α) : Prop :=
  ∃ A c, v = .slice A es.length c ∧ (0 < es.length → ∃ b o, A = some ⟨b, o, none⟩ ∧ b < w.heap.size ∧ X b ∧ ∀ j x, es[j]? = some x → ∀ i u, (K.cells x)[i]? = some u → w.cell? ⟨b, o + j * K.m + i, none⟩ = some u)
theorem KIn.keep {α : Type} {K : Kd α} {w w' : World} {X Y : Nat → Prop} {v : Value} {es : List α} (h : KIn K w X v es) (hk : ∀ p : Addr, p.block < w.heap.size → X p.block → w'.cell? p = w.cell? p) (hs : w.heap.size ≤ w'.heap.size) (hY : ∀ k, k < w.heap.size → X k → Y k) : KIn K w' Y v es := by
  obtain ⟨A, c, e, h⟩ := h
  refine ⟨A, c, e, fun hn => ?_⟩
  obtain ⟨b, o, e, hb, hx, hr⟩ := h hn
  exact ⟨b, o, e, Nat.lt_of_lt_of_le hb hs, hY b hb hx, fun j x hj i u hu => (hk ⟨b, o + j * K.m + i, none⟩ hb hx).trans (hr j x hj i u hu)⟩
theorem KIn.of_row {α : Type} {K : Kd α} {w : World} {X : Nat → Prop} {v : Value} {es : List α} (h : K.Row w v es) (hX : ∀ k, v.ownBlock = some k → X k) : KIn K w X v es := by
  obtain ⟨A, c, rfl⟩ := h.form
  refine ⟨A, c, rfl, fun hn => ?_⟩
  obtain ⟨g, cap, cur, e, _⟩ := h.open hn
  obtain ⟨g2, c2, e2, hlt⟩ := h.block hn
  injection e2 with e2 _ _
  subst e2
  refine ⟨g2, 0, rfl, hlt, hX g2 rfl, fun j x hj i u hu => ?_⟩
  rw [Nat.zero_add]
  exact h.cells hj i u hu
/-- Some rows, each in a block of its own. -/
def Res.rows {α : Type} (K : Kd α) (n : Nat) (vs : Nat → Value) (ls : Nat → List α) : Res where
  At := fun W S => ∃ lab : Nat → Nat, ∀ t, t < n → K.Row W (vs t) (ls t) ∧ ∀ k, (vs t).ownBlock = some k → S k ∧ lab k = t
  keep := fun h hk hd => by
    obtain ⟨lab, h⟩ := h
    exact ⟨lab, fun t ht => ⟨(h t ht).1.keep hk (fun k e => hd k ((h t ht).2 k e).1), (h t ht).2⟩⟩
  mono := fun h hs => by
    obtain ⟨lab, h⟩ := h
    exact ⟨lab, fun t ht => ⟨(h t ht).1, fun k e => ⟨hs k ((h t ht).2 k e).1 ((h t ht).1.lt k e), ((h t ht).2 k e).2⟩⟩⟩
/-- Some rows, to be read. -/
def Res.kins {α : Type} (K : Kd α) (n : Nat) (vs : Nat → Value) (ls : Nat → List α) : Res where
  At := fun W S => ∀ t, t < n → KIn K W S (vs t) (ls t)
  keep := fun h hk hd t ht => (h t ht).keep (fun p hp hs => World.cell?_of_block (hk.block p.block hp (hd _ hs))) hk.size (fun _ _ hs => hs)
  mono := fun h hs t ht => (h t ht).keep (fun _ _ _ => rfl) (Nat.le_refl _) (fun k hk hS => hs k hS hk)
section
variable {α : Type} {K : Kd α} {A0 W W' : World} {F0 : Nat → Prop} {L : List Res} {i n t : Nat} {vs : Nat → Value} {ls : Nat → List α} {v' : Value} {es' : List α}
theorem Ow.rowsAt (h : Ow A0 F0 W L) (hi : L[i]? = some (Res.rows K n vs ls)) (ht : t < n) : K.Row W (vs t) (ls t) := let ⟨S, lab, h⟩ := h.get hi; (h t ht).1
theorem Ow.kinsAt (h : Ow A0 F0 W L) (hi : L[i]? = some (Res.kins K n vs ls)) (ht : t < n) : ∃ S, KIn K W S (vs t) (ls t) := let ⟨S, h⟩ := h.get hi; ⟨S, h t ht⟩
theorem Ow.newrows (K : Kd α) (n : Nat) (h : Ow A0 F0 W L) : Ow A0 F0 W (L ++ [Res.rows K n (fun _ => .slice none 0 0) (fun _ => [])]) := h.push (Below.refl _ _) ⟨fun _ => 0, fun t ht => ⟨Kd.Row.nil _ _, fun k e => by cases e⟩⟩
/-- One of them was appended to. -/
theorem Ow.rowsApp (h : Ow A0 F0 W L) (hi : L[i]? = some (Res.rows K n vs ls)) (ht : t < n) (h1 : K.Row W' v' es') (h2 : W.grownBy W' (vs t).ownBlock) (h3 : v'.ownBlock = (vs t).ownBlock ∨ v'.ownBlock = some W.heap.size) :
    Ow A0 F0 W' (L.set i (Res.rows K n (setN vs t v') (setN ls t es'))) := by
  obtain ⟨S, ⟨lab, hr⟩, h6⟩ := h.split hi
  refine h6 _ _ ((Kept.of_grown h2).mono (fun k e => .inl ((hr t ht).2 k e).1)) ⟨fun k => if k < W.heap.size then lab k else t, fun j hj => ?_⟩
  by_cases e : j = t
  · subst e
    rw [setN_at, setN_at]
    refine ⟨h1, fun k hk => ?_⟩
    rcases h3 with h3 | h3
    · rw [h3] at hk
      exact ⟨.inl ((hr j ht).2 k hk).1, by show (if k < W.heap.size then lab k else j) = j; rw [if_pos ((hr j ht).1.lt k hk)]; exact ((hr j ht).2 k hk).2⟩
    · rw [h3] at hk
      obtain rfl := Option.some.inj hk
      exact ⟨.inr (Nat.le_refl _), by show (if W.heap.size < W.heap.size then lab _ else j) = j; rw [if_neg (by omega)]⟩
  · rw [setN_ne _ _ e, setN_ne _ _ e]
    refine ⟨(hr j hj).1.keep (Kept.of_grown h2) (fun k hk hk2 => ?_), fun k hk => ⟨.inl ((hr j hj).2 k hk).1, ?_⟩⟩
    · have a1 := ((hr j hj).2 k hk).2
      have a2 := ((hr t ht).2 k hk2).2
      exact e (a1.symm.trans a2)
    · show (if k < W.heap.size then lab k else t) = j
      rw [if_pos ((hr j hj).1.lt k hk)]
      exact ((hr j hj).2 k hk).2
/-- One of them was cut, or put away. -/
theorem Ow.rowsCut (h : Ow A0 F0 W L) (hi : L[i]? = some (Res.rows K n vs ls)) (ht : t < n) (h1 : K.Row W v' es') (h3 : ∀ k, v'.ownBlock = some k → (vs t).ownBlock = some k) :
    Ow A0 F0 W (L.set i (Res.rows K n (setN vs t v') (setN ls t es'))) := by
  obtain ⟨S, ⟨lab, hr⟩, h6⟩ := h.split hi
  refine h6 _ _ (Kept.refl _ _) ⟨lab, fun j hj => ?_⟩
  by_cases e : j = t
  · subst e
    rw [setN_at, setN_at]
    exact ⟨h1, fun k hk => ⟨.inl ((hr j ht).2 k (h3 k hk)).1, ((hr j ht).2 k (h3 k hk)).2⟩⟩
  · rw [setN_ne _ _ e, setN_ne _ _ e]
    exact ⟨(hr j hj).1, fun k hk => ⟨.inl ((hr j hj).2 k hk).1, ((hr j hj).2 k hk).2⟩⟩
/-- As rows to be read. -/
theorem Ow.rowsRead (h : Ow A0 F0 W L) (hi : L[i]? = some (Res.rows K n vs ls)) : Ow A0 F0 W (L.set i (Res.kins K n vs ls)) := by
  obtain ⟨S, ⟨lab, hr⟩, h6⟩ := h.split hi
  exact h6 _ _ (Kept.refl _ _) (fun t ht => KIn.of_row (hr t ht).1 (fun k e => .inl ((hr t ht).2 k e).1))
end
/-- append to a row of one's own, of a slice of one that was built. -/
theorem Ow.addK {α : Type} {K : Kd α} {A0 W : World} {F0 : Nat → Prop} {L : List Res} {i n c : Nat} {A : Option Addr} {es : List α} {x : α} {cs : Array Value} (h : Ow A0 F0 W L) (hi : L[i]? = some (Res.row K (.slice A n c) es)) (hcs : cs.toList = K.cells x) (hl : es.length ≤ 100000) (ty : TypeId) :
    ∃ v' w4, (Builtin.append_ #[K.TS, K.TS] ty #[.slice A n c, .slice (some ⟨W.heap.size, 0, none⟩) 1 1]).run Try.prog (W.alloc (.cells cs K.T)) = .ok v' w4 ∧ Ow A0 F0 w4 (L.set i (Res.row K v' (es ++ [x]))) := by
  have hil : i < L.length := (List.getElem?_eq_some_iff.1 hi).1
  have S := h.box K.T cs
  have hi2 : (L ++ [Res.blk W.heap.size K.T cs])[i]? = some (Res.row K (.slice A n c) es) := by rw [List.getElem?_append_left hil]; exact hi
  have hb : Blk (W.alloc (.cells cs K.T)) W.heap.size K.T cs := heap_new W _
  obtain ⟨S1, hr, _⟩ := S.get hi2
  obtain ⟨v', w4, hrun, k1, k2, k3⟩ := run_append_k (K := K) (x := x) hr hl (fun k u hu => hb.cell k u (by rw [← hu, ← hcs, ← Array.getElem?_toList])) (c := 1) ty
  refine ⟨v', w4, hrun, ?_⟩
  obtain ⟨S2, ⟨h4, h5⟩, h6⟩ := S.split hi2
  have h7 := h6 w4 (Res.row K v' (es ++ [x])) ((Kept.of_grown k2).mono (fun k e => .inl (h5 k e))) ⟨k1, fun k e => by
    rcases k3 with k3 | k3
    · exact .inl (h5 k (k3 ▸ e))
    · rw [k3] at e
      exact .inr (by have := Option.some.inj e; omega)⟩
  have h8 := h7.take L.length
  rw [List.set_append_left _ _ hil, List.take_left' (by rw [List.length_set])] at h8
  exact h8
end Go.Proofs.Ythkocbfioegcnaa
