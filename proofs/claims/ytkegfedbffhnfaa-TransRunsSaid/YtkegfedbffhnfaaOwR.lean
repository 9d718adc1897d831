/-
  Rounds of a range over a function, among things of the call's own.
-/
import Derived.Test.YtkegfedbffhnfaaRangeT
namespace Go.Proofs.Ytkegfedbffhnfaa
open Go.RowKit Go.Shelf
set_option maxRecDepth 20000
set_option linter.unusedSimpArgs false
set_option linter.unusedVariables false

section
variable {A0 W W' : World} {F0 F : Nat → Prop} {L : List Res} {i : Nat}
theorem OwF.calm {D : Nat} (h : OwF A0 F0 F W L) (hc : Calm D W W') (h1 : ¬ F D) (h2 : ¬ F (D + 1)) (hD : A0.heap.size ≤ D) : OwF A0 F0 F W' L :=
  h.keep hc.kept (by rintro k (rfl | rfl); exact ⟨h1, hD⟩; exact ⟨h2, by omega⟩)
/-- A round whose values need no box. -/
theorem OwF.round_0 {D : Nat} {A C : World} (h : OwF A0 F0 F A L) (h1 : ¬ F D) (h2 : ¬ F (D + 1)) (hD : A0.heap.size ≤ D) (hC : Calm D A C) : OwF A0 F0 F C L := h.calm hC h1 h2 hD
/-! A round of a range: how it begins, how it ends. -/
theorem OwF.round_in {D : Nat} {A C : World} (h : OwF A0 F0 F A L) (t : TypeId) (cs : Array Value) (h1 : ¬ F D) (h2 : ¬ F (D + 1)) (hD : A0.heap.size ≤ D) (hlt : D + 1 < A.heap.size) (hC : Calm D (A.alloc (.cells cs t)) C) :
    ∃ F1, OwF A0 F0 F1 C (L ++ [Res.blk A.heap.size t cs]) ∧ ∀ k, F1 k → F k ∨ A.heap.size ≤ k := by
  obtain ⟨F1, k1⟩ := h.restart.box t cs
  have k2 := h.join k1
  refine ⟨F1, k2.calm hC (fun e => ?_) (fun e => ?_) hD, k1.new⟩
  · rcases k1.new _ e with e | e
    · exact h1 e
    · omega
  · rcases k1.new _ e with e | e
    · exact h2 e
    · omega
theorem OwF.round_out {m : Nat} {C E : World} {F1 : Nat → Prop} {L2 : List Res} (h1 : OwF A0 F0 F1 C L) (hF : ∀ k, F1 k → F k ∨ m ≤ k) (h2 : Ow C F1 E L2) (hm : m ≤ C.heap.size) : Kept (fun j => F j ∨ m ≤ j) C E ∧ ∃ F', OwF A0 F0 F' E L2 ∧ ∀ j, F' j → F j ∨ m ≤ j := by
  obtain ⟨F', h3⟩ := h2
  refine ⟨h3.kept.mono (fun k e => .inl (hF k e)), F', h1.join h3, fun j hj => ?_⟩
  rcases h3.new j hj with e | e
  · exact hF j e
  · exact .inr (by omega)
/-- Behind the last round, the block of what was put off is shut. -/
theorem ow_end {w A : World} {L : List Res} {D : Nat} {o : Obj} (h : Ow w (fun _ => False) A L) (hD : w.heap.size ≤ D) : Below w.heap.size w (A.putObj D o) :=
  h.bel.trans (((Calm.put D D A o (.inl rfl)).kept).below (by exact h.kept.size) (by rintro k (e | e) <;> omega))
/-! Where several ranges follow each other: what each put off lies in a block, and is one more thing of the call's own. -/
theorem OwF.adopt {D : Nat} {o : Obj} (h : OwF A0 F0 F W L) (hD : ¬ F D) (h0 : A0.heap.size ≤ D) (ho : W.heap[D]? = some o) : Ow A0 F0 W (L ++ [Res.obj D o]) := by
  obtain ⟨⟨lab, h1, h2, h3⟩, h4, h5⟩ := h
  have hlt := (Array.getElem?_eq_some_iff.1 ho).1
  have hD0 : lab D = 0 := by
    rcases Nat.eq_zero_or_pos (lab D) with e | e
    · exact e
    · exact absurd ((h1 D).2 (by omega)) hD
  refine ⟨fun k => F k ∨ k = D, ⟨fun k => if k = D then L.length + 1 else lab k, fun k => ?_, fun k hk => ?_, fun j q hj => ?_⟩, h4, fun k hk => ?_⟩
  · dsimp only
    by_cases e : k = D
    · rw [if_pos e]
      exact ⟨fun _ => by omega, fun _ => .inr e⟩
    · rw [if_neg e, ← h1]
      exact ⟨fun h => h.resolve_right e, .inl⟩
  · dsimp only at hk
    by_cases e : k = D
    · rw [e]; exact hlt
    · rw [if_neg e] at hk
      exact h2 k hk
  · rcases Nat.lt_or_ge j L.length with hlt' | hge
    · rw [List.getElem?_append_left hlt'] at hj
      refine q.mono (h3 j q hj) (fun k hs _ => ?_)
      have : k ≠ D := fun e => by rw [e, hD0] at hs; omega
      show (if k = D then L.length + 1 else lab k) = j + 1
      rw [if_neg this]
      exact hs
    · rw [List.getElem?_append_right hge] at hj
      have e0 : j - L.length = 0 := by
        have := (List.getElem?_eq_some_iff.1 hj).1
        simpa using this
      rw [e0] at hj
      obtain rfl := Option.some.inj hj
      refine ⟨?_, ho⟩
      show (if D = D then L.length + 1 else lab D) = j + 1
      rw [if_pos rfl]
      omega
  · rcases hk with h | h
    · exact h5 k h
    · exact .inr (by omega)
theorem Ow.obj {g : Nat} {o : Obj} (h : Ow A0 F0 W L) (hi : L[i]? = some (Res.obj g o)) : W.heap[g]? = some o := let ⟨S, h⟩ := h.get hi; h.2
theorem Ow.taken {g : Nat} {o : Obj} (h : Ow A0 F0 W L) (hi : L[i]? = some (Res.obj g o)) (o' : Obj) : Ow A0 F0 (W.putObj g o') (L.set i (Res.obj g o')) := by
  obtain ⟨S, ⟨h1, h2⟩, h3⟩ := h.split hi
  have hlt := (Array.getElem?_eq_some_iff.1 h2).1
  exact h3 _ _ ⟨rfl, rfl, rfl, by simp [World.putObj], fun j _ hj => World.putObj_heap_other (fun e => hj (by rw [e]; exact h1))⟩ ⟨.inl h1, World.putObj_heap_same hlt⟩
end
end Go.Proofs.Ytkegfedbffhnfaa
