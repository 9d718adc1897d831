/-
  Tables: one stored, one ended; what Get tells; the least number that is free. Contracts of what only reads.
-/
import Derived.Test.YtkegfedbffhnfaaTx
namespace Go.Proofs.Ytkegfedbffhnfaa
open Go.RowKit Go.Lib
set_option maxRecDepth 20000
set_option linter.unusedSimpArgs false
set_option linter.unusedVariables false

section
variable {y : Lay} {ty : TypeId} {w w' : World} {g i x : Nat} {T : Tb} {t : Tx} {O O' S : Nat → Prop} {o : Option (Nat × Tx)}
/-- One stored (or none). -/
theorem Tab.stored (h : Tab y ty w g T O) (hi : 0 < i) (hi4 : i < 4) (hb : Below w.heap.size w w') (ho : ∀ x t, o = some (x, t) → TxIn y w' x t (fun k => w.heap.size ≤ k)) :
    Tab y ty (w'.setCell ⟨g, i, none⟩ (pv o)) g (updT T i o) (fun k => O k ∨ w.heap.size ≤ k) ∧ Kept O w (w'.setCell ⟨g, i, none⟩ (pv o)) := by
  obtain ⟨lab, h1, h2, h3⟩ := h.at_
  have hgl := h.blk.lt
  have hsz := hb.size
  have hks := Kept.setCell w' ⟨g, i, none⟩ (pv o)
  refine ⟨⟨.inl h.og, ?_, ?_, fun j hj => ?_, fun j k => if j = i then w.heap.size ≤ k else lab j k ∧ k < w.heap.size, fun j k e => ?_, fun j1 j2 k e1 e2 => ?_, fun j z u e => ?_⟩, (Kept.of_below (S := O) hb).trans hks (fun k e => .inl (by have e : k = g := e; rw [e]; exact h.og))⟩
  · have := (h.blk.below hb).set_ i (pv o)
    rw [cellsT_upd] at this
    exact this
  · rw [updT_ne (by omega)]
    exact h.zero
  · rw [updT_ne (by omega)]
    exact h.top j hj
  · dsimp only at e
    split at e
    · exact ⟨.inr e, by omega⟩
    · exact ⟨.inl (h1 j k e.1).1, (h1 j k e.1).2⟩
  · dsimp only at e1 e2
    by_cases q1 : j1 = i
    · by_cases q2 : j2 = i
      · rw [q1, q2]
      · rw [if_pos q1] at e1
        rw [if_neg q2] at e2
        omega
    · by_cases q2 : j2 = i
      · rw [if_neg q1] at e1
        rw [if_pos q2] at e2
        omega
      · rw [if_neg q1] at e1
        rw [if_neg q2] at e2
        exact h2 _ _ k e1.1 e2.1
  · by_cases q : j = i
    · subst q
      rw [updT_at] at e
      refine ((ho z u e).keep hks (fun k e1 e2 => ?_)).mono (fun k hs _ => ?_)
      · have e2 : k = g := e2
        omega
      · show if j = j then _ else _
        rw [if_pos rfl]
        exact hs
    · rw [updT_ne q] at e
      have h4 : TxIn y w' z u (fun k => lab j k ∧ k < w.heap.size) := ((h3 j z u e).mono (O' := fun k => lab j k ∧ k < w.heap.size) (fun k hl hlt => ⟨hl, hlt⟩)).keep (Kept.of_below (S := fun _ => False) hb) (fun _ _ h => h)
      refine (h4.keep hks (fun k e1 e2 => (h1 j k e1.1).2 e2)).mono (fun k hs _ => ?_)
      show if j = i then _ else _
      rw [if_neg q]
      exact hs
theorem Tab.tx (h : Tab y ty w g T O) (hT : T i = some (x, t)) : ∃ A B, TxP y w x A B t := by
  obtain ⟨lab, h1, h2, h3⟩ := h.at_
  obtain ⟨A, B, h4, _⟩ := h3 i x t hT
  exact ⟨A, B, h4⟩
/-- An empty one. -/
theorem Tab.new_ (y : Lay) (ty : TypeId) (w : World) : Tab y ty (w.alloc (.cells #[.pointer none, .pointer none, .pointer none, .pointer none] ty)) w.heap.size (fun _ => none) (fun k => w.heap.size ≤ k) :=
  ⟨Nat.le_refl _, heap_new w _, rfl, fun _ _ => rfl, fun _ _ => False, fun _ _ h => h.elim, fun _ _ _ h => h.elim, fun _ _ _ h => by cases h⟩
end
/-- May it be a number? -/
def numB (n : Int) : Bool := decide (1 ≤ n) && decide (n ≤ 3)
theorem numB_iff {n : Int} : numB n = true ↔ 1 ≤ n ∧ n ≤ 3 := by simp [numB]
/-- What Get tells. -/
def getT (T : Tb) (n : Int) : Option (Nat × Tx) := if numB n then T n.toNat else none
theorem getT_nat {T : Tb} (h0 : T 0 = none) (h4 : ∀ i, 4 ≤ i → T i = none) (j : Nat) : getT T (j : Int) = T j := by
  unfold getT
  split
  · simp
  · rename_i h
    rw [numB_iff] at h
    rcases Nat.eq_zero_or_pos j with e | e
    · rw [e, h0]
    · rw [h4 j (by omega)]
theorem isNumber_any (n : Int) (w : World) : Calls Try.prog 25 #[.int .i64 n] w fun e w' => e = .returned (.bool (numB n)) ∧ w = w' := by
  by_cases h1 : 1 ≤ n
  · by_cases h2 : n ≤ 3
    · rw [show numB n = true from numB_iff.2 ⟨h1, h2⟩]
      go_enter Try.func25, Try.ntmps25
      go_wp2
      go_ret
      exact ⟨rfl, rfl⟩
    · rw [show numB n = false by simp [numB, h1, h2]]
      go_enter Try.func25, Try.ntmps25
      go_wp2
      go_ret
      exact ⟨rfl, rfl⟩
  · rw [show numB n = false by simp [numB, h1]]
    go_enter Try.func25, Try.ntmps25
    go_wp2
    go_ret
    exact ⟨rfl, rfl⟩
section
variable {w w' : World} {g x : Nat} {T : Tb} {t : Tx} {O : Nat → Prop} {A B : Value}
/-- Get, of a table's block. -/
theorem get_blk (hb : Blk w g 27 (cellsT T)) (n : Int) : Calls Try.prog 12 #[.pointer (some ⟨g, 0, none⟩), .int .i64 n] w fun e w' => e = .returned (pv (getT T n)) ∧ w = w' := by
  cases hn : numB n with
  | false =>
    rw [show getT T n = none by unfold getT; rw [hn]; rfl]
    go_enter Try.func12, Try.ntmps12
    go_wp2_with (go_at_call 25; (with_reducible refine (isNumber_any n _).mono ?_); rw [hn]; rintro e w1 ⟨rfl, rfl⟩)
    go_ret
    exact ⟨rfl, rfl⟩
  | true =>
    rw [show getT T n = T n.toNat by unfold getT; rw [hn]; rfl]
    have hn2 := numB_iff.1 hn
    obtain ⟨m, rfl⟩ : ∃ m : Nat, n = (m : Int) := ⟨n.toNat, by omega⟩
    have c0 := hb.cell m _ (cellsT_at T (by omega))
    have hm4 : (m : Int) < 4 := by omega
    have hm0 : (0 : Int) ≤ (m : Int) := by omega
    rw [Int.toNat_natCast]
    generalize pv (T m) = v at *
    clear hn2
    go_enter Try.func12, Try.ntmps12
    go_wp2_with (go_at_call 25; (with_reducible refine (isNumber_any (m : Int) _).mono ?_); rw [hn]; rintro e w1 ⟨rfl, rfl⟩)
    go_ret
    exact ⟨rfl, rfl⟩
theorem len_nil_x (w : World) : Calls Try.prog 21 #[.pointer none] w fun e w' => e = .returned (.int .i64 0) ∧ w = w' := by
  go_enter Try.func21, Try.ntmps21
  go_wp2
  go_ret
  exact ⟨rfl, rfl⟩
theorem len_x (h : TxP layT w x A B t) : Calls Try.prog 21 #[.pointer (some ⟨x, 0, none⟩)] w fun e w' => e = .returned (.int .i64 (t.l.length : Int)) ∧ w = w' := by
  obtain ⟨Aa, c, rfl⟩ := h.l.form
  obtain ⟨c0, c1, c2⟩ := h.cells
  go_enter Try.func21, Try.ntmps21
  go_wp2
  go_ret
  exact ⟨rfl, rfl⟩
theorem full_nil (w : World) : Calls Try.prog 22 #[.pointer none] w fun e w' => e = .returned (.bool true) ∧ w = w' := by
  go_enter Try.func22, Try.ntmps22
  go_wp2
  go_ret
  exact ⟨rfl, rfl⟩
theorem full_x (h : TxP layT w x A B t) : Calls Try.prog 22 #[.pointer (some ⟨x, 0, none⟩)] w fun e w' => e = .returned (.bool (decide (8 ≤ t.ops))) ∧ w = w' := by
  obtain ⟨c0, c1, c2⟩ := h.cells
  have c1 : w.cell? ⟨x, 1, none⟩ = some (.int .i64 (t.ops : Int)) := c1
  by_cases h8 : 8 ≤ t.ops
  · have h8i : (8 : Int) ≤ (t.ops : Int) := by omega
    rw [show decide (8 ≤ t.ops) = true by simp [h8]]
    go_enter Try.func22, Try.ntmps22
    go_wp2
    go_ret
    exact ⟨rfl, rfl⟩
  · have h8i : ¬ (8 : Int) ≤ (t.ops : Int) := by omega
    rw [show decide (8 ≤ t.ops) = false by simp [h8]]
    go_enter Try.func22, Try.ntmps22
    go_wp2
    go_ret
    exact ⟨rfl, rfl⟩
end
end Go.Proofs.Ytkegfedbffhnfaa
