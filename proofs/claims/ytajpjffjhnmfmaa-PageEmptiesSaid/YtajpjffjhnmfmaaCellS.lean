/-
  A region whose order is drawn, whose last store is into one cell of the call's own (a result that is boxed).
-/
import Derived.Test.YtajpjffjhnmfmaaTurns
namespace Go.Proofs.Ytajpjffjhnmfmaa
open Go.RowKit

set_option linter.unusedSimpArgs false
set_option linter.unusedVariables false

/-- The cell's block, told by whether the store has come up. -/
def cellS (g : Nat) (t : TypeId) (v0 v1 : Value) (i : Nat) : (Nat → Bool) → World → Prop := fun L w => Blk w g t #[if L i = true then v1 else v0]
theorem cellS.ext {g : Nat} {t : TypeId} {v0 v1 : Value} {i : Nat} {L L' : Nat → Bool} {w : World} (h : L i = L' i) (hS : cellS g t v0 v1 i L w) : cellS g t v0 v1 i L' w := by
  unfold cellS at *
  rwa [← h]
theorem cellS.start {g : Nat} {t : TypeId} {v0 v1 : Value} {i : Nat} {w : World} (h : Blk w g t #[v0]) : cellS g t v0 v1 i (fun _ => false) w.drew := h
theorem cellS.other {g : Nat} {t : TypeId} {v0 v1 : Value} {i j : Nat} {L : Nat → Bool} {w : World} (hne : i ≠ j) (hS : cellS g t v0 v1 i L w) : cellS g t v0 v1 i (also L j) w := by
  have : also L j i = L i := by simp [also, hne]
  unfold cellS at *
  rwa [this]
theorem cellS.at_ {g : Nat} {t : TypeId} {v0 v1 : Value} {i : Nat} {L : Nat → Bool} {w : World} (hL : L i = false) (hS : cellS g t v0 v1 i L w) : w.cell? ⟨g, 0, none⟩ = some v0 ∧ w.frozen? ⟨g, 0, none⟩ = false := by
  unfold cellS at hS
  rw [hL] at hS
  exact ⟨hS.cell 0 _ rfl, hS.frozen 0⟩
theorem cellS.done {g : Nat} {t : TypeId} {v0 v1 : Value} {i : Nat} {L : Nat → Bool} {w : World} (hL : L i = false) (hS : cellS g t v0 v1 i L w) : cellS g t v0 v1 i (also L i) (w.setCell ⟨g, 0, none⟩ v1) := by
  unfold cellS at *
  have : also L i i = true := by simp [also]
  rw [this, if_pos rfl]
  exact Blk.set_ hS 0 v1
theorem cellS.last {g : Nat} {t : TypeId} {v0 v1 : Value} {i : Nat} {w : World} (hS : cellS g t v0 v1 i (fun _ => true) w) : Blk w g t #[v1] := hS
theorem cellS.call {P : Program} {f : FuncId} {args : Array Value} {w : World} {g : Nat} {t : TypeId} {v0 v1 : Value} {i j : Nat} {L : Nat → Bool} {s : Word (Turns (· = g))} (hne : i ≠ j) (hS : cellS g t v0 v1 i L w)
    (hc : Calls P f args w fun e w' => ∃ v, e = .returned v ∧ s.p w' v ∧ Below w.heap.size w w') : Calls P f args w fun e w' => ∃ v, e = .returned v ∧ s.p w' v ∧ cellS g t v0 v1 i (also L j) w' ∧ Turns (· = g) w w' := by
  refine hc.mono ?_
  rintro e w' ⟨v, rfl, hs, hb⟩
  refine ⟨v, rfl, hs, cellS.other hne ?_, .of_below hb⟩
  unfold cellS at *
  exact hS.below hb
end Go.Proofs.Ytajpjffjhnmfmaa
