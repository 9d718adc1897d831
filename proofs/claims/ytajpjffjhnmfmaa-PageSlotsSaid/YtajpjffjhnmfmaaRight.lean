/-
  Contracts of package row: Right.
-/
import Derived.Test.YtajpjffjhnmfmaaMem
import Derived.Test.YtajpjffjhnmfmaaOwn
import Derived.WalkLawsBesides
namespace Go.Proofs.Ytajpjffjhnmfmaa
open Go.RowKit

/-- May it be? -/
def rightB (t : Int) (k v : ByteArray) : Bool := decide (0 ≤ t) && decide (t < 4) && decide (k.size ≤ 15) && decide (v.size ≤ 21)
theorem rightB_iff {t : Int} {k v : ByteArray} : rightB t k v = true ↔ 0 ≤ t ∧ t < 4 ∧ k.size ≤ 15 ∧ v.size ≤ 21 := by
  simp [rightB, and_assoc]
theorem rightB_not {t : Int} {k v : ByteArray} (h : rightB t k v = false) : t < 0 ∨ (0 ≤ t ∧ 4 ≤ t) ∨ (0 ≤ t ∧ t < 4 ∧ 15 < k.size) ∨ (0 ≤ t ∧ t < 4 ∧ k.size ≤ 15 ∧ 21 < v.size) := by
  have : ¬ (0 ≤ t ∧ t < 4 ∧ k.size ≤ 15 ∧ v.size ≤ 21) := fun e => by rw [rightB_iff.2 e] at h; cases h
  omega
theorem right_yes (t : Int) (k v : ByteArray) (w : World) (h : rightB t k v = true) :
    Calls Try.prog 17 #[.agg #[.int .i64 t, .string k, .string v]] w fun e w' => e = .returned (.bool true) ∧ Below w.heap.size w w' := by
  obtain ⟨h1, h2, h3, h4⟩ := rightB_iff.1 h
  clear h
  have e4 : decide ((v.size : Int) ≤ 21) = true := decide_eq_true (by omega)
  go_enter Try.func17, Try.ntmps17
  go_wp2
  go_ret
  exact ⟨rfl, (Below.refl _ _).alloc (Nat.le_refl _) _⟩
theorem right_no (t : Int) (k v : ByteArray) (w : World) (h : rightB t k v = false) :
    Calls Try.prog 17 #[.agg #[.int .i64 t, .string k, .string v]] w fun e w' => e = .returned (.bool false) ∧ Below w.heap.size w w' := by
  rcases rightB_not h with h1 | ⟨h0, h1⟩ | ⟨h0, h1, h2⟩ | ⟨h0, h1, h2, h3⟩
  rotate_right
  · have e4 : decide ((v.size : Int) ≤ 21) = false := decide_eq_false (by omega)
    clear h
    go_enter Try.func17, Try.ntmps17
    go_wp2
    go_ret
    exact ⟨rfl, (Below.refl _ _).alloc (Nat.le_refl _) _⟩
  all_goals
    clear h
    go_enter Try.func17, Try.ntmps17
    go_wp2
    go_ret
    exact ⟨rfl, (Below.refl _ _).alloc (Nat.le_refl _) _⟩
theorem right_any (t : Int) (k v : ByteArray) (w : World) :
    Calls Try.prog 17 #[.agg #[.int .i64 t, .string k, .string v]] w fun e w' => e = .returned (.bool (rightB t k v)) ∧ Below w.heap.size w w' := by
  cases h : rightB t k v
  · exact right_no t k v w h
  · exact right_yes t k v w h
end Go.Proofs.Ytajpjffjhnmfmaa
