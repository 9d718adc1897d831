/-
  Contracts of Less, of package row and of the reference.
-/
import Derived.Test.YthkocbfioegcnaaC1
namespace Go.Proofs.Ythkocbfioegcnaa
open Go.RowKit

/-- Does a row come ahead of another one? -/
def lessB (t : Int) (k : ByteArray) (t' : Int) (k' : ByteArray) : Bool := if t = t' then Op.bytesLess k.toList k'.toList else decide (t < t')
theorem less_any (t t' : Int) (k v k' v' : ByteArray) (w : World) :
    Calls Try.prog 28 #[.agg #[.int .i64 t, .string k, .string v], .agg #[.int .i64 t', .string k', .string v']] w fun e w' => e = .returned (.bool (lessB t k t' k')) ∧ Below w.heap.size w w' := by
  by_cases h : t = t'
  · subst h
    have H := hide (show lessB t k t k' = Op.bytesLess k.toList k'.toList from if_pos rfl)
    go_enter Try.func28, Try.ntmps28
    go_wp2
    go_ret
    exact ⟨by rw [H.out]; rfl, ((Below.refl _ _).alloc (Nat.le_refl _) _).alloc (by simp) _⟩
  · have H := hide (show lessB t k t' k' = decide (t < t') from if_neg h)
    go_enter Try.func28, Try.ntmps28
    go_wp2
    go_ret
    exact ⟨by rw [H.out]; rfl, ((Below.refl _ _).alloc (Nat.le_refl _) _).alloc (by simp) _⟩
theorem rless_any (t t' : Int) (k v k' v' : ByteArray) (w : World) :
    Calls Try.prog 18 #[.agg #[.int .i64 t, .string k, .string v], .agg #[.int .i64 t', .string k', .string v']] w fun e w' => e = .returned (.bool (lessB t k t' k')) ∧ Below w.heap.size w w' := by
  by_cases h : t < t'
  · have H := hide (show lessB t k t' k' = true by unfold lessB; rw [if_neg (by omega), decide_eq_true h])
    have f1 : decide (t < t') = true := decide_eq_true h
    go_enter Try.func18, Try.ntmps18
    go_wp2
    go_ret
    exact ⟨by rw [H.out]; rfl, ((Below.refl _ _).alloc (Nat.le_refl _) _).alloc (by simp) _⟩
  · have f1 : decide (t < t') = false := decide_eq_false h
    by_cases h2 : t = t'
    · have H := hide (show lessB t k t' k' = Op.bytesLess k.toList k'.toList from if_pos h2)
      have f2 : (t == t') = true := beq_iff_eq.2 h2
      clear h h2
      go_enter Try.func18, Try.ntmps18
      go_wp2
      go_ret
      exact ⟨by rw [H.out]; rfl, ((Below.refl _ _).alloc (Nat.le_refl _) _).alloc (by simp) _⟩
    · have H := hide (show lessB t k t' k' = false by unfold lessB; rw [if_neg h2, decide_eq_false h])
      have f2 : (t == t') = false := beq_eq_false_iff_ne.2 h2
      clear h h2
      go_enter Try.func18, Try.ntmps18
      go_wp2
      go_ret
      exact ⟨by rw [H.out]; rfl, ((Below.refl _ _).alloc (Nat.le_refl _) _).alloc (by simp) _⟩
end Go.Proofs.Ythkocbfioegcnaa
