/-
  Contracts of package record: within, noneOr, rightDirty, Right.
-/
import Derived.Test.YtofnldmbokdkbaaRc
namespace Go.Proofs.Ytofnldmbokdkbaa
open Go.RowKit

set_option linter.unusedSimpArgs false
set_option linter.unusedVariables false

theorem within_told {x a b : Int} {r : Bool} (h : inB x a b = r) (w : World) :
    Calls Try.prog 25 #[.int .i64 x, .int .i64 a, .int .i64 b] w fun e w' => e = .returned (.bool r) ∧ w = w' := by
  unfold inB at h
  rcases Int.lt_or_le x a with h1 | h1
  · have hr : r = false := by rw [← h]; simp; omega
    subst hr
    clear h
    go_enter Try.func25, Try.ntmps25
    go_wp2
    go_ret
    exact ⟨rfl, rfl⟩
  · rcases Int.lt_or_le b x with h2 | h2
    · have hr : r = false := by rw [← h]; simp; omega
      subst hr
      have e2 : decide (x ≤ b) = false := decide_eq_false (by omega)
      clear h
      go_enter Try.func25, Try.ntmps25
      go_wp2
      go_ret
      exact ⟨rfl, rfl⟩
    · have hr : r = true := by rw [← h]; simp; omega
      subst hr
      have e2 : decide (x ≤ b) = true := decide_eq_true (by omega)
      clear h
      go_enter Try.func25, Try.ntmps25
      go_wp2
      go_ret
      exact ⟨rfl, rfl⟩
theorem empty_of {s : ByteArray} (h : s.size = 0) : s = ⟨#[]⟩ := by
  apply ByteArray.ext
  exact Array.eq_empty_of_size_eq_zero h
theorem toList_ne {s : ByteArray} (h : s ≠ ⟨#[]⟩) : ¬ s.toList = [] := by
  intro e
  rw [ByteArray.toList_eq] at e
  obtain ⟨⟨l⟩⟩ := s
  exact h (by simp at e; rw [e])
theorem isEmpty_ne {s : ByteArray} (h : s ≠ ⟨#[]⟩) : s.toList.isEmpty = false := by
  cases e : s.toList with
  | nil => exact absurd e (toList_ne h)
  | cons a b => rfl
theorem ne_of_size {s : ByteArray} (h : ¬ s.size = 0) : s ≠ ⟨#[]⟩ := fun e => h (by rw [e]; rfl)
theorem none_told {n : Int} {s : ByteArray} {r : Bool} (h : halfB n s = r) (w : World) :
    Calls Try.prog 26 #[.int .i64 n, .string s] w fun e w' => e = .returned (.bool r) ∧ w = w' := by
  unfold halfB at h
  by_cases h0 : s.size = 0
  · have hr : r = true := by rw [← h]; simp [h0]
    subst hr
    obtain rfl := empty_of h0
    clear h h0
    go_enter Try.func26, Try.ntmps26
    go_wp2
    go_ret
    exact ⟨rfl, rfl⟩
  · have hne := toList_ne (ne_of_size h0)
    have hs1 := isEmpty_ne (ne_of_size h0)
    have hr : ((s.size : Int) == n) = r := by
      rw [← h, Bool.eq_iff_iff]; simp [h0]
    clear h
    go_enter Try.func26, Try.ntmps26
    go_wp2
    go_ret
    exact ⟨by simp [hr, hs1, hne], rfl⟩
theorem dirty_told {k t p s : Int} {b a i : ByteArray} {A : Option Addr} {n c : Nat} {r : Bool} (h : dirtyB k n = r) (w : World) :
    Calls Try.prog 27 #[.agg #[.int .i64 k, .int .i64 t, .int .i64 p, .int .i64 s, .string b, .string a, .string i, .slice A n c]] w fun e w' => e = .returned (.bool r) ∧ Below w.heap.size w w' := by
  unfold dirtyB at h
  by_cases h0 : n = 0
  · have hr : r = true := by rw [← h]; simp [h0]
    subst hr h0
    clear h
    go_enter Try.func27, Try.ntmps27
    go_wp2
    go_ret
    exact ⟨rfl, (Below.refl _ _).alloc (Nat.le_refl _) _⟩
  · have hn : ((n : Int) == 0) = false := by rw [beq_eq_false_iff_ne]; omega
    by_cases h7 : k = 7
    · have hr : ((n : Int) == 6) = r := by rw [← h, Bool.eq_iff_iff]; simp [h0, h7]; omega
      subst h7
      clear h
      go_enter Try.func27, Try.ntmps27
      go_wp2
      go_ret
      exact ⟨by simp [hr, hn, h0], (Below.refl _ _).alloc (Nat.le_refl _) _⟩
    · have hr : r = false := by rw [← h]; simp [h0, h7]
      subst hr
      have hk : (k == 7) = false := by rw [beq_eq_false_iff_ne]; exact h7
      clear h
      go_enter Try.func27, Try.ntmps27
      go_wp2
      go_ret
      exact ⟨rfl, (Below.refl _ _).alloc (Nat.le_refl _) _⟩
set_option maxHeartbeats 1000000 in
theorem right_any (k t p s : Int) (b a i : ByteArray) (A : Option Addr) (n c : Nat) (w : World) :
    Calls Try.prog 14 #[.agg #[.int .i64 k, .int .i64 t, .int .i64 p, .int .i64 s, .string b, .string a, .string i, .slice A n c]] w fun e w' => e = .returned (.bool (rightB k t p s b a i n)) ∧ Below w.heap.size w w' := by
  have hB := (Below.refl w.heap.size w).alloc (Nat.le_refl _) (.cells #[.int .i64 k, .int .i64 t, .int .i64 p, .int .i64 s, .string b, .string a, .string i, .slice A n c] 28)
  have HB := hide hB
  clear hB
  rcases right_ways k t p s b a i n with ⟨hk, hr⟩ | ⟨hk, ht, hr⟩ | ⟨hk, ht, hp, hr⟩ | ⟨hk, ht, hp, hs, hr⟩ | ⟨hk, ht, hp, hs, hb, hr⟩ | ⟨hk, ht, hp, hs, hb, ha, hr⟩ | ⟨hk, ht, hp, hs, hb, ha, hi, hr⟩ | ⟨hk, ht, hp, hs, hb, ha, hi, hr⟩
  all_goals
    have HR := hide hr
    clear hr
    go_enter Try.func14, Try.ntmps14
    go_wp2_with (first
      | (go_at_call 25; ((with_reducible refine (within_told hk _).mono ?_); rintro e w1 ⟨rfl, rfl⟩))
      | (go_at_call 25; ((with_reducible refine (within_told ht _).mono ?_); rintro e w1 ⟨rfl, rfl⟩))
      | (go_at_call 25; ((with_reducible refine (within_told hp _).mono ?_); rintro e w1 ⟨rfl, rfl⟩))
      | (go_at_call 25; ((with_reducible refine (within_told hs _).mono ?_); rintro e w1 ⟨rfl, rfl⟩))
      | (go_at_call 26; ((with_reducible refine (none_told hb _).mono ?_); rintro e w1 ⟨rfl, rfl⟩))
      | (go_at_call 26; ((with_reducible refine (none_told ha _).mono ?_); rintro e w1 ⟨rfl, rfl⟩))
      | (go_at_call 26; ((with_reducible refine (none_told hi _).mono ?_); rintro e w1 ⟨rfl, rfl⟩))
      | (go_at_call 27; ((with_reducible refine (dirty_told HR.out _).mono ?_); rintro e w1 ⟨rfl, hb1⟩)))
    go_ret
    first
      | exact ⟨rfl, HB.out.trans (hb1.mono HB.out.size)⟩
      | exact ⟨by rw [HR.out]; rfl, HB.out⟩
end Go.Proofs.Ytofnldmbokdkbaa
