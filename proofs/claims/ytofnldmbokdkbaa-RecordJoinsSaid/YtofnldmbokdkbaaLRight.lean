/-
  What the statements of stage 6 ask of a record: right (whole).
-/
import Derived.Test.YtofnldmbokdkbaaLRa
import Derived.Test.YtofnldmbokdkbaaLRb
import Derived.Test.YtofnldmbokdkbaaLRc
import Derived.Test.YtofnldmbokdkbaaLRd
namespace Go.Proofs.Ytofnldmbokdkbaa
open Go.RowKit

set_option linter.unusedSimpArgs false
set_option linter.unusedVariables false

theorem lright_any (k t p s : Int) (b a i : ByteArray) (A : Option Addr) (n c : Nat) (w : World) :
    Calls Try.prog 18 #[.agg #[.int .i64 k, .int .i64 t, .int .i64 p, .int .i64 s, .string b, .string a, .string i, .slice A n c]] w fun e w' => e = .returned (.bool (rightB k t p s b a i n)) ∧ Below w.heap.size w w' := by
  rcases right_six k t p s b a i n with ⟨hk, hr⟩ | ⟨hk, ht, hr⟩ | ⟨hk, ht, hp, hr⟩ | ⟨hk, ht, hp, hs, hr⟩ | ⟨hk, ht, hp, hs, hb, hr⟩ | ⟨hk, ht, hp, hs, hb, ha, hr⟩ | ⟨hk, ht, hp, hs, hb, ha, hr⟩
  · rw [hr]; exact lr_z0 w hk
  · rw [hr]; exact lr_z1 w hk ht
  · rw [hr]; exact lr_z2 w hk ht hp
  · rw [hr]; exact lr_z3 w hk ht hp hs
  · rw [hr]; exact lr_z4 w hk ht hp hs hb
  · rw [hr]; exact lr_z5 w hk ht hp hs hb ha
  · rw [← hr]
    rcases tail_ways k i n with ⟨g1, g2, g3, g4⟩ | ⟨g1, g2, g5, g3, g4⟩ | ⟨g1, g2, g3, g5, g4⟩ | ⟨g1, g2, g6, g3, g5, g4⟩ | ⟨g1, g2, g3, g5, g4⟩ | ⟨g1, g2, g6, g3, g5, g4⟩ | ⟨g1, g2, g3⟩
    · rw [g1, g4, Bool.and_self]
      obtain rfl := empty_of g2
      subst g3
      exact lr_1 (i := ⟨#[]⟩) (n := 0) w hk ht hp hs hb ha
    · rw [g1, g4, Bool.and_self]
      subst g3
      exact lr_2 (n := 0) w hk ht hp hs hb ha g2 g5
    · rw [g1, g4, Bool.and_false]
      obtain rfl := empty_of g2
      exact lr_3 (i := ⟨#[]⟩) w hk ht hp hs hb ha g3 g5
    · rw [g1, g4, Bool.and_false]
      exact lr_4 w hk ht hp hs hb ha g2 g6 g3 g5
    · rw [g1, ← g4, Bool.true_and]
      obtain rfl := empty_of g2
      exact lr_5 (i := ⟨#[]⟩) w hk ht hp hs hb ha g3 g5
    · rw [g1, ← g4, Bool.true_and]
      exact lr_6 w hk ht hp hs hb ha g2 g6 g3 g5
    · rw [g1, Bool.false_and]
      exact lr_7 w hk ht hp hs hb ha g2 g3
end Go.Proofs.Ytofnldmbokdkbaa
