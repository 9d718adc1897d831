/-
  What the statements of stage 6 ask of a record: right (ways 1, 2, 7).
-/
import Derived.Test.YtofnldmbokdkbaaFit
namespace Go.Proofs.Ytofnldmbokdkbaa
open Go.RowKit

set_option linter.unusedSimpArgs false
set_option linter.unusedVariables false

set_option maxHeartbeats 1000000 in
theorem lr_1 {k t p s : Int} {b a i : ByteArray} {A : Option Addr} {n c : Nat} (w : World) (hk : inB k 1 7 = true) (ht : inB t 0 255 = true) (hp : inB p 0 5 = true) (hs : inB s 0 4 = true) (hb : halfB 40 b = true) (ha : halfB 40 a = true) :
    Calls Try.prog 18 #[.agg #[.int .i64 k, .int .i64 t, .int .i64 p, .int .i64 s, .string b, .string a, .string ⟨#[]⟩, .slice A 0 c]] w fun e w' => e = .returned (.bool true) ∧ Below w.heap.size w w' := by
  have HB := hide ((Below.refl w.heap.size w).alloc (Nat.le_refl _) (.cells #[.int .i64 k, .int .i64 t, .int .i64 p, .int .i64 s, .string b, .string a, .string ⟨#[]⟩, .slice A 0 c] 28))
  go_enter Try.func18, Try.ntmps18
  go_wp2_with (first
    | (go_at_call 29; ((with_reducible refine (lok_told hk _).mono ?_); rintro e w1 ⟨rfl, rfl⟩))
    | (go_at_call 29; ((with_reducible refine (lok_told ht _).mono ?_); rintro e w1 ⟨rfl, rfl⟩))
    | (go_at_call 29; ((with_reducible refine (lok_told hp _).mono ?_); rintro e w1 ⟨rfl, rfl⟩))
    | (go_at_call 29; ((with_reducible refine (lok_told hs _).mono ?_); rintro e w1 ⟨rfl, rfl⟩))
    | (go_at_call 30; ((with_reducible refine (lhalf_told hb _).mono ?_); rintro e w1 ⟨rfl, rfl⟩))
    | (go_at_call 30; ((with_reducible refine (lhalf_told ha _).mono ?_); rintro e w1 ⟨rfl, rfl⟩)))
  go_ret
  exact ⟨rfl, HB.out⟩
set_option maxHeartbeats 1000000 in
theorem lr_2 {k t p s : Int} {b a i : ByteArray} {A : Option Addr} {n c : Nat} (w : World) (hk : inB k 1 7 = true) (ht : inB t 0 255 = true) (hp : inB p 0 5 = true) (hs : inB s 0 4 = true) (hb : halfB 40 b = true) (ha : halfB 40 a = true) (g2 : ¬ i.size = 0) (g5 : i.size = 256) :
    Calls Try.prog 18 #[.agg #[.int .i64 k, .int .i64 t, .int .i64 p, .int .i64 s, .string b, .string a, .string i, .slice A 0 c]] w fun e w' => e = .returned (.bool true) ∧ Below w.heap.size w w' := by
  have HB := hide ((Below.refl w.heap.size w).alloc (Nat.le_refl _) (.cells #[.int .i64 k, .int .i64 t, .int .i64 p, .int .i64 s, .string b, .string a, .string i, .slice A 0 c] 28))
  have n1 := toList_ne (ne_of_size g2)
  have n2 := isEmpty_ne (ne_of_size g2)
  have n3 : ((i.size : Int) == 256) = true := by rw [beq_iff_eq]; omega
  clear g2 g5
  go_enter Try.func18, Try.ntmps18
  go_wp2_with (first
    | (go_at_call 29; ((with_reducible refine (lok_told hk _).mono ?_); rintro e w1 ⟨rfl, rfl⟩))
    | (go_at_call 29; ((with_reducible refine (lok_told ht _).mono ?_); rintro e w1 ⟨rfl, rfl⟩))
    | (go_at_call 29; ((with_reducible refine (lok_told hp _).mono ?_); rintro e w1 ⟨rfl, rfl⟩))
    | (go_at_call 29; ((with_reducible refine (lok_told hs _).mono ?_); rintro e w1 ⟨rfl, rfl⟩))
    | (go_at_call 30; ((with_reducible refine (lhalf_told hb _).mono ?_); rintro e w1 ⟨rfl, rfl⟩))
    | (go_at_call 30; ((with_reducible refine (lhalf_told ha _).mono ?_); rintro e w1 ⟨rfl, rfl⟩)))
  go_ret
  exact ⟨by simp [n1, n2, n3], HB.out⟩
set_option maxHeartbeats 1000000 in
theorem lr_7 {k t p s : Int} {b a i : ByteArray} {A : Option Addr} {n c : Nat} (w : World) (hk : inB k 1 7 = true) (ht : inB t 0 255 = true) (hp : inB p 0 5 = true) (hs : inB s 0 4 = true) (hb : halfB 40 b = true) (ha : halfB 40 a = true) (g2 : ¬ i.size = 0) (g6 : ¬ i.size = 256) :
    Calls Try.prog 18 #[.agg #[.int .i64 k, .int .i64 t, .int .i64 p, .int .i64 s, .string b, .string a, .string i, .slice A n c]] w fun e w' => e = .returned (.bool false) ∧ Below w.heap.size w w' := by
  have HB := hide ((Below.refl w.heap.size w).alloc (Nat.le_refl _) (.cells #[.int .i64 k, .int .i64 t, .int .i64 p, .int .i64 s, .string b, .string a, .string i, .slice A n c] 28))
  have n1 := toList_ne (ne_of_size g2)
  have n2 := isEmpty_ne (ne_of_size g2)
  have n3 : ((i.size : Int) == 256) = false := by rw [beq_eq_false_iff_ne]; omega
  clear g2 g6
  go_enter Try.func18, Try.ntmps18
  go_wp2_with (first
    | (go_at_call 29; ((with_reducible refine (lok_told hk _).mono ?_); rintro e w1 ⟨rfl, rfl⟩))
    | (go_at_call 29; ((with_reducible refine (lok_told ht _).mono ?_); rintro e w1 ⟨rfl, rfl⟩))
    | (go_at_call 29; ((with_reducible refine (lok_told hp _).mono ?_); rintro e w1 ⟨rfl, rfl⟩))
    | (go_at_call 29; ((with_reducible refine (lok_told hs _).mono ?_); rintro e w1 ⟨rfl, rfl⟩))
    | (go_at_call 30; ((with_reducible refine (lhalf_told hb _).mono ?_); rintro e w1 ⟨rfl, rfl⟩))
    | (go_at_call 30; ((with_reducible refine (lhalf_told ha _).mono ?_); rintro e w1 ⟨rfl, rfl⟩)))
  go_ret
  exact ⟨by simp [n1, n2, n3], HB.out⟩
end Go.Proofs.Ytofnldmbokdkbaa
