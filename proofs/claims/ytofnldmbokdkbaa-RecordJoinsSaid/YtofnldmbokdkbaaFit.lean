/-
  What the statements of stage 6 begin with: fit, light, right.
-/
import Derived.Test.YtofnldmbokdkbaaCDecode
import Derived.Test.YtofnldmbokdkbaaCSame
namespace Go.Proofs.Ytofnldmbokdkbaa
open Go.RowKit

set_option linter.unusedSimpArgs false
set_option linter.unusedVariables false

/-- The example. -/
def exR : Rc := ⟨1, 0, 0, 0, ⟨#[]⟩, ⟨#[]⟩, ⟨#[]⟩, []⟩
theorem exR_ok : exR.Ok := (Rc.right_iff exR).1 (by decide)
theorem exR_length : exR.frame.length = 11 := by rw [Rc.frame_length]; rfl
theorem ex_enc (W : World) : Calls Try.prog 12 #[.agg #[.int .i64 1, .int .i64 0, .int .i64 0, .int .i64 0, .string ⟨#[]⟩, .string ⟨#[]⟩, .string ⟨#[]⟩, .slice none 0 0]] W fun e w' => ∃ A c, e = .returned (.slice A 11 c) ∧ Rd w' (.slice A 11 c) (u8s exR.frame) ∧ Below W.heap.size W w' := by
  refine (encode_ok exR none 0 W exR_ok (Rd.nil_ _ _ _)).mono ?_
  rintro e w' ⟨v', rfl, hm, hb⟩
  obtain ⟨A, c, rfl⟩ := hm.form
  have hr := hm.rd
  rw [exR_length] at hr ⊢
  exact ⟨A, c, rfl, hr, hb⟩
theorem ex_dec {v : Value} {W : World} (hv : Rd W v (u8s exR.frame)) : Calls Try.prog 13 #[v] W fun e w' => ∃ A c, e = .returned (.tuple #[.agg #[.int .i64 1, .int .i64 0, .int .i64 0, .int .i64 0, .string ⟨#[]⟩, .string ⟨#[]⟩, .string ⟨#[]⟩, .slice A 0 c], .int .i64 11, .bool true]) ∧ Below W.heap.size W w' := by
  refine (decode_yes (by rw [exR_length]; omega) hv (r := exR) ?_ exR_ok (List.prefix_refl _)).mono ?_
  · have := readR_of exR_ok (List.prefix_refl exR.frame)
    exact this
  · rintro e w' ⟨A, c, rfl, _, hb⟩
    rw [exR_length]
    exact ⟨A, c, rfl, hb⟩
theorem fit_any (w : World) : Calls Try.prog 10 #[] w fun e w' => e = .returned (.bool true) ∧ Below w.heap.size w w' := by
  go_enter Try.func10, Try.ntmps10
  go_wp2_with (first
    | (go_at_call 12; ((with_reducible refine (ex_enc _).mono ?_); rintro e w1 ⟨A1, c1, rfl, hr1, hb1⟩))
    | (go_at_call 13; ((with_reducible refine (ex_dec hr1).mono ?_); rintro e w2 ⟨A2, c2, rfl, hb2⟩; have HB2 := hide ((hb1.trans (hb2.mono hb1.size)).alloc (Nat.le_trans hb1.size hb2.size) (.cells #[.int .i64 1, .int .i64 0, .int .i64 0, .int .i64 0, .string ⟨#[]⟩, .string ⟨#[]⟩, .string ⟨#[]⟩, .slice A2 0 c2] 28)))))
  go_ret
  exact ⟨rfl, HB2.out⟩
/-- Is it short? (Of texts as long as no machine bears the sum is another one.) -/
def lightB (b a i : ByteArray) (n : Nat) : Bool := decide (wrap64 (wrap64 (wrap64 ((b.size : Int) + (a.size : Int)) + (i.size : Int)) + (n : Int)) ≤ 1000)
theorem light_told {x : Bool} {k t p s : Int} {b a i : ByteArray} {A : Option Addr} {n c : Nat} (w : World) (h : lightB b a i n = x) :
    Calls Try.prog 17 #[.agg #[.int .i64 k, .int .i64 t, .int .i64 p, .int .i64 s, .string b, .string a, .string i, .slice A n c]] w fun e w' => e = .returned (.bool x) ∧ Below w.heap.size w w' := by
  have H := hide (show decide (wrap64 (wrap64 (wrap64 ((b.size : Int) + (a.size : Int)) + (i.size : Int)) + (n : Int)) ≤ 1000) = x from h)
  clear h
  go_enter Try.func17, Try.ntmps17
  go_wp2
  go_ret
  exact ⟨by rw [← H.out]; rfl, (Below.refl _ _).alloc (Nat.le_refl _) _⟩
theorem lok_told {x a b : Int} {r : Bool} (h : inB x a b = r) (w : World) :
    Calls Try.prog 29 #[.int .i64 x, .int .i64 a, .int .i64 b] w fun e w' => e = .returned (.bool r) ∧ w = w' := by
  unfold inB at h
  rcases Int.lt_or_le x a with h1 | h1
  · have hr : r = false := by rw [← h]; simp; omega
    subst hr
    clear h
    go_enter Try.func29, Try.ntmps29
    go_wp2
    go_ret
    exact ⟨rfl, rfl⟩
  · rcases Int.lt_or_le b x with h2 | h2
    · have hr : r = false := by rw [← h]; simp; omega
      subst hr
      have e2 : decide (x ≤ b) = false := decide_eq_false (by omega)
      clear h
      go_enter Try.func29, Try.ntmps29
      go_wp2
      go_ret
      exact ⟨rfl, rfl⟩
    · have hr : r = true := by rw [← h]; simp; omega
      subst hr
      have e2 : decide (x ≤ b) = true := decide_eq_true (by omega)
      clear h
      go_enter Try.func29, Try.ntmps29
      go_wp2
      go_ret
      exact ⟨rfl, rfl⟩
theorem lhalf_told {s : ByteArray} {r : Bool} (h : halfB 40 s = r) (w : World) :
    Calls Try.prog 30 #[.string s] w fun e w' => e = .returned (.bool r) ∧ w = w' := by
  unfold halfB at h
  by_cases h0 : s.size = 0
  · have hr : r = true := by rw [← h]; simp [h0]
    subst hr
    obtain rfl := empty_of h0
    clear h h0
    go_enter Try.func30, Try.ntmps30
    go_wp2
    go_ret
    exact ⟨rfl, rfl⟩
  · have hne := toList_ne (ne_of_size h0)
    have hs1 := isEmpty_ne (ne_of_size h0)
    have hr : ((s.size : Int) == 40) = r := by
      rw [← h, Bool.eq_iff_iff]; simp [h0]
    clear h
    go_enter Try.func30, Try.ntmps30
    go_wp2
    go_ret
    exact ⟨by simp [hr, hs1, hne], rfl⟩
theorem right_six (k t p s : Int) (b a i : ByteArray) (n : Nat) :
    (inB k 1 7 = false ∧ rightB k t p s b a i n = false) ∨
    (inB k 1 7 = true ∧ inB t 0 255 = false ∧ rightB k t p s b a i n = false) ∨
    (inB k 1 7 = true ∧ inB t 0 255 = true ∧ inB p 0 5 = false ∧ rightB k t p s b a i n = false) ∨
    (inB k 1 7 = true ∧ inB t 0 255 = true ∧ inB p 0 5 = true ∧ inB s 0 4 = false ∧ rightB k t p s b a i n = false) ∨
    (inB k 1 7 = true ∧ inB t 0 255 = true ∧ inB p 0 5 = true ∧ inB s 0 4 = true ∧ halfB 40 b = false ∧ rightB k t p s b a i n = false) ∨
    (inB k 1 7 = true ∧ inB t 0 255 = true ∧ inB p 0 5 = true ∧ inB s 0 4 = true ∧ halfB 40 b = true ∧ halfB 40 a = false ∧ rightB k t p s b a i n = false) ∨
    (inB k 1 7 = true ∧ inB t 0 255 = true ∧ inB p 0 5 = true ∧ inB s 0 4 = true ∧ halfB 40 b = true ∧ halfB 40 a = true ∧ (halfB 256 i && dirtyB k n) = rightB k t p s b a i n) := by
  unfold rightB
  cases inB k 1 7 <;> simp
  cases inB t 0 255 <;> simp
  cases inB p 0 5 <;> simp
  cases inB s 0 4 <;> simp
  cases halfB 40 b <;> simp
  cases halfB 40 a <;> simp
/-- How the last two parts come out. -/
theorem tail_ways (k : Int) (i : ByteArray) (n : Nat) :
    (halfB 256 i = true ∧ i.size = 0 ∧ n = 0 ∧ dirtyB k n = true) ∨ (halfB 256 i = true ∧ ¬ i.size = 0 ∧ i.size = 256 ∧ n = 0 ∧ dirtyB k n = true) ∨
    (halfB 256 i = true ∧ i.size = 0 ∧ ¬ n = 0 ∧ (k == 7) = false ∧ dirtyB k n = false) ∨ (halfB 256 i = true ∧ ¬ i.size = 0 ∧ i.size = 256 ∧ ¬ n = 0 ∧ (k == 7) = false ∧ dirtyB k n = false) ∨
    (halfB 256 i = true ∧ i.size = 0 ∧ ¬ n = 0 ∧ (k == 7) = true ∧ ((n : Int) == 6) = dirtyB k n) ∨ (halfB 256 i = true ∧ ¬ i.size = 0 ∧ i.size = 256 ∧ ¬ n = 0 ∧ (k == 7) = true ∧ ((n : Int) == 6) = dirtyB k n) ∨
    (halfB 256 i = false ∧ ¬ i.size = 0 ∧ ¬ i.size = 256) := by
  unfold halfB dirtyB
  have e6 : ((n : Int) == 6) = decide (n = 6) := by rw [Bool.eq_iff_iff]; simp; omega
  have e7 : (k == 7) = decide (k = 7) := rfl
  rw [e6]
  by_cases h1 : i.size = 0 <;> by_cases h2 : i.size = 256 <;> by_cases h3 : n = 0 <;> by_cases h4 : k = 7 <;> simp [h1, h2, h3, h4, e7] <;> omega
end Go.Proofs.Ytofnldmbokdkbaa
