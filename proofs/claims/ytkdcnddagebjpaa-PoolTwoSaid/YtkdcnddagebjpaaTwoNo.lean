/-
  PoolTwo, where one of the two rows is none.
-/
import Derived.Test.YtkdcnddagebjpaaLeft
namespace Go.Proofs.Ytkdcnddagebjpaa
open Go.RowKit
set_option maxRecDepth 20000
set_option linter.unusedSimpArgs false
set_option linter.unusedVariables false

set_option maxHeartbeats 8000000 in
theorem two_no (t1 : Int) (k1 u1 : ByteArray) (t2 : Int) (k2 u2 : ByteArray) (n : Int) (w : World) (hk1 : k1.size ≤ maxLen) (hu1 : u1.size ≤ maxLen) (hk2 : k2.size ≤ maxLen) (hu2 : u2.size ≤ maxLen) (hno : rowOkB t1 k1 u1 = false ∨ rowOkB t2 k2 u2 = false) :
    Calls Try.prog 7 #[.agg #[.int .i64 t1, .string k1, .string u1], .agg #[.int .i64 t2, .string k2, .string u2], .int .i64 n] w fun e w' => e = .returned (.bool true) ∧ Below w.heap.size w w' := by
  have hfit := fit_any (((w.alloc (.cells #[.int .i64 t1, .string k1, .string u1] 34)).alloc (.cells #[.int .i64 t2, .string k2, .string u2] 34)).alloc (.cells #[.int .i64 n] 3))
  have e1 : (w.alloc (.cells #[.int .i64 t1, .string k1, .string u1] 34)).heap.size = w.heap.size + 1 := by simp
  have e2 : ((w.alloc (.cells #[.int .i64 t1, .string k1, .string u1] 34)).alloc (.cells #[.int .i64 t2, .string k2, .string u2] 34)).heap.size = w.heap.size + 2 := by simp
  have hba := (Below.refl w.heap.size w).alloc (Nat.le_refl _) (.cells #[.int .i64 t1, .string k1, .string u1] 34)
  have hbb := (Below.refl (w.alloc (.cells #[.int .i64 t1, .string k1, .string u1] 34)).heap.size (w.alloc (.cells #[.int .i64 t1, .string k1, .string u1] 34))).alloc (Nat.le_refl _) (.cells #[.int .i64 t2, .string k2, .string u2] 34)
  have hbc := (Below.refl ((w.alloc (.cells #[.int .i64 t1, .string k1, .string u1] 34)).alloc (.cells #[.int .i64 t2, .string k2, .string u2] 34)).heap.size ((w.alloc (.cells #[.int .i64 t1, .string k1, .string u1] 34)).alloc (.cells #[.int .i64 t2, .string k2, .string u2] 34))).alloc (Nat.le_refl _) (.cells #[.int .i64 n] 3)
  have hra := ((Blk.new_ w #[.int .i64 t1, .string k1, .string u1] 34 rfl).below hbb).below hbc
  have hrb := (Blk.new_ (w.alloc (.cells #[.int .i64 t1, .string k1, .string u1] 34)) #[.int .i64 t2, .string k2, .string u2] 34 rfl).below hbc
  have hrn := Blk.new_ ((w.alloc (.cells #[.int .i64 t1, .string k1, .string u1] 34)).alloc (.cells #[.int .i64 t2, .string k2, .string u2] 34)) #[.int .i64 n] 3 rfl
  rw [e1] at hrb
  rw [e2] at hrn
  have RA := hide hra
  have RB := hide hrb
  have RN := hide hrn
  have BB := hide (hba.trans ((hbb.trans (hbc.mono hbb.size)).mono hba.size))
  clear hra hrb hrn hba hbb hbc e1 e2
  have hr1 := fun W => row_right_any t1 k1 u1 W
  have hr2 := fun W => row_right_any t2 k2 u2 W
  unfold maxLen at hk1 hu1 hk2 hu2
  have gk1 : (k1.size : Int) ≤ 9223372036854775807 := by omega
  have gu1 : (u1.size : Int) ≤ 9223372036854775807 := by omega
  have gk2 : (k2.size : Int) ≤ 9223372036854775807 := by omega
  have gu2 : (u2.size : Int) ≤ 9223372036854775807 := by omega
  clear hk1 hu1 hk2 hu2
  by_cases o1 : 9223372036854775807 < (k1.size : Int) + (u1.size : Int)
  · by_cases hb : (200 : Int) < wrap64 (wrap64 (wrap64 ((k1.size : Int) + (u1.size : Int)) + (k2.size : Int)) + (u2.size : Int))
    · have hsz : decide ((200 : Int) < wrap64 (wrap64 (wrap64 ((k1.size : Int) + (u1.size : Int)) + (k2.size : Int)) + (u2.size : Int))) = true := decide_eq_true hb
      go_enter Try.func7, Try.ntmps7
      go_wp2_with (first
        | (go_at_call 8; ((with_reducible refine hfit.mono ?_); rintro e w0 ⟨rfl, hb0⟩; have B0 := hide (BB.out.trans (hb0.mono BB.out.size)); have RB0 := hide (RB.out.below hb0); obtain ⟨x0, x1, x2⟩ := (RA.out.below hb0).three; obtain ⟨y0, y1, y2⟩ := RB0.out.three; clear hb0 hfit)))
      go_ret
      exact ⟨rfl, B0.out⟩
    · have hsz : decide ((200 : Int) < wrap64 (wrap64 (wrap64 ((k1.size : Int) + (u1.size : Int)) + (k2.size : Int)) + (u2.size : Int))) = false := decide_eq_false hb
      cases h1 : rowOkB t1 k1 u1
      · rw [h1] at hr1
        go_enter Try.func7, Try.ntmps7
        go_wp2_with (first
          | (go_at_call 8; ((with_reducible refine hfit.mono ?_); rintro e w0 ⟨rfl, hb0⟩; have B0 := hide (BB.out.trans (hb0.mono BB.out.size)); have RB0 := hide (RB.out.below hb0); obtain ⟨x0, x1, x2⟩ := (RA.out.below hb0).three; obtain ⟨y0, y1, y2⟩ := RB0.out.three; clear hb0 hfit))
          | (go_at_call 22; ((with_reducible refine (hr1 _).mono ?_); rintro e w1 ⟨rfl, hb1⟩; have B1 := hide (B0.out.trans (hb1.mono B0.out.size)); obtain ⟨z0, z1, z2⟩ := (RB0.out.below hb1).three; clear hb1 hr1)))
        go_ret
        exact ⟨rfl, B1.out⟩
      · have h2 : rowOkB t2 k2 u2 = false := by rcases hno with h | h; (rw [h1] at h; cases h); exact h
        rw [h1] at hr1
        rw [h2] at hr2
        go_enter Try.func7, Try.ntmps7
        go_wp2_with (first
          | (go_at_call 8; ((with_reducible refine hfit.mono ?_); rintro e w0 ⟨rfl, hb0⟩; have B0 := hide (BB.out.trans (hb0.mono BB.out.size)); have RB0 := hide (RB.out.below hb0); obtain ⟨x0, x1, x2⟩ := (RA.out.below hb0).three; obtain ⟨y0, y1, y2⟩ := RB0.out.three; clear hb0 hfit))
          | (go_at_call 22; ((with_reducible refine (hr1 _).mono ?_); rintro e w1 ⟨rfl, hb1⟩; have B1 := hide (B0.out.trans (hb1.mono B0.out.size)); obtain ⟨z0, z1, z2⟩ := (RB0.out.below hb1).three; clear hb1 hr1))
          | (go_at_call 22; ((with_reducible refine (hr2 _).mono ?_); rintro e w2 ⟨rfl, hb2⟩; have B2 := hide (B1.out.trans (hb2.mono B1.out.size)); clear hb2 hr2)))
        go_ret
        exact ⟨rfl, B2.out⟩
  have o1' : (k1.size : Int) + (u1.size : Int) ≤ 9223372036854775807 := by omega
  clear o1
  by_cases o2 : 9223372036854775807 < (k1.size : Int) + (u1.size : Int) + (k2.size : Int)
  · by_cases hb : (200 : Int) < wrap64 (wrap64 ((k1.size : Int) + (u1.size : Int) + (k2.size : Int)) + (u2.size : Int))
    · have hsz : decide ((200 : Int) < wrap64 (wrap64 ((k1.size : Int) + (u1.size : Int) + (k2.size : Int)) + (u2.size : Int))) = true := decide_eq_true hb
      go_enter Try.func7, Try.ntmps7
      go_wp2_with (first
        | (go_at_call 8; ((with_reducible refine hfit.mono ?_); rintro e w0 ⟨rfl, hb0⟩; have B0 := hide (BB.out.trans (hb0.mono BB.out.size)); have RB0 := hide (RB.out.below hb0); obtain ⟨x0, x1, x2⟩ := (RA.out.below hb0).three; obtain ⟨y0, y1, y2⟩ := RB0.out.three; clear hb0 hfit)))
      go_ret
      exact ⟨rfl, B0.out⟩
    · have hsz : decide ((200 : Int) < wrap64 (wrap64 ((k1.size : Int) + (u1.size : Int) + (k2.size : Int)) + (u2.size : Int))) = false := decide_eq_false hb
      cases h1 : rowOkB t1 k1 u1
      · rw [h1] at hr1
        go_enter Try.func7, Try.ntmps7
        go_wp2_with (first
          | (go_at_call 8; ((with_reducible refine hfit.mono ?_); rintro e w0 ⟨rfl, hb0⟩; have B0 := hide (BB.out.trans (hb0.mono BB.out.size)); have RB0 := hide (RB.out.below hb0); obtain ⟨x0, x1, x2⟩ := (RA.out.below hb0).three; obtain ⟨y0, y1, y2⟩ := RB0.out.three; clear hb0 hfit))
          | (go_at_call 22; ((with_reducible refine (hr1 _).mono ?_); rintro e w1 ⟨rfl, hb1⟩; have B1 := hide (B0.out.trans (hb1.mono B0.out.size)); obtain ⟨z0, z1, z2⟩ := (RB0.out.below hb1).three; clear hb1 hr1)))
        go_ret
        exact ⟨rfl, B1.out⟩
      · have h2 : rowOkB t2 k2 u2 = false := by rcases hno with h | h; (rw [h1] at h; cases h); exact h
        rw [h1] at hr1
        rw [h2] at hr2
        go_enter Try.func7, Try.ntmps7
        go_wp2_with (first
          | (go_at_call 8; ((with_reducible refine hfit.mono ?_); rintro e w0 ⟨rfl, hb0⟩; have B0 := hide (BB.out.trans (hb0.mono BB.out.size)); have RB0 := hide (RB.out.below hb0); obtain ⟨x0, x1, x2⟩ := (RA.out.below hb0).three; obtain ⟨y0, y1, y2⟩ := RB0.out.three; clear hb0 hfit))
          | (go_at_call 22; ((with_reducible refine (hr1 _).mono ?_); rintro e w1 ⟨rfl, hb1⟩; have B1 := hide (B0.out.trans (hb1.mono B0.out.size)); obtain ⟨z0, z1, z2⟩ := (RB0.out.below hb1).three; clear hb1 hr1))
          | (go_at_call 22; ((with_reducible refine (hr2 _).mono ?_); rintro e w2 ⟨rfl, hb2⟩; have B2 := hide (B1.out.trans (hb2.mono B1.out.size)); clear hb2 hr2)))
        go_ret
        exact ⟨rfl, B2.out⟩
  have o2' : (k1.size : Int) + (u1.size : Int) + (k2.size : Int) ≤ 9223372036854775807 := by omega
  clear o2
  by_cases o3 : 9223372036854775807 < (k1.size : Int) + (u1.size : Int) + (k2.size : Int) + (u2.size : Int)
  · by_cases hb : (200 : Int) < wrap64 ((k1.size : Int) + (u1.size : Int) + (k2.size : Int) + (u2.size : Int))
    · have hsz : decide ((200 : Int) < wrap64 ((k1.size : Int) + (u1.size : Int) + (k2.size : Int) + (u2.size : Int))) = true := decide_eq_true hb
      go_enter Try.func7, Try.ntmps7
      go_wp2_with (first
        | (go_at_call 8; ((with_reducible refine hfit.mono ?_); rintro e w0 ⟨rfl, hb0⟩; have B0 := hide (BB.out.trans (hb0.mono BB.out.size)); have RB0 := hide (RB.out.below hb0); obtain ⟨x0, x1, x2⟩ := (RA.out.below hb0).three; obtain ⟨y0, y1, y2⟩ := RB0.out.three; clear hb0 hfit)))
      go_ret
      exact ⟨rfl, B0.out⟩
    · have hsz : decide ((200 : Int) < wrap64 ((k1.size : Int) + (u1.size : Int) + (k2.size : Int) + (u2.size : Int))) = false := decide_eq_false hb
      cases h1 : rowOkB t1 k1 u1
      · rw [h1] at hr1
        go_enter Try.func7, Try.ntmps7
        go_wp2_with (first
          | (go_at_call 8; ((with_reducible refine hfit.mono ?_); rintro e w0 ⟨rfl, hb0⟩; have B0 := hide (BB.out.trans (hb0.mono BB.out.size)); have RB0 := hide (RB.out.below hb0); obtain ⟨x0, x1, x2⟩ := (RA.out.below hb0).three; obtain ⟨y0, y1, y2⟩ := RB0.out.three; clear hb0 hfit))
          | (go_at_call 22; ((with_reducible refine (hr1 _).mono ?_); rintro e w1 ⟨rfl, hb1⟩; have B1 := hide (B0.out.trans (hb1.mono B0.out.size)); obtain ⟨z0, z1, z2⟩ := (RB0.out.below hb1).three; clear hb1 hr1)))
        go_ret
        exact ⟨rfl, B1.out⟩
      · have h2 : rowOkB t2 k2 u2 = false := by rcases hno with h | h; (rw [h1] at h; cases h); exact h
        rw [h1] at hr1
        rw [h2] at hr2
        go_enter Try.func7, Try.ntmps7
        go_wp2_with (first
          | (go_at_call 8; ((with_reducible refine hfit.mono ?_); rintro e w0 ⟨rfl, hb0⟩; have B0 := hide (BB.out.trans (hb0.mono BB.out.size)); have RB0 := hide (RB.out.below hb0); obtain ⟨x0, x1, x2⟩ := (RA.out.below hb0).three; obtain ⟨y0, y1, y2⟩ := RB0.out.three; clear hb0 hfit))
          | (go_at_call 22; ((with_reducible refine (hr1 _).mono ?_); rintro e w1 ⟨rfl, hb1⟩; have B1 := hide (B0.out.trans (hb1.mono B0.out.size)); obtain ⟨z0, z1, z2⟩ := (RB0.out.below hb1).three; clear hb1 hr1))
          | (go_at_call 22; ((with_reducible refine (hr2 _).mono ?_); rintro e w2 ⟨rfl, hb2⟩; have B2 := hide (B1.out.trans (hb2.mono B1.out.size)); clear hb2 hr2)))
        go_ret
        exact ⟨rfl, B2.out⟩
  have o3' : (k1.size : Int) + (u1.size : Int) + (k2.size : Int) + (u2.size : Int) ≤ 9223372036854775807 := by omega
  clear o3
  by_cases hb : (200 : Int) < (k1.size : Int) + (u1.size : Int) + (k2.size : Int) + (u2.size : Int)
  · have hsz : decide ((200 : Int) < (k1.size : Int) + (u1.size : Int) + (k2.size : Int) + (u2.size : Int)) = true := decide_eq_true hb
    go_enter Try.func7, Try.ntmps7
    go_wp2_with (first
      | (go_at_call 8; ((with_reducible refine hfit.mono ?_); rintro e w0 ⟨rfl, hb0⟩; have B0 := hide (BB.out.trans (hb0.mono BB.out.size)); have RB0 := hide (RB.out.below hb0); obtain ⟨x0, x1, x2⟩ := (RA.out.below hb0).three; obtain ⟨y0, y1, y2⟩ := RB0.out.three; clear hb0 hfit)))
    go_ret
    exact ⟨rfl, B0.out⟩
  · have hsz : decide ((200 : Int) < (k1.size : Int) + (u1.size : Int) + (k2.size : Int) + (u2.size : Int)) = false := decide_eq_false hb
    cases h1 : rowOkB t1 k1 u1
    · rw [h1] at hr1
      go_enter Try.func7, Try.ntmps7
      go_wp2_with (first
        | (go_at_call 8; ((with_reducible refine hfit.mono ?_); rintro e w0 ⟨rfl, hb0⟩; have B0 := hide (BB.out.trans (hb0.mono BB.out.size)); have RB0 := hide (RB.out.below hb0); obtain ⟨x0, x1, x2⟩ := (RA.out.below hb0).three; obtain ⟨y0, y1, y2⟩ := RB0.out.three; clear hb0 hfit))
        | (go_at_call 22; ((with_reducible refine (hr1 _).mono ?_); rintro e w1 ⟨rfl, hb1⟩; have B1 := hide (B0.out.trans (hb1.mono B0.out.size)); obtain ⟨z0, z1, z2⟩ := (RB0.out.below hb1).three; clear hb1 hr1)))
      go_ret
      exact ⟨rfl, B1.out⟩
    · have h2 : rowOkB t2 k2 u2 = false := by rcases hno with h | h; (rw [h1] at h; cases h); exact h
      rw [h1] at hr1
      rw [h2] at hr2
      go_enter Try.func7, Try.ntmps7
      go_wp2_with (first
        | (go_at_call 8; ((with_reducible refine hfit.mono ?_); rintro e w0 ⟨rfl, hb0⟩; have B0 := hide (BB.out.trans (hb0.mono BB.out.size)); have RB0 := hide (RB.out.below hb0); obtain ⟨x0, x1, x2⟩ := (RA.out.below hb0).three; obtain ⟨y0, y1, y2⟩ := RB0.out.three; clear hb0 hfit))
        | (go_at_call 22; ((with_reducible refine (hr1 _).mono ?_); rintro e w1 ⟨rfl, hb1⟩; have B1 := hide (B0.out.trans (hb1.mono B0.out.size)); obtain ⟨z0, z1, z2⟩ := (RB0.out.below hb1).three; clear hb1 hr1))
        | (go_at_call 22; ((with_reducible refine (hr2 _).mono ?_); rintro e w2 ⟨rfl, hb2⟩; have B2 := hide (B1.out.trans (hb2.mono B1.out.size)); clear hb2 hr2)))
      go_ret
      exact ⟨rfl, B2.out⟩
end Go.Proofs.Ytkdcnddagebjpaa
