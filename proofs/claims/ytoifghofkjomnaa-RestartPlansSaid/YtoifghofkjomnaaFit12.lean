/-
  Stage 12's fit.
-/
import Derived.Test.YtoifghofkjomnaaSpec12
namespace Go.Proofs.Ytoifghofkjomnaa
open Go.RowKit
set_option maxRecDepth 20000
set_option linter.unusedSimpArgs false
set_option linter.unusedVariables false

/-- The entry that fit makes. -/
def fitE (k s : Nat) : Ei := ⟨⟨k, 1, 0, s, ⟨#[]⟩, ⟨#[]⟩, ⟨#[]⟩, []⟩, 9, none, 0⟩
set_option maxHeartbeats 4000000 in
theorem fit1_any (k s : Int) (w : World) : Calls Try.prog 14 #[.int .i64 k, .int .i64 s] w fun e w' => e = .returned (.agg #[.int .i64 k, .int .i64 1, .int .i64 0, .int .i64 s, .string ⟨#[]⟩, .string ⟨#[]⟩, .string ⟨#[]⟩, .slice none 0 0, .int .u64 9]) ∧ Below w.heap.size w w' := by
  go_enter Try.func14, Try.ntmps14
  go_wp2
  refine bodyPost_ret (v := .agg #[.int .i64 k, .int .i64 1, .int .i64 0, .int .i64 s, .string ⟨#[]⟩, .string ⟨#[]⟩, .string ⟨#[]⟩, .slice none 0 0, .int .u64 9]) (by simp [results, Try.results14, go_sem]) rfl ⟨rfl, (Below.refl _ _).alloc (Nat.le_refl _) _⟩
theorem fit_an (HAN : AnSaid) (w : World) : Calls Try.prog 12 #[.slice (some ⟨w.heap.size, 0, none⟩) 3 3] (w.alloc (.cells #[.int .i64 3, .int .i64 1, .int .i64 0, .int .i64 2, .string ⟨#[]⟩, .string ⟨#[]⟩, .string ⟨#[]⟩, .slice none 0 0, .int .u64 9, .int .i64 3, .int .i64 1, .int .i64 0, .int .i64 3, .string ⟨#[]⟩, .string ⟨#[]⟩, .string ⟨#[]⟩, .slice none 0 0, .int .u64 9, .int .i64 4, .int .i64 1, .int .i64 0, .int .i64 3, .string ⟨#[]⟩, .string ⟨#[]⟩, .string ⟨#[]⟩, .slice none 0 0, .int .u64 9] 40)) fun e w' => ∃ (A : Nat → Option Addr) (cc : Nat → Nat) (b o c : Nat), e = .returned (.agg #[.int .u64 0, .slice (A 0) 0 (cc 0), .slice (some ⟨b, o, none⟩) 1 c, .slice (A 2) 0 (cc 2), .slice (A 3) 0 (cc 3), .bool false, .bool true, .bool false, .bool false]) ∧ Hid ((w'.alloc (.cells #[.int .u64 0, .slice (A 0) 0 (cc 0), .slice (some ⟨b, o, none⟩) 1 c, .slice (A 2) 0 (cc 2), .slice (A 3) 0 (cc 3), .bool false, .bool true, .bool false, .bool false] 32)).cell? ⟨b, o + 1, none⟩ = some (.int .i64 2)) ∧ Hid (Below w.heap.size w w') := by
  refine (an_any HAN (es := [fitE 3 2, fitE 3 3, fitE 4 3]) (Kd.Row.built eiK w _ rfl (by decide) rfl (by decide)) (fun x hx => ?_) (by decide)).mono ?_
  · simp only [List.mem_cons, List.not_mem_nil, or_false] at hx
    rcases hx with rfl | rfl | rfl <;> exact DOk.none rfl
  · rintro e w' ⟨A, cc, rfl, hb, hk⟩
    obtain ⟨A1, c, e1, h1⟩ := hk 1 (by decide)
    have hlo : loP [fitE 3 2, fitE 3 3, fitE 4 3] 1 = [⟨0, 2, ⟨#[]⟩⟩] := rfl
    rw [hlo] at e1 h1
    obtain ⟨b, o, rfl, hlt, hge, h2⟩ := h1 (by decide)
    refine ⟨A, cc, b, o, c, ?_, hide ?_, hide (((Below.refl _ _).alloc (Nat.le_refl _) _).trans (hb.mono (by simp)))⟩
    · unfold planC
      dsimp only
      rw [hlo, e1]
      rfl
    · have := h2 0 _ rfl 1 _ rfl
      rw [Nat.zero_mul, Nat.add_zero] at this
      rw [World.cell?_alloc_lt _ _ _ hlt]
      exact this
set_option maxHeartbeats 4000000 in
theorem fit_any (HAN : AnSaid) (w : World) : Calls Try.prog 9 #[] w fun e w' => e = .returned (.bool true) ∧ Below w.heap.size w w' := by
  have HK := hide HAN
  clear HAN
  go_enter Try.func9, Try.ntmps9
  have HB := hide (Below.refl w.heap.size w)
  go_wp2_with (first
    | (go_at_call 14; (with_reducible refine (fit1_any _ _ _).mono ?_); rintro e w1 ⟨rfl, hb1⟩; have HB := hide (HB.out.trans (hb1.mono HB.out.size)); clear hb1)
    | (go_at_call 12; (with_reducible refine (fit_an HK.out _).mono ?_); rintro e w4 ⟨A, cc, b, o, c, rfl, hc, hb4⟩; have c1 := hc.out; have HB := hide (HB.out.trans (hb4.out.mono HB.out.size)); clear hb4))
  go_ret
  exact ⟨rfl, HB.out.alloc HB.out.size _⟩
end Go.Proofs.Ytoifghofkjomnaa
