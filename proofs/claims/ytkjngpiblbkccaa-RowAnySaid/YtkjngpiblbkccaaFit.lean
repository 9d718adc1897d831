/-
  What the statements of stage 4 begin with: right, light, fit.
-/
import Derived.Test.YtkjngpiblbkccaaDecode
namespace Go.Proofs.Ytkjngpiblbkccaa
open Go.RowKit

theorem lright_yes (t : Int) (k v : ByteArray) (w : World) (h : rightB t k v = true) :
    Calls Try.prog 12 #[.agg #[.int .i64 t, .string k, .string v]] w fun e w' => e = .returned (.bool true) ∧ Below w.heap.size w w' := by
  obtain ⟨h1, h2, h3, h4⟩ := rightB_iff.1 h
  clear h
  have e4 : decide ((v.size : Int) ≤ 21) = true := decide_eq_true (by omega)
  go_enter Try.func12, Try.ntmps12
  go_wp2
  go_ret
  exact ⟨rfl, (Below.refl _ _).alloc (Nat.le_refl _) _⟩
theorem lright_no (t : Int) (k v : ByteArray) (w : World) (h : rightB t k v = false) :
    Calls Try.prog 12 #[.agg #[.int .i64 t, .string k, .string v]] w fun e w' => e = .returned (.bool false) ∧ Below w.heap.size w w' := by
  rcases rightB_not h with h1 | ⟨h0, h1⟩ | ⟨h0, h1, h2⟩ | ⟨h0, h1, h2, h3⟩
  rotate_right
  · have e4 : decide ((v.size : Int) ≤ 21) = false := decide_eq_false (by omega)
    clear h
    go_enter Try.func12, Try.ntmps12
    go_wp2
    go_ret
    exact ⟨rfl, (Below.refl _ _).alloc (Nat.le_refl _) _⟩
  all_goals
    clear h
    go_enter Try.func12, Try.ntmps12
    go_wp2
    go_ret
    exact ⟨rfl, (Below.refl _ _).alloc (Nat.le_refl _) _⟩
theorem lright_any (t : Int) (k v : ByteArray) (w : World) :
    Calls Try.prog 12 #[.agg #[.int .i64 t, .string k, .string v]] w fun e w' => e = .returned (.bool (rightB t k v)) ∧ Below w.heap.size w w' := by
  cases h : rightB t k v
  · exact lright_no t k v w h
  · exact lright_yes t k v w h
/-- Is it short? (Of texts as long as no machine bears the sum is another one.) -/
def lightB (k v : ByteArray) : Bool := decide (wrap64 ((k.size : Int) + (v.size : Int)) ≤ 200)
theorem light_any (t : Int) (k v : ByteArray) (w : World) :
    Calls Try.prog 10 #[.agg #[.int .i64 t, .string k, .string v]] w fun e w' => e = .returned (.bool (lightB k v)) ∧ Below w.heap.size w w' := by
  have H := hide (show lightB k v = decide (wrap64 ((k.size : Int) + (v.size : Int)) ≤ 200) from rfl)
  go_enter Try.func10, Try.ntmps10
  go_wp2
  go_ret
  exact ⟨by rw [H.out]; rfl, (Below.refl _ _).alloc (Nat.le_refl _) _⟩
theorem light_told (b : Bool) (t : Int) (k v : ByteArray) (w : World) (h : lightB k v = b) :
    Calls Try.prog 10 #[.agg #[.int .i64 t, .string k, .string v]] w fun e w' => e = .returned (.bool b) ∧ Below w.heap.size w w' := by
  subst h
  exact light_any t k v w
theorem light_of {t : Int} {k v : ByteArray} (h : rightB t k v = true) : lightB k v = true := by
  obtain ⟨_, _, h3, h4⟩ := rightB_iff.1 h
  unfold lightB wrap64
  rw [decide_eq_true_eq]
  omega
theorem decode_40 (w : World) : Calls Try.prog 13 #[.slice (some ⟨w.heap.size, 0, none⟩) 40 40] (w.alloc (.cells (blk8 z40) 5)) fun e w' => e = .returned (.tuple #[.agg #[.int .i64 0, .string ⟨#[]⟩, .string ⟨#[]⟩], .int .i64 5]) ∧ Below w.heap.size w w' := by
  refine (decode_zeros _ z40 _ (Blk.rd8 (heap_new w _) rfl (Nat.le_refl _)) rfl).mono ?_
  rintro e w' ⟨rfl, hb⟩
  have h0 : Below w.heap.size w (w.alloc (.cells (blk8 z40) 5)) := (Below.refl _ _).alloc (Nat.le_refl _) _
  exact ⟨rfl, h0.trans (hb.mono h0.size)⟩
theorem right_zero (w : World) : Calls Try.prog 11 #[.agg #[.int .i64 0, .string ⟨#[]⟩, .string ⟨#[]⟩]] w fun e w' => e = .returned (.bool true) ∧ Below w.heap.size w w' := right_yes 0 ⟨#[]⟩ ⟨#[]⟩ w (by decide)
theorem fit_any (w : World) : Calls Try.prog 9 #[] w fun e w' => e = .returned (.bool true) ∧ Below w.heap.size w w' := by
  have hmk := run_make40
  go_enter Try.func9, Try.ntmps9
  go_wp2_with (first
    | (go_at_call 13; refine (decode_40 _).mono ?_; rintro e w1 ⟨rfl, hb1⟩; have HB := hide (hb1.alloc hb1.size (.cells #[.int .i64 0, .string ⟨#[]⟩, .string ⟨#[]⟩] 23)))
    | (go_at_call 11; refine (right_zero _).mono ?_; rintro e w2 ⟨rfl, hb2⟩))
  go_ret
  exact ⟨rfl, HB.out.trans (hb2.mono HB.out.size)⟩
end Go.Proofs.Ytkjngpiblbkccaa
