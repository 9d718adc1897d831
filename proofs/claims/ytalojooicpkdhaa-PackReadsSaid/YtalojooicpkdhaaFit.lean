/-
  The walk of the example that stands at each statement's head.
-/
import Derived.Test.YtalojooicpkdhaaNumber
namespace Go.Proofs.Ytalojooicpkdhaa
open Go.RowKit

theorem put_fit (w : World) : Calls Try.prog 17 #[.slice none 0 0, .int .i64 2, .int .u64 258] w fun e w' => ∃ b o c, e = .returned (.slice (some ⟨b, o, none⟩) 2 c) ∧
    w'.cell? ⟨b, o, none⟩ = some (.int .u8 1) ∧ w'.cell? ⟨b, o + 1, none⟩ = some (.int .u8 2) ∧ Rd w' (.slice (some ⟨b, o, none⟩) 2 c) (u8s [1, 2]) ∧ Below w.heap.size w w' := by
  refine (put_any (.slice none 0 0) [] 2 258 w (by simp) (by omega) (by omega) (Rd.nil_ _ _ _)).mono ?_
  rintro e w' ⟨v', rfl, hmine, hb⟩
  rw [show [] ++ be 2 258 = [1, 2] by decide] at hmine
  obtain ⟨A, c, rfl⟩ := hmine.form
  obtain ⟨A', c', he, hc, hA⟩ := id hmine.rd
  injection he with e1 e2 e3
  subst e1
  obtain ⟨b, o, rfl, _, hcell⟩ := hA (by simp [u8s])
  exact ⟨b, o, c, rfl, hcell 0 _ rfl, hcell 1 _ rfl, hmine.rd, hb⟩

set_option maxHeartbeats 1000000 in
theorem fit_any (w : World) : Calls Try.prog 8 #[] w fun e w' => e = .returned (.bool true) ∧ Below w.heap.size w w' := by
  have h258 : ((⟨[1, 2], false⟩ : St).num 2 : Int) = 258 := by decide
  go_enter Try.func8, Try.ntmps8
  go_wp2_with (first
    | (go_at_call 17; refine (put_fit _).mono ?_; rintro e w1 ⟨b, o, c, rfl, hc0, hc1, hrd, hb1⟩)
    | (go_at_call 9; refine (new_any _ [1, 2] _ (by simp) hrd).mono ?_; rintro e w2 ⟨g, rfl, hr, hb2⟩)
    | (go_at_call 12; refine (num_any 2 hr (by simp)).mono ?_; rw [h258]; rintro e w3 ⟨rfl, hr3, hg3⟩))
  go_ret
  exact ⟨rfl, (hb1.trans (hb2.mono hb1.size)).grown hg3 (by have := hb1.size; have := hb2.size; omega) fun k hk => by injection hk with hk; have := hr.lo_le; have := hb1.size; omega⟩
end Go.Proofs.Ytalojooicpkdhaa
