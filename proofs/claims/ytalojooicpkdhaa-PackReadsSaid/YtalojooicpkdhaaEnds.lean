/-
  The walk of PackEnds.
-/
import Derived.Test.YtalojooicpkdhaaFit
namespace Go.Proofs.Ytalojooicpkdhaa
open Go.RowKit

theorem and7 (bit : Int) : ∃ m : Nat, m < 8 ∧ bits .and .i64 bit 7 = (m : Int) := by
  have h1 : bits .and .i64 bit 7 = IntKind.i64.wrap (((BitVec.ofInt 64 bit &&& BitVec.ofInt 64 7).toNat : Int)) := rfl
  have h2 : (BitVec.ofInt 64 bit &&& BitVec.ofInt 64 7).toNat < 8 := by
    rw [BitVec.toNat_and]
    have : (BitVec.ofInt 64 7).toNat = 7 := by decide
    rw [this]
    exact Nat.lt_of_le_of_lt Nat.and_le_right (by omega)
  refine ⟨_, h2, ?_⟩
  rw [h1, IntKind.wrap_i64]
  omega
section
theorem bad_at {w : World} {lo g : Nat} {l : List UInt8} {b : Bool} (h : Rdr w lo g ⟨l, b⟩) : Calls Try.prog 14 #[ptr g] w fun e w' => e = .returned (.bool b) ∧ w = w' := bad_any h
theorem rest_at {w : World} {lo g : Nat} {l : List UInt8} {b : Bool} (h : Rdr w lo g ⟨l, b⟩) : Calls Try.prog 15 #[ptr g] w fun e w' => e = .returned (.int .i64 (l.length : Int)) ∧ w = w' := rest_any h
theorem take_over {w : World} {lo g : Nat} {l : List UInt8} {b : Bool} {n : Int} (h : Rdr w lo g ⟨l, b⟩) (hcan : (⟨l, b⟩ : St).can n = false) : Calls Try.prog 11 #[ptr g, .int .i64 n] w fun e w' => e = .returned (.slice none 0 0) ∧ Rdr w' lo g ⟨l, true⟩ ∧ w.grownBy w' (some g) := take_fails h hcan
variable {w : World} {lo g : Nat} {l : List UInt8}
theorem take_bad (n : Int) (h : Rdr w lo g ⟨l, true⟩) : Calls Try.prog 11 #[ptr g, .int .i64 n] w fun e w' => e = .returned (.slice none 0 0) ∧ Rdr w' lo g ⟨l, true⟩ ∧ w.grownBy w' (some g) :=
  take_fails h (by simp [St.can])
theorem num_bad (h : Rdr w lo g ⟨l, true⟩) (hm : l.length ≤ 70368744177664) : Calls Try.prog 12 #[ptr g, .int .i64 1] w fun e w' => e = .returned (.int .u64 0) ∧ Rdr w' lo g ⟨l, true⟩ ∧ w.grownBy w' (some g) := by
  have := num_any 1 h hm
  simpa [St.num, St.numSt, St.take, St.got, St.can, St.failed, val_nil] using this
theorem text_bad (h : Rdr w lo g ⟨l, true⟩) (hm : l.length ≤ 70368744177664) : Calls Try.prog 13 #[ptr g] w fun e w' => e = .returned (.string ⟨#[]⟩) ∧ Rdr w' lo g ⟨l, true⟩ ∧ w.grownBy w' (some g) := by
  have := text_any_r h hm
  simpa [St.text, St.textSt, St.num, St.numSt, St.take, St.got, St.can, St.failed, val_nil] using this
end

set_option maxHeartbeats 1000000 in
theorem ends_walk (v : Value) (l : List UInt8) (n : Int) (A2 : Option Addr) (n2 c2 : Nat) (w : World) (hm : l.length ≤ maxLen) (hv : Rd w v (u8s l)) (_ : (Lit.int .i64 n).wf = true) :
    Calls Try.prog 5 #[v, .int .i64 n, .slice A2 n2 c2] w fun e w' => e = .returned (.bool true) ∧ Below w.heap.size w w' := by
  obtain ⟨A, c, rfl, hc, hA⟩ := id hv
  rw [u8s_length] at hA hc hv ⊢
  have hm' := hm
  unfold maxLen at hm
  by_cases hlong : 500 < l.length
  · go_enter Try.func5, Try.ntmps5
    go_wp2_with (go_at_call 8; refine (fit_any _).mono ?_; rintro e w1 ⟨rfl, hb1⟩)
    go_ret
    exact ⟨rfl, hb1⟩
  by_cases hmany : 100 < n2
  · go_enter Try.func5, Try.ntmps5
    go_wp2_with (go_at_call 8; refine (fit_any _).mono ?_; rintro e w1 ⟨rfl, hb1⟩)
    go_ret
    exact ⟨rfl, hb1⟩
  obtain ⟨m, hm8, hmb⟩ := and7 n
  have hcan : (⟨l, false⟩ : St).can ((l.length : Int) + 1 + (m : Int)) = false := by simp [St.can]; omega
  go_enter Try.func5, Try.ntmps5
  go_wp2_with (first
    | (go_at_call 8; refine (fit_any _).mono ?_; rintro e w1 ⟨rfl, hb1⟩; have hr1 := hide (hv.below hb1))
    | (go_at_call 9; refine (new_any _ l _ (by omega) hr1.out).mono ?_; rintro e w2 ⟨g, rfl, hr, hb2⟩)
    | (go_at_call 11; refine (take_over hr hcan).mono ?_; rintro e w3 ⟨rfl, hr3, hg3⟩)
    | (go_at_call 14; refine (bad_at hr3).mono ?_; rintro e w4 ⟨rfl, rfl⟩)
    | (go_at_call 15; refine (rest_at hr3).mono ?_; rintro e w5 ⟨rfl, rfl⟩))
  have hbb := (hb1.trans (hb2.mono hb1.size)).grown hg3 (by have := hb1.size; have := hb2.size; omega) (fun k hk => by injection hk with hk; have := hr.lo_le; have := hb1.size; omega)
  have hlo : w.heap.size ≤ g := by have := hr.lo_le; have := hb1.size; omega
  clear hr hb1 hb2 hg3 hr1 hcan
  go_loopw [45] (fun i wr => ∃ k : Nat, k ≤ n2 ∧ i = .int .i64 k ∧ Rdr wr w1.heap.size g ⟨l, true⟩ ∧ Below w.heap.size w wr) (fun i _ => n2 - (intOf i).toNat)
  case atStart => exact ⟨0, by omega, rfl, hr3, hbb⟩
  case round =>
    obtain ⟨k, hk, rfl, hr, hb⟩ := hrel
    by_cases hlt : k < n2
    · clear hr3 hbb
      go_wp2_with (first
        | (go_at_call 11; refine (take_bad 0 hr).mono ?_; rintro e v1 ⟨rfl, hr1, hg1⟩)
        | (go_at_call 12; refine (num_bad hr1 (by omega)).mono ?_; rintro e v2 ⟨rfl, hr2, hg2⟩)
        | (go_at_call 13; refine (text_bad hr2 (by omega)).mono ?_; rintro e v3 ⟨rfl, hr3, hg3⟩)
        | (go_at_call 14; refine (bad_at hr3).mono ?_; rintro e w4 ⟨rfl, rfl⟩)
        | (go_at_call 15; refine (rest_at hr3).mono ?_; rintro e w5 ⟨rfl, rfl⟩))
      go_round
      case rel => exact ⟨k + 1, by omega, by go_num, hr3, hb.grown ((hg1.trans hg2).trans hg3) hb.size fun j hj => by injection hj with hj; omega⟩
      case measure => simp [intOf]; omega
    · obtain rfl : k = n2 := by omega
      go_wp2
      go_ret
      exact ⟨rfl, hb⟩
end Go.Proofs.Ytalojooicpkdhaa
