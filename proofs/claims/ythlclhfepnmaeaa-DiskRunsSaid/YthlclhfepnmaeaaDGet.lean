/-
  Contracts: a disk's region, is there a sector, is it down.
-/
import Derived.Test.YthlclhfepnmaeaaDAt
namespace Go.Proofs.Ythlclhfepnmaeaa
open Go.RowKit

section
variable {w : World} {g g2 n : Nat} {wv : Value}
theorem region_some (hb : Blk w g 52 #[.slice (some ⟨g2, 0, none⟩) n n, wv]) (i : Nat) (hi : i < n) :
    Calls Try.prog 16 #[ptr g, .int .i64 (i : Int)] w fun e w' => e = .returned (.pointer (some ⟨g2, i * 4, none⟩)) ∧ w = w' := by
  have hc := hb.cell 0 _ rfl
  unfold ptr
  clear hb
  have h0 : (0 : Int) ≤ (i : Int) := by omega
  have h1 : (i : Int) < (n : Int) := by omega
  go_enter Try.func16, Try.ntmps16
  go_wp2
  go_ret
  exact ⟨rfl, rfl⟩
theorem region_out (hb : Blk w g 52 #[.slice (some ⟨g2, 0, none⟩) n n, wv]) (i : Int) (hi : i < 0 ∨ (n : Int) ≤ i) :
    Calls Try.prog 16 #[ptr g, .int .i64 i] w fun e w' => e = .returned (.pointer none) ∧ w = w' := by
  have hc := hb.cell 0 _ rfl
  unfold ptr
  clear hb
  by_cases h0 : i < 0
  · clear hi
    go_enter Try.func16, Try.ntmps16
    go_wp2
    go_ret
    exact ⟨rfl, rfl⟩
  · have h1 : (n : Int) ≤ i := by omega
    clear hi
    go_enter Try.func16, Try.ntmps16
    go_wp2
    go_ret
    exact ⟨rfl, rfl⟩
theorem region_nil (i : Int) (w : World) :
    Calls Try.prog 16 #[.pointer none, .int .i64 i] w fun e w' => e = .returned (.pointer none) ∧ w = w' := by
  go_enter Try.func16, Try.ntmps16
  go_wp2
  go_ret
  exact ⟨rfl, rfl⟩
end

section
variable {w : World} {g o sb n : Nat}
theorem has_nil (s : Int) (w : World) : Calls Try.prog 17 #[.pointer none, .int .i64 s] w fun e w' => e = .returned (.bool false) ∧ w = w' := by
  go_enter Try.func17, Try.ntmps17
  go_wp2
  go_ret
  exact ⟨rfl, rfl⟩
theorem has_yes (hc : w.cell? ⟨g, o, none⟩ = some (.slice (some ⟨sb, 0, none⟩) n n)) (s : Nat) (hs : s < n) : Calls Try.prog 17 #[.pointer (some ⟨g, o, none⟩), .int .i64 (s : Int)] w fun e w' => e = .returned (.bool true) ∧ w = w' := by
  have h0 : (0 : Int) ≤ (s : Int) := by omega
  have h1 : (s : Int) < (n : Int) := by omega
  go_enter Try.func17, Try.ntmps17
  go_wp2
  go_ret
  exact ⟨rfl, rfl⟩
theorem has_no (hc : w.cell? ⟨g, o, none⟩ = some (.slice (some ⟨sb, 0, none⟩) n n)) (s : Int) (hs : s < 0 ∨ (n : Int) ≤ s) : Calls Try.prog 17 #[.pointer (some ⟨g, o, none⟩), .int .i64 s] w fun e w' => e = .returned (.bool false) ∧ w = w' := by
  by_cases h0 : s < 0
  · clear hs
    go_enter Try.func17, Try.ntmps17
    go_wp2
    go_ret
    exact ⟨rfl, rfl⟩
  · have h1 : (n : Int) ≤ s := by omega
    clear hs
    have h0' : 0 ≤ s := by omega
    have hd : decide (s < (n : Int)) = false := by simpa using h1
    go_enter Try.func17, Try.ntmps17
    go_wp2
    go_ret
    exact ⟨rfl, rfl⟩
/-- down, answer by answer. -/
theorem down_any (armed : Bool) (left : Nat) (hc2 : w.cell? ⟨g, o + 2, none⟩ = some (.bool armed)) (hc3 : w.cell? ⟨g, o + 3, none⟩ = some (.int .i64 (left : Int))) :
    Calls Try.prog 18 #[.pointer (some ⟨g, o, none⟩)] w fun e w' => e = .returned (.bool (armed && left == 0)) ∧ w = w' := by
  cases armed
  · rw [Bool.false_and]
    go_enter Try.func18, Try.ntmps18
    go_wp2
    go_ret
    exact ⟨rfl, rfl⟩
  · rw [Bool.true_and]
    cases left with
    | zero =>
      go_enter Try.func18, Try.ntmps18
      go_wp2
      go_ret
      exact ⟨rfl, rfl⟩
    | succ k =>
      have h : (((k + 1 : Nat) : Int) == 0) = false := by simp; omega
      have h2 : ((k + 1 : Nat) == 0) = false := by simp
      rw [h2]
      generalize ((k + 1 : Nat) : Int) = z at *
      go_enter Try.func18, Try.ntmps18
      go_wp2
      go_ret
      exact ⟨rfl, rfl⟩
end
end Go.Proofs.Ythlclhfepnmaeaa
