/-
  Contracts of package pool: isNumber, sector, find, ahead, passed.
-/
import Derived.Test.YtkdcnddagebjpaaPo
namespace Go.Proofs.Ytkdcnddagebjpaa
open Go.RowKit
set_option maxRecDepth 20000
set_option linter.unusedSimpArgs false
set_option linter.unusedVariables false

theorem isnum_yes (w : World) (n : Nat) (hn : n < 6) : Calls Try.prog 31 #[.int .i64 (n : Int)] w fun e w' => e = .returned (.bool true) ∧ w = w' := by
  have h1 : (0 : Int) ≤ (n : Int) := by omega
  have h2 : (n : Int) < 6 := by omega
  go_enter Try.func31, Try.ntmps31
  go_wp2
  go_ret
  exact ⟨rfl, rfl⟩
theorem isnum_no (w : World) (n : Int) (hn : n < 0 ∨ (0 ≤ n ∧ 6 ≤ n)) : Calls Try.prog 31 #[.int .i64 n] w fun e w' => e = .returned (.bool false) ∧ w = w' := by
  rcases hn with h1 | ⟨h0, h1⟩
  · go_enter Try.func31, Try.ntmps31
    go_wp2
    go_ret
    exact ⟨rfl, rfl⟩
  · have e5 : decide (n < 6) = false := decide_eq_false (by omega)
    go_enter Try.func31, Try.ntmps31
    go_wp2
    go_ret
    exact ⟨rfl, rfl⟩
theorem psec_any (w : World) (n : Nat) (hn : n < 6) : Calls Try.prog 61 #[.int .i64 (n : Int)] w fun e w' => e = .returned (.int .i64 ((514 + 4 * n : Nat) : Int)) ∧ w = w' := by
  have h2 : (n : Int) < 6 := by omega
  go_enter Try.func61, Try.ntmps61
  go_wp2
  go_ret
  exact ⟨ret_int (by omega), rfl⟩
/-- The frame that has a number's page. -/
def Po.hasB (P : Po) (n i : Nat) : Bool := (P.f i).pb.isSome && decide ((P.f i).num = n)
def Po.find (P : Po) (n : Nat) : Option Nat := if P.hasB n 0 = true then some 0 else if P.hasB n 1 = true then some 1 else if P.hasB n 2 = true then some 2 else none
theorem Po.find_none {P : Po} {n : Nat} (h : ∀ j, j < 3 → P.hasB n j = false) : P.find n = none := by
  unfold Po.find
  simp [h 0 (by omega), h 1 (by omega), h 2 (by omega)]
theorem Po.find_at {P : Po} {n k : Nat} (hk : k < 3) (h : ∀ j, j < k → P.hasB n j = false) (h1 : P.hasB n k = true) : P.find n = some k := by
  unfold Po.find
  match k, hk with
  | 0, _ => simp [h1]
  | 1, _ => simp [h1, h 0 (by omega)]
  | 2, _ => simp [h1, h 0 (by omega), h 1 (by omega)]
theorem Po.find_some {P : Po} {n k : Nat} (h : P.find n = some k) : k < 3 ∧ (∀ j, j < k → P.hasB n j = false) ∧ P.hasB n k = true := by
  unfold Po.find at h
  split at h
  · rename_i h0
    obtain rfl := Option.some.inj h
    exact ⟨by omega, fun j hj => absurd hj (by omega), h0⟩
  · rename_i h0
    split at h
    · rename_i h1
      obtain rfl := Option.some.inj h
      refine ⟨by omega, fun j hj => ?_, h1⟩
      obtain rfl : j = 0 := by omega
      exact Bool.eq_false_iff.2 h0
    · rename_i h1
      split at h
      · rename_i h2
        obtain rfl := Option.some.inj h
        refine ⟨by omega, fun j hj => ?_, h2⟩
        rcases (show j = 0 ∨ j = 1 by omega) with rfl | rfl
        · exact Bool.eq_false_iff.2 h0
        · exact Bool.eq_false_iff.2 h1
      · cases h
theorem Po.find_not {P : Po} {n : Nat} (h : P.find n = none) : ∀ j, j < 3 → P.hasB n j = false := by
  unfold Po.find at h
  split at h
  · cases h
  · rename_i h0
    split at h
    · cases h
    · rename_i h1
      split at h
      · cases h
      · rename_i h2
        intro j hj
        rcases (show j = 0 ∨ j = 1 ∨ j = 2 by omega) with rfl | rfl | rfl
        · exact Bool.eq_false_iff.2 h0
        · exact Bool.eq_false_iff.2 h1
        · exact Bool.eq_false_iff.2 h2
theorem hasB_none {P : Po} {n k : Nat} (h : (P.f k).pb = none) : P.hasB n k = false := by simp [Po.hasB, h]
theorem hasB_other {P : Po} {n k : Nat} (h : (P.f k).num ≠ n) : P.hasB n k = false := by simp [Po.hasB, h]
theorem hasB_yes {P : Po} {n k b : Nat} (h : (P.f k).pb = some b) (h1 : (P.f k).num = n) : P.hasB n k = true := by simp [Po.hasB, h, h1]
theorem hasB_iff {P : Po} {n k : Nat} (h : P.hasB n k = true) : ∃ b, (P.f k).pb = some b ∧ (P.f k).num = n := by
  unfold Po.hasB at h
  rw [Bool.and_eq_true] at h
  obtain ⟨b, hb⟩ := Option.isSome_iff_exists.1 h.1
  exact ⟨b, hb, of_decide_eq_true h.2⟩
theorem hasB_next {P : Po} {n k : Nat} (h : ∀ j, j < k → P.hasB n j = false) (h1 : P.hasB n k = false) : ∀ j, j < k + 1 → P.hasB n j = false := by
  intro j hj
  rcases Nat.lt_or_ge j k with hlt | hge
  · exact h j hlt
  · obtain rfl : j = k := by omega
    exact h1
/-- A frame's address. -/
def fv (q : Nat) : Option Nat → Value
  | none => .pointer none
  | some i => .pointer (some ⟨q, 3 + i * 5, none⟩)
section
variable {w : World} {X : Nat → Prop} {dg : Nat} {d : Ds} {g : Nat} {l : Ln} {kv : Value} {q : Nat} {P : Po}
theorem find_po (h : PAt w X dg d g l kv q P) (n : Nat) : Calls Try.prog 32 #[.pointer (some ⟨q, 0, none⟩), .int .i64 (n : Int)] w fun e w' => e = .returned (fv q (P.find n)) ∧ w = w' := by
  have hc : ∀ k, k < 3 → w.cell? ⟨q, 3 + k * 5, none⟩ = some (pv (P.f k).pb) ∧ w.cell? ⟨q, 3 + k * 5 + 1, none⟩ = some (.int .i64 ((P.f k).num : Int)) := fun k hk => ⟨(h.cell hk).1, (h.cell hk).2.1⟩
  clear h
  go_enter Try.func32, Try.ntmps32
  go_wp2
  go_loopg [7] 3 (fun m i wr => ∃ k : Nat, k + m = 3 ∧ i = .int .i64 k ∧ Hid (∀ j, j < k → P.hasB n j = false) ∧ wr = w)
  case atStart => exact ⟨0, by omega, rfl, fun j hj => absurd hj (by omega), rfl⟩
  case round =>
    obtain ⟨k, hk, rfl, hf, rfl⟩ := hrel
    cases gk with
    | zero =>
      obtain rfl : k = 3 := by omega
      go_wp2
      go_ret
      rw [P.find_none hf.out]
      exact ⟨rfl, rfl⟩
    | succ m =>
      have hlt : k < 3 := by omega
      obtain ⟨c0, c1⟩ := hc k hlt
      clear hc
      have hlt' : (k : Int) < 3 := by omega
      cases hpb : (P.f k).pb with
      | none =>
        rw [hpb] at c0
        unfold pv at c0
        have HN := hide (hasB_none (n := n) hpb)
        clear hpb
        go_wp2
        go_roundg m
        case rel => exact ⟨k + 1, by omega, by go_num, hide (hasB_next hf.out HN.out), rfl⟩
        case measure => omega
      | some b =>
        rw [hpb] at c0
        unfold pv at c0
        by_cases hn : (P.f k).num = n
        · have HY := hide (hasB_yes hpb hn)
          rw [hn] at c1
          clear hpb hn
          go_wp2
          go_ret
          rw [P.find_at hlt hf.out HY.out]
          exact ⟨rfl, rfl⟩
        · have HN := hide (hasB_other hn)
          have hn' : ((P.f k).num : Int) ≠ (n : Int) := by omega
          have hn2 : (((P.f k).num : Int) == (n : Int)) = false := by simpa using hn'
          generalize (P.f k).num = z at *
          clear hpb
          go_wp2
          go_roundg m
          case rel => exact ⟨k + 1, by omega, by go_num, hide (hasB_next hf.out HN.out), rfl⟩
          case measure => omega
/-- The frame that is so many ahead of the hand. -/
def Po.ahd (P : Po) (i : Nat) : Nat := (P.hand + i) % 3
theorem Po.ahd_lt (P : Po) (i : Nat) : P.ahd i < 3 := Nat.mod_lt _ (by omega)
theorem ahead_po (h : PAt w X dg d g l kv q P) (hh : P.hand < 3) (i : Nat) (hi : i < 4) : Calls Try.prog 76 #[.pointer (some ⟨q, 0, none⟩), .int .i64 (i : Int)] w fun e w' => e = .returned (.pointer (some ⟨q, 3 + P.ahd i * 5, none⟩)) ∧ Below w.heap.size w w' := by
  have c18 := h.head.2.2.2
  have ht : ((P.hand : Int) + (i : Int)).tmod 3 = (P.ahd i : Int) := by
    unfold Po.ahd
    rw [Int.tmod_eq_emod_of_nonneg (by omega)]
    omega
  have hlt := P.ahd_lt i
  have hlt' : (P.ahd i : Int) < 3 := by omega
  generalize P.ahd i = z at *
  have h3 : (P.hand : Int) < 3 := by omega
  have h4 : (i : Int) < 4 := by omega
  clear h
  go_enter Try.func76, Try.ntmps76
  go_wp2
  go_quiet (fail)
  go_wp2
  go_ret
  exact ⟨rfl, below_drewN _ _⟩
end
end Go.Proofs.Ytkdcnddagebjpaa
