/-
  What a disk answers, case by case (plain data); bits of small masks.
-/
import Derived.Test.YthlclhfepnmaeaaMany
namespace Go.Proofs.Ythlclhfepnmaeaa
open Go.RowKit

section
variable {d : Ds} {r s : Int} {g : Rg} {b : List UInt8}
theorem wr_ok (h : d.at? r = some g) (h0 : 0 ≤ s) (h1 : s < (d.size : Int)) (hb : b.length ≤ 64) (hd : g.down = false) : d.wrCode r s b.length = 0 ∧ d.wr r s b = d.write r.toNat g s.toNat (pad b) := by
  unfold Ds.wrCode Ds.wr
  rw [h]
  simp only
  have e : ¬ (s < 0 ∨ (d.size : Int) ≤ s ∨ 64 < b.length) := by omega
  rw [if_neg e, if_neg e, hd]
  exact ⟨rfl, rfl⟩
theorem wr_dn (h : d.at? r = some g) (h0 : 0 ≤ s) (h1 : s < (d.size : Int)) (hb : b.length ≤ 64) (hd : g.down = true) : d.wrCode r s b.length = 10 ∧ d.wr r s b = d := by
  unfold Ds.wrCode Ds.wr
  rw [h]
  simp only
  have e : ¬ (s < 0 ∨ (d.size : Int) ≤ s ∨ 64 < b.length) := by omega
  rw [if_neg e, if_neg e, hd]
  exact ⟨rfl, rfl⟩
theorem wr_none (h : d.at? r = none) : d.wrCode r s b.length = 1 ∧ d.wr r s b = d := by
  unfold Ds.wrCode Ds.wr
  rw [h]
  exact ⟨rfl, rfl⟩
theorem wr_bad (h : d.at? r = some g) (h1 : s < 0 ∨ (d.size : Int) ≤ s ∨ 64 < b.length) : d.wrCode r s b.length = 1 ∧ d.wr r s b = d := by
  unfold Ds.wrCode Ds.wr
  rw [h]
  simp only
  rw [if_pos h1, if_pos h1]
  exact ⟨rfl, rfl⟩
theorem rd_some (h : d.at? r = some g) (h0 : 0 ≤ s) (h1 : s < (d.size : Int)) : d.rd? r s = g.secs[s.toNat]? := by
  unfold Ds.rd?
  rw [h]
  simp only
  rw [if_neg (by omega)]
theorem rd_none (h : d.at? r = none) : d.rd? r s = none := by unfold Ds.rd?; rw [h]
theorem rd_bad (h : d.at? r = some g) (h1 : s < 0 ∨ (d.size : Int) ≤ s) : d.rd? r s = none := by
  unfold Ds.rd?
  rw [h]
  simp only
  rw [if_pos h1]
end
theorem at_nat (d : Ds) (i : Nat) : d.at? (i : Int) = d.regs[i]? := by
  unfold Ds.at?
  rw [if_neg (by omega), Int.toNat_natCast]
theorem and_low (x : Int) (j : Nat) (hj : j ≤ 31) : ∃ m : Nat, m < 2 ^ j ∧ bits .and .i64 x ((2 ^ j - 1 : Nat) : Int) = (m : Int) := by
  have hp : 2 ^ j ≤ 2 ^ 31 := Nat.pow_le_pow_right (by omega) hj
  have hp2 : (2 : Nat) ^ 31 = 2147483648 := by decide
  have hpos : 0 < 2 ^ j := Nat.two_pow_pos j
  generalize 2 ^ j = p at *
  have h1 : bits .and .i64 x ((p - 1 : Nat) : Int) = IntKind.i64.wrap (((BitVec.ofInt 64 x &&& BitVec.ofInt 64 ((p - 1 : Nat) : Int)).toNat : Int)) := rfl
  have h2 : (BitVec.ofInt 64 x &&& BitVec.ofInt 64 ((p - 1 : Nat) : Int)).toNat ≤ p - 1 := by
    rw [BitVec.toNat_and, BitVec.ofInt_natCast, BitVec.toNat_ofNat, Nat.mod_eq_of_lt (by omega)]
    exact Nat.and_le_right
  rw [h1]
  generalize (BitVec.ofInt 64 x &&& BitVec.ofInt 64 ((p - 1 : Nat) : Int)).toNat = c at *
  refine ⟨c, by omega, ?_⟩
  rw [IntKind.wrap_i64]
  omega
theorem and31 (x : Int) : ∃ m : Nat, m < 32 ∧ bits .and .i64 x 31 = (m : Int) := and_low x 5 (by omega)
theorem and3 (x : Int) : ∃ m : Nat, m < 4 ∧ bits .and .i64 x 3 = (m : Int) := and_low x 2 (by omega)
theorem and7 (x : Int) : ∃ m : Nat, m < 8 ∧ bits .and .i64 x 7 = (m : Int) := and_low x 3 (by omega)
end Go.Proofs.Ythlclhfepnmaeaa
