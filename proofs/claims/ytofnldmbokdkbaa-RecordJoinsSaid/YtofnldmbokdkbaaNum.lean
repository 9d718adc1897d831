/-
  Numbers as bytes, the highest first, and back; a reader's three calls on lists.
-/
import Derived.Test.YtofnldmbokdkbaaMem
namespace Go.Proofs.Ytofnldmbokdkbaa
open Go.RowKit

/-- The number's lowest n bytes, the highest first. -/
def be : Nat → Nat → List UInt8
  | 0, _ => []
  | n + 1, x => be n (x / 256) ++ [UInt8.ofNat x]
/-- The number that bytes stand for, the highest first. -/
def val (l : List UInt8) : Nat := l.foldl (fun x b => x * 256 + b.toNat) 0
theorem be_length : ∀ n x, (be n x).length = n
  | 0, _ => rfl
  | n + 1, x => by simp [be, be_length n]
theorem val_nil : val [] = 0 := rfl
theorem val_snoc (l : List UInt8) (b : UInt8) : val (l ++ [b]) = val l * 256 + b.toNat := by simp [val]
theorem fold_from (l : List UInt8) : ∀ a, l.foldl (fun x b => x * 256 + b.toNat) a = a * 256 ^ l.length + val l := by
  induction l with
  | nil => intro a; simp [val_nil]
  | cons b l ih =>
    intro a
    show l.foldl _ (a * 256 + b.toNat) = a * 256 ^ (l.length + 1) + l.foldl _ (0 * 256 + b.toNat)
    rw [ih, ih, Nat.pow_succ]
    simp only [Nat.add_mul, Nat.zero_mul, Nat.zero_add, Nat.mul_assoc, Nat.add_assoc, Nat.mul_comm 256]
theorem val_append (l m : List UInt8) : val (l ++ m) = val l * 256 ^ m.length + val m := by
  show (l ++ m).foldl _ 0 = _
  rw [List.foldl_append]
  exact fold_from m (val l)
theorem val_lt (l : List UInt8) : val l < 256 ^ l.length := by
  induction l with
  | nil => simp [val_nil]
  | cons b l ih =>
    have h : val (b :: l) = b.toNat * 256 ^ l.length + val l := by
      show l.foldl _ (0 * 256 + b.toNat) = _
      rw [fold_from, Nat.zero_mul, Nat.zero_add]
    rw [h, List.length_cons, Nat.pow_succ]
    have := b.toNat_lt
    have h2 : (b.toNat + 1) * 256 ^ l.length ≤ 256 * 256 ^ l.length := Nat.mul_le_mul_right _ (by omega)
    rw [Nat.add_mul, Nat.one_mul] at h2
    rw [Nat.mul_comm _ 256]
    omega
theorem val_be : ∀ n x, val (be n x) = x % 256 ^ n
  | 0, x => by simp [be, val_nil, Nat.mod_one]
  | n + 1, x => by
    rw [be, val_snoc, val_be n, UInt8.toNat_ofNat']
    have h : x % 256 ^ (n + 1) = x % 256 + 256 * (x / 256 % 256 ^ n) := by rw [Nat.pow_succ, Nat.mul_comm, Nat.mod_mul]
    rw [h]
    show _ + x % 256 = _
    omega
theorem be_snoc (n i x : Nat) (h : i < n) : be i (x / 256 ^ (n - i)) ++ [UInt8.ofNat (x / 256 ^ (n - 1 - i))] = be (i + 1) (x / 256 ^ (n - (i + 1))) := by
  rw [be, Nat.div_div_eq_div_mul, show 256 ^ (n - (i + 1)) * 256 = 256 ^ (n - i) by rw [← Nat.pow_succ]; congr 1; omega, show n - (i + 1) = n - 1 - i by omega]

/-- A reader: what is left, and whether it has failed. -/
structure St where
  rest : List UInt8
  bad : Bool
/-- Can n bytes be taken? -/
def St.can (s : St) (n : Int) : Bool := !s.bad && decide (0 ≤ n) && decide (n ≤ (s.rest.length : Int))
def St.failed (s : St) : St := ⟨s.rest, true⟩
def St.take (s : St) (n : Int) : St := if s.can n then ⟨s.rest.drop n.toNat, false⟩ else s.failed
def St.got (s : St) (n : Int) : List UInt8 := if s.can n then s.rest.take n.toNat else []
def St.numSt (s : St) (n : Int) : St := if 1 ≤ n ∧ n ≤ 8 then s.take n else s.failed
def St.num (s : St) (n : Int) : Nat := if 1 ≤ n ∧ n ≤ 8 then val (s.got n) else 0
def St.textSt (s : St) : St := (s.numSt 1).take (s.num 1)
def St.text (s : St) : List UInt8 := (s.numSt 1).got (s.num 1)
theorem St.got_length (s : St) (n : Int) : (s.got n).length ≤ s.rest.length := by
  unfold St.got
  split
  · rw [List.length_take]; omega
  · simp
theorem St.take_length (s : St) (n : Int) : (s.take n).rest.length ≤ s.rest.length := by
  unfold St.take
  split
  · simp only [List.length_drop]; omega
  · exact Nat.le_refl _
theorem St.numSt_length (s : St) (n : Int) : (s.numSt n).rest.length ≤ s.rest.length := by
  unfold St.numSt
  split
  · exact s.take_length n
  · exact Nat.le_refl _
theorem St.textSt_length (s : St) : s.textSt.rest.length ≤ s.rest.length := Nat.le_trans (St.take_length _ _) (s.numSt_length 1)
theorem St.got_le (s : St) (n : Int) (h : n ≤ 8) : (s.got n).length ≤ 8 := by
  unfold St.got
  split
  · rw [List.length_take]; omega
  · simp
theorem St.num_lt (s : St) (n : Int) : s.num n < 18446744073709551616 := by
  unfold St.num
  split
  · rename_i h
    have h1 := val_lt (s.got n)
    have h2 : 256 ^ (s.got n).length ≤ 256 ^ 8 := Nat.pow_le_pow_right (by omega) (s.got_le n h.2)
    omega
  · omega
theorem St.num1_lt (s : St) : s.num 1 < 256 := by
  unfold St.num
  rw [if_pos (by omega)]
  have h1 := val_lt (s.got 1)
  have h3 : (s.got 1).length ≤ 1 := by
    unfold St.got
    split
    · rw [List.length_take]; omega
    · simp
  have h2 : 256 ^ (s.got 1).length ≤ 256 ^ 1 := Nat.pow_le_pow_right (by omega) h3
  omega
end Go.Proofs.Ytofnldmbokdkbaa
