/-
  Records as data: what may be one, and its bytes.
-/
import Derived.Test.YtofnldmbokdkbaaNumber
import Derived.WalkLawsBesides
namespace Go.Proofs.Ytofnldmbokdkbaa
open Go.RowKit

set_option linter.unusedSimpArgs false
set_option linter.unusedVariables false

/-- Is it between the two? -/
def inB (x a b : Int) : Bool := decide (a ≤ x) && decide (x ≤ b)
/-- Is a text empty, or of that size? -/
def halfB (n : Int) (s : ByteArray) : Bool := decide (s.size = 0) || decide ((s.size : Int) = n)
/-- May a record tell of so many pages? -/
def dirtyB (k : Int) (n : Nat) : Bool := decide (n = 0) || (decide (k = 7) && decide (n = 6))
/-- May it be a record? -/
def rightB (k t p s : Int) (b a i : ByteArray) (n : Nat) : Bool := inB k 1 7 && inB t 0 255 && inB p 0 5 && inB s 0 4 && halfB 40 b && halfB 40 a && halfB 256 i && dirtyB k n
theorem right_ways (k t p s : Int) (b a i : ByteArray) (n : Nat) :
    (inB k 1 7 = false ∧ rightB k t p s b a i n = false) ∨ (inB k 1 7 = true ∧ inB t 0 255 = false ∧ rightB k t p s b a i n = false) ∨
    (inB k 1 7 = true ∧ inB t 0 255 = true ∧ inB p 0 5 = false ∧ rightB k t p s b a i n = false) ∨
    (inB k 1 7 = true ∧ inB t 0 255 = true ∧ inB p 0 5 = true ∧ inB s 0 4 = false ∧ rightB k t p s b a i n = false) ∨
    (inB k 1 7 = true ∧ inB t 0 255 = true ∧ inB p 0 5 = true ∧ inB s 0 4 = true ∧ halfB 40 b = false ∧ rightB k t p s b a i n = false) ∨
    (inB k 1 7 = true ∧ inB t 0 255 = true ∧ inB p 0 5 = true ∧ inB s 0 4 = true ∧ halfB 40 b = true ∧ halfB 40 a = false ∧ rightB k t p s b a i n = false) ∨
    (inB k 1 7 = true ∧ inB t 0 255 = true ∧ inB p 0 5 = true ∧ inB s 0 4 = true ∧ halfB 40 b = true ∧ halfB 40 a = true ∧ halfB 256 i = false ∧ rightB k t p s b a i n = false) ∨
    (inB k 1 7 = true ∧ inB t 0 255 = true ∧ inB p 0 5 = true ∧ inB s 0 4 = true ∧ halfB 40 b = true ∧ halfB 40 a = true ∧ halfB 256 i = true ∧ dirtyB k n = rightB k t p s b a i n) := by
  unfold rightB
  cases inB k 1 7 <;> simp
  cases inB t 0 255 <;> simp
  cases inB p 0 5 <;> simp
  cases inB s 0 4 <;> simp
  cases halfB 40 b <;> simp
  cases halfB 40 a <;> simp
  cases halfB 256 i <;> simp

/-- Numbers as cells hold them. -/
def u64s (l : List Nat) : List Value := l.map fun (x : Nat) => .int .u64 (x : Int)
theorem u64s_length (l : List Nat) : (u64s l).length = l.length := List.length_map ..
theorem u64s_get (l : List Nat) (j : Nat) (h : j < l.length) : (u64s l)[j]? = some (.int .u64 (l[j] : Int)) := by simp [u64s, h]
theorem u64s_append (a b : List Nat) : u64s (a ++ b) = u64s a ++ u64s b := List.map_append ..
/-- A record. -/
structure Rc where
  k : Nat
  t : Nat
  p : Nat
  s : Nat
  b : ByteArray
  a : ByteArray
  i : ByteArray
  ds : List Nat
def Rc.right (r : Rc) : Bool := rightB r.k r.t r.p r.s r.b r.a r.i r.ds.length && r.ds.all fun x => decide (x < 18446744073709551616)
/-- As cells, the slice told. -/
def Rc.cells (r : Rc) (D : Value) : Array Value := #[.int .i64 (r.k : Int), .int .i64 (r.t : Int), .int .i64 (r.p : Int), .int .i64 (r.s : Int), .string r.b, .string r.a, .string r.i, D]
/-- Numbers, eight bytes each. -/
def eights (l : List Nat) : List UInt8 := l.flatMap (be 8)
theorem eights_length (l : List Nat) : (eights l).length = 8 * l.length := by
  induction l with
  | nil => rfl
  | cons x l ih => show (be 8 x ++ eights l).length = _; rw [List.length_append, be_length, ih, List.length_cons]; omega
theorem eights_snoc (l : List Nat) (x : Nat) : eights (l ++ [x]) = eights l ++ be 8 x := by simp [eights]
theorem eights_take (l : List Nat) (j : Nat) (h : j < l.length) : eights (l.take (j + 1)) = eights (l.take j) ++ be 8 l[j] := by
  rw [List.take_succ_eq_append_getElem h, eights_snoc]
/-- A text and its length ahead of it. -/
def txt (s : ByteArray) : List UInt8 := UInt8.ofNat s.size :: s.data.toList
theorem txt_length (s : ByteArray) : (txt s).length = s.size + 1 := by simp [txt]
/-- What stands in a frame behind its length. -/
def Rc.said (r : Rc) : List UInt8 := [UInt8.ofNat r.k, UInt8.ofNat r.t, UInt8.ofNat r.p, UInt8.ofNat r.s] ++ txt r.b ++ txt r.a ++ be 2 r.i.size ++ r.i.data.toList ++ [UInt8.ofNat r.ds.length] ++ eights r.ds
def Rc.frame (r : Rc) : List UInt8 := be 2 r.said.length ++ r.said
theorem size_data (s : ByteArray) : s.data.toList.length = s.size := Array.length_toList
theorem Rc.said_length (r : Rc) : r.said.length = 9 + r.b.size + r.a.size + r.i.size + 8 * r.ds.length := by
  unfold Rc.said
  simp only [List.length_append, txt_length, be_length, eights_length, size_data, List.length_cons, List.length_nil]
  omega
theorem Rc.frame_length (r : Rc) : r.frame.length = 11 + r.b.size + r.a.size + r.i.size + 8 * r.ds.length := by
  unfold Rc.frame
  rw [List.length_append, be_length, r.said_length]
  omega
/-- What a record that may be has. -/
structure Rc.Ok (r : Rc) : Prop where
  k : 1 ≤ r.k ∧ r.k ≤ 7
  t : r.t ≤ 255
  p : r.p ≤ 5
  s : r.s ≤ 4
  b : r.b.size = 0 ∨ r.b.size = 40
  a : r.a.size = 0 ∨ r.a.size = 40
  i : r.i.size = 0 ∨ r.i.size = 256
  d : r.ds.length = 0 ∨ (r.k = 7 ∧ r.ds.length = 6)
  u : ∀ x ∈ r.ds, x < 18446744073709551616
theorem Rc.right_iff (r : Rc) : r.right = true ↔ r.Ok := by
  unfold Rc.right rightB inB halfB dirtyB
  simp only [Bool.and_eq_true, Bool.or_eq_true, decide_eq_true_eq, List.all_eq_true]
  constructor
  · rintro ⟨⟨⟨⟨⟨⟨⟨⟨h1, h2⟩, h3⟩, h4⟩, h5⟩, h6⟩, h7⟩, h8⟩, h9⟩
    exact ⟨by omega, by omega, by omega, by omega, by omega, by omega, by omega, by omega, h9⟩
  · rintro ⟨h1, h2, h3, h4, h5, h6, h7, h8, h9⟩
    exact ⟨⟨⟨⟨⟨⟨⟨⟨by omega, by omega⟩, by omega⟩, by omega⟩, by omega⟩, by omega⟩, by omega⟩, by omega⟩, h9⟩
theorem Rc.Ok.rightB {r : Rc} (h : r.Ok) : rightB r.k r.t r.p r.s r.b r.a r.i r.ds.length = true := by
  have := (Rc.right_iff r).2 h
  unfold Rc.right at this
  rw [Bool.and_eq_true] at this
  exact this.1
theorem Rc.Ok.most {r : Rc} (h : r.Ok) : r.frame.length ≤ 395 := by
  obtain ⟨_, _, _, _, h5, h6, h7, h8, _⟩ := h
  rw [r.frame_length]
  omega
end Go.Proofs.Ytofnldmbokdkbaa
