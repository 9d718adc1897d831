/-
  PortWrong: what rows it makes, and why they are refused.
-/
import Derived.Test.YthkocbfioegcnaaFr14
namespace Go.Proofs.Ythkocbfioegcnaa
open Go.RowKit
set_option maxRecDepth 20000
set_option linter.unusedSimpArgs false
set_option linter.unusedVariables false

theorem bl_irrefl : ∀ l : List UInt8, Op.bytesLess l l = false
  | [] => rfl
  | a :: l => by simp [Op.bytesLess, bl_irrefl l]
theorem bl_cons {a b : UInt8} {l m : List UInt8} : Op.bytesLess (a :: l) (b :: m) = true ↔ a.toNat < b.toNat ∨ a = b ∧ Op.bytesLess l m = true := by
  simp only [Op.bytesLess, Bool.or_eq_true, Bool.and_eq_true, decide_eq_true_eq, beq_iff_eq, UInt8.lt_iff_toNat_lt]
theorem bl_trans : ∀ l m n : List UInt8, Op.bytesLess l m = true → Op.bytesLess m n = true → Op.bytesLess l n = true
  | _, [], _, h, _ => by simp [Op.bytesLess] at h
  | _, _ :: _, [], _, h => by simp [Op.bytesLess] at h
  | [], _ :: _, _ :: _, _, _ => rfl
  | a :: l, b :: m, c :: n, h1, h2 => by
    rw [bl_cons] at h1 h2 ⊢
    rcases h1 with h1 | ⟨rfl, h1⟩
    · rcases h2 with h2 | ⟨rfl, h2⟩
      · exact .inl (by omega)
      · exact .inl h1
    · rcases h2 with h2 | ⟨rfl, h2⟩
      · exact .inl h2
      · exact .inr ⟨rfl, bl_trans l m n h1 h2⟩
theorem bl_asym {a b : List UInt8} (h : Op.bytesLess a b = true) : Op.bytesLess b a = false := by
  cases e : Op.bytesLess b a with
  | false => rfl
  | true =>
    have := bl_trans _ _ _ h e
    rw [bl_irrefl] at this
    cases this

theorem less_asym {a b : Rw} (h : lessR a b = true) : lessR b a = false := by
  unfold lessR lessB at h ⊢
  by_cases e : a.t = b.t
  · rw [if_pos e] at h
    rw [if_pos e.symm]
    exact bl_asym h
  · rw [if_neg e, decide_eq_true_eq] at h
    rw [if_neg (fun h2 => e h2.symm), decide_eq_false_iff_not]
    omega
def oneB (i : Nat) : ByteArray := ⟨#[UInt8.ofNat i]⟩
def manyL (k : Nat) : List Rw := (List.range k).map fun i => ⟨0, oneB i, ⟨#[]⟩⟩
theorem manyL_length (k : Nat) : (manyL k).length = k := by simp [manyL]
theorem manyL_succ (k : Nat) : manyL (k + 1) = manyL k ++ [⟨0, oneB k, ⟨#[]⟩⟩] := by
  unfold manyL
  rw [List.range_succ, List.map_append]
  rfl
theorem manyL_last {k : Nat} {y : Rw} (h : (manyL k).getLast? = some y) : ∃ j, k = j + 1 ∧ y = ⟨0, oneB j, ⟨#[]⟩⟩ := by
  cases k with
  | zero => cases h
  | succ j =>
    rw [manyL_succ, List.getLast?_append] at h
    exact ⟨j, rfl, (Option.some.inj h).symm⟩
theorem manyL_ris : ∀ k, k ≤ 100 → Ris (manyL k)
  | 0, _ => Ris.nil
  | k + 1, h => by
    rw [manyL_succ]
    refine Ris.snoc.2 ⟨manyL_ris k (by omega), rfl, fun y hy => ?_⟩
    obtain ⟨j, rfl, rfl⟩ := manyL_last hy
    unfold lessR lessB
    rw [if_pos rfl]
    show Op.bytesLess (oneB j).toList (oneB (j + 1)).toList = true
    rw [ByteArray.toList_eq, ByteArray.toList_eq]
    show Op.bytesLess [UInt8.ofNat j] [UInt8.ofNat (j + 1)] = true
    rw [bl_cons]
    left
    rw [UInt8.toNat_ofNat', UInt8.toNat_ofNat']
    omega
theorem swap_not {l : List Rw} {k : Nat} {x y : Rw} (h : Ris l) (hx : l[k]? = some x) (hy : l[k + 1]? = some y) : ¬ Ris ((l.set k y).set (k + 1) x) := by
  intro h2
  have hlt := (List.getElem?_eq_some_iff.1 hy).1
  have h3 := chn_at h2.ch (i := k) (x := y) (y := x) (by rw [List.getElem?_set_ne (by omega), List.getElem?_set_self (by omega)]) (by rw [List.getElem?_set_self (by rw [List.length_set]; exact hlt)])
  rw [less_asym (chn_at h.ch hx hy)] at h3
  cases h3
theorem set_mem {l : List Rw} {k : Nat} {x y : Rw} (h : x ∈ l.set k y) : x ∈ l ∨ x = y := by
  rcases List.mem_or_eq_of_mem_set h with h | h
  · exact .inl h
  · exact .inr h
theorem swap_ok {l : List Rw} {k : Nat} {x y : Rw} (h : Ris l) (hx : l[k]? = some x) (hy : l[k + 1]? = some y) : ∀ z ∈ (l.set k y).set (k + 1) x, okR z = true := by
  intro z hz
  rcases set_mem hz with hz | rfl
  · rcases set_mem hz with hz | rfl
    · exact h.ok z hz
    · exact h.ok _ (List.mem_of_getElem? hy)
  · exact h.ok _ (List.mem_of_getElem? hx)
theorem ok_fits {l : List Rw} (h : ∀ z ∈ l, okR z = true) : Fits l := fun x hx => by
  have := okR_iff.1 (h x hx)
  omega
theorem not_ris {x : Rw} (h : okR x = false) : ¬ Ris [x] := fun h2 => by
  have := h2.ok x (by simp)
  rw [h] at this
  cases this
/-- One row that was just built. -/
theorem rws_one {W : World} {g c : Nat} {x : Rw} (h : Blk W g 32 #[.int .i64 x.t, .string x.k, .string x.v]) : Rws W (.slice (some ⟨g, 0, none⟩) 1 c) [x] :=
  ⟨some ⟨g, 0, none⟩, c, rfl, fun _ => ⟨g, 0, rfl, h.lt, h.lt, fun j y hj i u hu => by
    match j, hj with
    | 0, hj =>
      obtain rfl := Option.some.inj hj
      have e : 0 + 0 * rwK.m + i = i := by omega
      rw [e]
      exact h.cell i u (by rw [← hu, ← Array.getElem?_toList]; rfl)⟩⟩
theorem and15 (x : Int) : ∃ m : Nat, m < 16 ∧ bits .and .i64 x 15 = (m : Int) := and_low x 4 (by omega)
end Go.Proofs.Ythkocbfioegcnaa
