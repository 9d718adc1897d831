/-
  A list in which each name comes once, and what a map has of it; what an index has when such a list was put into it, in any order.
-/
import Derived.Test.YtkcomkllnhdohaaLoop9
namespace Go.Proofs.Ytkcomkllnhdohaa
open Go.RowKit
set_option linter.unusedSimpArgs false
set_option linter.unusedVariables false

/-- The map has just the items of l, each under its name. -/
structure LO (f : ByteArray → Option It) (c : Nat) (l : List It) (n : Nat) : Prop where
  mem : ∀ s x, f s = some x ↔ x ∈ l ∧ nm x = s
  len : l.length = c
  inn : ∀ x ∈ l, x.In
  few : c ≤ n
  pos : 0 < n → 0 < l.length
theorem LO.nil : LO (fun _ => none) 0 [] 0 := ⟨fun s x => ⟨fun h => (nomatch h), fun h => (nomatch h.1)⟩, rfl, fun x h => (nomatch h), Nat.le_refl _, fun h => absurd h (Nat.lt_irrefl _)⟩
theorem LO.skip {f : ByteArray → Option It} {c n : Nat} {l : List It} (h : LO f c l n) {s : ByteArray} (hs : (f s).isSome = true) : LO f c l (n + 1) := by
  refine ⟨h.mem, h.len, h.inn, Nat.le_succ_of_le h.few, fun _ => ?_⟩
  obtain ⟨x, hx⟩ := Option.isSome_iff_exists.1 hs
  exact List.length_pos_of_mem ((h.mem _ _).1 hx).1
theorem LO.put {f : ByteArray → Option It} {c n : Nat} {l : List It} (h : LO f c l n) {x : It} (hx : x.In) (hs : (f (nm x)).isSome = false) : LO (fun t => if t = nm x then some x else f t) (if (f (nm x)).isSome then c else c + 1) (l ++ [x]) (n + 1) := by
  have hn : f (nm x) = none := by
    cases e : f (nm x) with
    | none => rfl
    | some y => rw [e] at hs; cases hs
  refine ⟨fun s y => ?_, ?_, fun y hy => ?_, ?_, fun _ => by simp⟩
  · by_cases e : s = nm x
    · rw [if_pos e]
      constructor
      · intro h1
        obtain rfl := Option.some.inj h1
        exact ⟨by simp, e.symm⟩
      · rintro ⟨h1, h2⟩
        rw [List.mem_append] at h1
        rcases h1 with h1 | h1
        · have := (h.mem s y).2 ⟨h1, h2⟩
          rw [e, hn] at this
          cases this
        · rw [List.mem_singleton] at h1
          rw [h1]
    · rw [if_neg e, h.mem]
      constructor
      · rintro ⟨h1, h2⟩
        exact ⟨List.mem_append_left _ h1, h2⟩
      · rintro ⟨h1, h2⟩
        rw [List.mem_append] at h1
        rcases h1 with h1 | h1
        · exact ⟨h1, h2⟩
        · rw [List.mem_singleton] at h1
          rw [h1] at h2
          exact absurd h2.symm e
  · rw [hs, List.length_append, h.len]
    rfl
  · rw [List.mem_append, List.mem_singleton] at hy
    rcases hy with hy | rfl
    · exact h.inn y hy
    · exact hx
  · rw [hs]
    have := h.few
    show c + 1 ≤ n + 1
    omega
/-- What was put of l by then: those at the places p 0, .. -/
def Got (f : ByteArray → Option It) (l : List It) (p : Nat → Nat) (j : Nat) : Prop := ∀ s x, f s = some x ↔ (∃ i, i < j ∧ l[p i]? = some x) ∧ nm x = s
theorem Got.zero {l : List It} {p : Nat → Nat} : Got (fun _ => none) l p 0 := fun s x => ⟨fun h => (nomatch h), fun ⟨⟨i, h, _⟩, _⟩ => absurd h (Nat.not_lt_zero _)⟩
theorem Got.next {f0 f : ByteArray → Option It} {c n : Nat} {l : List It} (h0 : LO f0 c l n) {p : Nat → Nat} {j : Nat} (h : Got f l p j) {y : It} (hy : l[p j]? = some y) : Got (fun t => if t = nm y then some y else f t) l p (j + 1) := by
  intro s x
  dsimp only
  have hm : ∀ {i : Nat} {a : It}, l[i]? = some a → a ∈ l := fun e => List.mem_of_getElem? e
  by_cases e : s = nm y
  · rw [if_pos e]
    constructor
    · intro h1
      obtain rfl := Option.some.inj h1
      exact ⟨⟨j, Nat.lt_succ_self _, hy⟩, e.symm⟩
    · rintro ⟨⟨i, hi, h1⟩, h2⟩
      have e1 := (h0.mem s x).2 ⟨hm h1, h2⟩
      have e2 := (h0.mem s y).2 ⟨hm hy, e.symm⟩
      rw [e1] at e2
      exact e2.symm
  · rw [if_neg e, h s x]
    constructor
    · rintro ⟨⟨i, hi, h1⟩, h2⟩
      exact ⟨⟨i, Nat.lt_succ_of_lt hi, h1⟩, h2⟩
    · rintro ⟨⟨i, hi, h1⟩, h2⟩
      rcases Nat.lt_or_ge i j with hij | hij
      · exact ⟨⟨i, hij, h1⟩, h2⟩
      · obtain rfl : i = j := by omega
        rw [hy] at h1
        obtain rfl := Option.some.inj h1
        exact absurd h2.symm e
/-- All of l was put: the index has what 'sorted' makes of the map. -/
theorem got_all {f0 f1 : ByteArray → Option It} {c c1 n : Nat} {l xs ys : List It} (h0 : LO f0 c l n) (t0 : TieI f0 c xs) (t1 : TieI f1 c1 ys) {p : Nat → Nat} (h : Got f1 l p l.length) (hp : ∀ k, k < l.length → ∃ i, i < l.length ∧ p i = k) : ys = xs := by
  refine t0.one (c' := c1) t1.srt (fun x => ?_)
  rw [t1.mem, h, h0.mem]
  constructor
  · rintro ⟨⟨i, _, h1⟩, h2⟩
    exact ⟨List.mem_of_getElem? h1, h2⟩
  · rintro ⟨h1, h2⟩
    obtain ⟨k, hk, e⟩ := List.mem_iff_getElem.1 h1
    obtain ⟨i, hi, e2⟩ := hp k hk
    exact ⟨⟨i, hi, by rw [e2, List.getElem?_eq_getElem hk, e]⟩, h2⟩
theorem turn_all {n t : Nat} (ht : t < n) : ∀ k, k < n → ∃ i, i < n ∧ (i + t) % n = k := by
  intro k hk
  rcases Nat.lt_or_ge k t with h | h
  · refine ⟨k + n - t, by omega, ?_⟩
    rw [show k + n - t + t = k + n by omega, Nat.add_mod_right, Nat.mod_eq_of_lt hk]
  · refine ⟨k - t, by omega, ?_⟩
    rw [Nat.sub_add_cancel h, Nat.mod_eq_of_lt hk]
/-- (turn%n + n) % n. -/
theorem turn_low (x : Int) {n : Nat} (hn : 0 < n) (hn2 : n ≤ 200) : ∃ t : Nat, t < n ∧ Int.tmod (Int.tmod x (n : Int) + (n : Int)) (n : Int) = (t : Int) ∧ -200 ≤ Int.tmod x (n : Int) ∧ Int.tmod x (n : Int) ≤ 200 := by
  have h1 := Int.lt_tmod_of_pos x (b := (n : Int)) (by omega)
  have h2 := Int.tmod_lt_of_pos x (b := (n : Int)) (by omega)
  have h3 := Int.tmod_nonneg (a := Int.tmod x (n : Int) + (n : Int)) (n : Int) (by omega)
  have h4 := Int.tmod_lt_of_pos (Int.tmod x (n : Int) + (n : Int)) (b := (n : Int)) (by omega)
  exact ⟨(Int.tmod (Int.tmod x (n : Int) + (n : Int)) (n : Int)).toNat, by omega, by omega, by omega, by omega⟩
theorem turn_at (j t : Nat) {n : Nat} (hn : 0 < n) : Int.tmod ((j : Int) + (t : Int)) (n : Int) = (((j + t) % n : Nat) : Int) := by
  rw [Int.tmod_eq_emod_of_nonneg (by omega)]
  rfl
end Go.Proofs.Ytkcomkllnhdohaa
