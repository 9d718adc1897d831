/-
  A map from names (a table's byte, then the key) to items, and the ordered list of the same items, side by side.
-/
import Derived.Test.YtkcomkllnhdohaaSrt
namespace Go.Proofs.Ytkcomkllnhdohaa
open Go.RowKit
set_option maxRecDepth 20000
set_option linter.unusedSimpArgs false
set_option linter.unusedVariables false

/-- An item's name. -/
def nm (x : It) : ByteArray := ⟨#[UInt8.ofNat x.t.toNat] ++ x.key.data⟩
def It.In (x : It) : Prop := 0 ≤ x.t ∧ x.t < 4
theorem nm_same {a b : It} (ha : a.In) (hb : b.In) : nm a = nm b ↔ a.same b := by
  unfold nm It.same
  constructor
  · intro h
    injection h with h
    have h2 := congrArg Array.toList h
    simp only [Array.toList_append, List.cons_append, List.nil_append, List.cons.injEq] at h2
    obtain ⟨h3, h4⟩ := h2
    refine ⟨?_, ByteArray.ext (Array.toList_inj.1 h4)⟩
    have h5 := congrArg UInt8.toNat h3
    rw [UInt8.toNat_ofNat', UInt8.toNat_ofNat'] at h5
    have := ha.1; have := ha.2; have := hb.1; have := hb.2
    omega
  · rintro ⟨h1, h2⟩
    rw [h1, h2]
def itS (a b : It) : Bool := decide (a.t = b.t) && decide (a.key = b.key)
theorem itS_iff {a b : It} : itS a b = true ↔ a.same b := by simp [itS, It.same]
theorem itS_nm {a b : It} (ha : a.In) (hb : b.In) : itS a b = decide (nm a = nm b) := by
  rw [Bool.eq_iff_iff, itS_iff, decide_eq_true_eq, nm_same ha hb]
/-- An item in the place of that of its key; an item's key taken out; the item of a key. -/
def putL (x : It) (xs : List It) : List It := ins x (xs.filter (fun a => !itS a x))
def delL (y : It) (xs : List It) : List It := xs.filter (fun a => !itS a y)
theorem srt_filter {l : List It} (h : Srt l) (p : It → Bool) : Srt (l.filter p) := h.filter p
structure TieI (f : ByteArray → Option It) (c : Nat) (xs : List It) : Prop where
  srt : Srt xs
  mem : ∀ x, x ∈ xs ↔ f (nm x) = some x
  key : ∀ s x, f s = some x → nm x = s ∧ x.In
  len : xs.length = c
section
variable {f : ByteArray → Option It} {c : Nat} {xs : List It}
theorem TieI.nil : TieI (fun _ => none) 0 [] := ⟨List.Pairwise.nil, fun x => by simp, (fun s x h => by cases h), rfl⟩
theorem TieI.inb (h : TieI f c xs) {x : It} (hx : x ∈ xs) : x.In := (h.key _ _ ((h.mem x).1 hx)).2
/-- One list alone stands beside a map. -/
theorem TieI.one {c' : Nat} {ys : List It} (h : TieI f c xs) (k : Srt ys) (hm : ∀ x, x ∈ ys ↔ f (nm x) = some x) : ys = xs := srt_eq k h.srt (fun x => (hm x).trans (h.mem x).symm)
/-- How many of a list have one key. -/
theorem any_same {l : List It} {y : It} : l.any (fun a => itS a y) = true ↔ ∃ a ∈ l, a.same y := by
  rw [List.any_eq_true]
  constructor
  · rintro ⟨a, h1, h2⟩
    exact ⟨a, h1, itS_iff.1 h2⟩
  · rintro ⟨a, h1, h2⟩
    exact ⟨a, h1, itS_iff.2 h2⟩
theorem drop_one : ∀ {l : List It} {y : It}, Srt l → (l.filter (fun a => !itS a y)).length + (if l.any (fun a => itS a y) = true then 1 else 0) = l.length
  | [], y, _ => by simp
  | a :: l, y, h => by
    obtain ⟨ha, hl⟩ := List.pairwise_cons.1 h
    have ih := drop_one (y := y) hl
    cases hs : itS a y
    · rw [List.filter_cons_of_pos (by rw [hs]; rfl), List.length_cons, List.length_cons, List.any_cons, hs, Bool.false_or]
      omega
    · have hsy := itS_iff.1 hs
      have hno : ¬ l.any (fun a => itS a y) = true := by
        rw [any_same]
        rintro ⟨b, hb, hby⟩
        have h1 := ha b hb
        rw [itB_iff, hsy.1, hsy.2, hby.1, hby.2, bl_irrefl] at h1
        rcases h1 with h1 | h1
        · omega
        · cases h1.2
      rw [if_neg hno] at ih
      rw [List.filter_cons_of_neg (by rw [hs]; decide), List.any_cons, hs, Bool.true_or, if_pos rfl, List.length_cons]
      omega
theorem TieI.some_iff (h : TieI f c xs) {y : It} (hy : y.In) : (f (nm y)).isSome = true ↔ ∃ a ∈ xs, a.same y := by
  constructor
  · intro hs
    obtain ⟨a, ha⟩ := Option.isSome_iff_exists.1 hs
    obtain ⟨h1, h2⟩ := h.key _ _ ha
    exact ⟨a, (h.mem a).2 (by rw [h1]; exact ha), (nm_same h2 hy).1 h1⟩
  · rintro ⟨a, ha, hs⟩
    have := (h.mem a).1 ha
    rw [(nm_same (h.inb ha) hy).2 hs] at this
    rw [this]
    rfl
theorem mem_delL {y : It} {x : It} : x ∈ delL y xs ↔ x ∈ xs ∧ ¬ x.same y := by
  unfold delL
  rw [List.mem_filter]
  constructor
  · rintro ⟨h1, h2⟩
    refine ⟨h1, fun hs => ?_⟩
    rw [itS_iff.2 hs] at h2
    cases h2
  · rintro ⟨h1, h2⟩
    refine ⟨h1, ?_⟩
    cases e : itS x y
    · rfl
    · exact absurd (itS_iff.1 e) h2
theorem TieI.del (h : TieI f c xs) {y : It} (hy : y.In) : TieI (fun t => if t = nm y then none else f t) (if (f (nm y)).isSome then c - 1 else c) (delL y xs) := by
  have hone := drop_one (y := y) h.srt
  refine ⟨srt_filter h.srt _, fun x => ?_, fun s x hs => ?_, ?_⟩
  · rw [mem_delL]
    constructor
    · rintro ⟨h1, h2⟩
      show (if nm x = nm y then none else f (nm x)) = some x
      rw [if_neg (fun e => h2 ((nm_same (h.inb h1) hy).1 e))]
      exact (h.mem x).1 h1
    · intro h1
      have h1 : (if nm x = nm y then none else f (nm x)) = some x := h1
      split at h1
      · cases h1
      · rename_i hne
        have hx := (h.mem x).2 h1
        exact ⟨hx, fun e => hne ((nm_same (h.inb hx) hy).2 e)⟩
  · have hs : (if s = nm y then none else f s) = some x := hs
    split at hs
    · cases hs
    · exact h.key s x hs
  · have hl := h.len
    show (xs.filter _).length = _
    by_cases e : (f (nm y)).isSome = true
    · rw [if_pos e]
      rw [if_pos (any_same.2 ((h.some_iff hy).1 e))] at hone
      omega
    · rw [if_neg e]
      rw [if_neg (fun e2 => e ((h.some_iff hy).2 (any_same.1 e2)))] at hone
      omega
theorem TieI.put (h : TieI f c xs) {x : It} (hx : x.In) : TieI (fun t => if t = nm x then some x else f t) (if (f (nm x)).isSome then c else c + 1) (putL x xs) := by
  have hd := h.del hx
  have hm : ∀ z, z ∈ putL x xs ↔ z = x ∨ z ∈ delL x xs := fun z => mem_ins
  refine ⟨srt_ins hd.srt (fun a ha => (mem_delL.1 ha).2), fun z => ?_, fun s z hs => ?_, ?_⟩
  · rw [hm, mem_delL]
    constructor
    · rintro (rfl | ⟨h1, h2⟩)
      · exact if_pos rfl
      · show (if nm z = nm x then some x else f (nm z)) = some z
        rw [if_neg (fun e => h2 ((nm_same (h.inb h1) hx).1 e))]
        exact (h.mem z).1 h1
    · intro h1
      have h1 : (if nm z = nm x then some x else f (nm z)) = some z := h1
      split at h1
      · exact .inl (Option.some.inj h1).symm
      · rename_i hne
        have hz := (h.mem z).2 h1
        exact .inr ⟨hz, fun e => hne ((nm_same (h.inb hz) hx).2 e)⟩
  · have hs : (if s = nm x then some x else f s) = some z := hs
    split at hs
    · rename_i e
      obtain rfl := Option.some.inj hs
      exact ⟨e.symm, hx⟩
    · exact h.key s z hs
  · show (ins x (delL x xs)).length = _
    rw [ins_length, hd.len]
    by_cases e : (f (nm x)).isSome = true
    · rw [if_pos e, if_pos e]
      obtain ⟨a, ha, _⟩ := (h.some_iff hx).1 e
      have := List.length_pos_of_mem ha
      have := h.len
      omega
    · rw [if_neg e, if_neg e]
/-- What Find tells. -/
theorem TieI.find (h : TieI f c xs) {y : It} (hy : y.In) : f (nm y) = xs.find? (fun a => itS a y) := by
  cases hf : xs.find? (fun a => itS a y) with
  | none =>
    cases hs : f (nm y) with
    | none => rfl
    | some a =>
      obtain ⟨b, hb, hby⟩ := (h.some_iff hy).1 (by rw [hs]; rfl)
      have := List.find?_eq_none.1 hf b hb
      exact absurd (itS_iff.2 hby) this
  | some a =>
    have h1 := List.mem_of_find?_eq_some hf
    have h2 : itS a y = true := by simpa using List.find?_some hf
    have := (h.mem a).1 h1
    rw [(nm_same (h.inb h1) hy).2 (itS_iff.1 h2)] at this
    exact this
end
end Go.Proofs.Ytkcomkllnhdohaa
