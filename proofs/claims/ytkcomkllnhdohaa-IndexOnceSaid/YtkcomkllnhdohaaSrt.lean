/-
  Items in order: by table, then key; ordered lists, insertion, and that two ordered lists of the same items are one.
-/
import Derived.Test.YtkcomkllnhdohaaItsOwn
namespace Go.Proofs.Ytkcomkllnhdohaa
open Go.RowKit
set_option maxRecDepth 20000
set_option linter.unusedSimpArgs false
set_option linter.unusedVariables false

theorem bl_irrefl : ∀ l : List UInt8, Op.bytesLess l l = false
  | [] => rfl
  | a :: l => by simp [Op.bytesLess, bl_irrefl l]
theorem bl_cons {a b : UInt8} {l m : List UInt8} : Op.bytesLess (a :: l) (b :: m) = true ↔ a.toNat < b.toNat ∨ a = b ∧ Op.bytesLess l m = true := by
  simp only [Op.bytesLess, Bool.or_eq_true, Bool.and_eq_true, decide_eq_true_eq, beq_iff_eq, UInt8.lt_iff_toNat_lt]
theorem bl_trans : ∀ l m n : List UInt8, Op.bytesLess l m = true → Op.bytesLess m n = true → Op.bytesLess l n = true
  | _, [], _, h, _ => by simp [Op.bytesLess] at h
  | _, _ :: _, [], _, h => by simp [Op.bytesLess] at h
  | [], _ :: _, _ :: _, _, _ => rfl
  | a :: l, b :: m, c :: n, h1, h2 => by
    rw [bl_cons] at h1 h2 ⊢
    rcases h1 with h1 | ⟨rfl, h1⟩
    · rcases h2 with h2 | ⟨rfl, h2⟩
      · exact .inl (by omega)
      · exact .inl h1
    · rcases h2 with h2 | ⟨rfl, h2⟩
      · exact .inl h2
      · exact .inr ⟨rfl, bl_trans l m n h1 h2⟩
theorem bl_total : ∀ l m : List UInt8, l = m ∨ Op.bytesLess l m = true ∨ Op.bytesLess m l = true
  | [], [] => .inl rfl
  | [], _ :: _ => .inr (.inl rfl)
  | _ :: _, [] => .inr (.inr rfl)
  | a :: l, b :: m => by
    rw [bl_cons, bl_cons]
    rcases Nat.lt_trichotomy a.toNat b.toNat with h | h | h
    · exact .inr (.inl (.inl h))
    · obtain rfl := UInt8.toNat_inj.1 h
      rcases bl_total l m with rfl | h1 | h1
      · exact .inl rfl
      · exact .inr (.inl (.inr ⟨rfl, h1⟩))
      · exact .inr (.inr (.inr ⟨rfl, h1⟩))
    · exact .inr (.inr (.inl h))
theorem bytes_inj {x y : ByteArray} (h : x.toList = y.toList) : x = y := by
  rw [Lib.toList_data, Lib.toList_data] at h
  exact ByteArray.ext (Array.toList_inj.1 h)
/-- a comes ahead of b. -/
def itB (a b : It) : Bool := decide (a.t < b.t) || (a.t == b.t && Op.bytesLess a.key.toList b.key.toList)
def It.same (a b : It) : Prop := a.t = b.t ∧ a.key = b.key
theorem itB_iff {a b : It} : itB a b = true ↔ a.t < b.t ∨ a.t = b.t ∧ Op.bytesLess a.key.toList b.key.toList = true := by
  unfold itB
  simp only [Bool.or_eq_true, Bool.and_eq_true, decide_eq_true_eq, beq_iff_eq]
theorem itB_irrefl (a : It) : itB a a = false := by
  cases h : itB a a
  · rfl
  · rw [itB_iff, bl_irrefl] at h
    rcases h with h | h
    · omega
    · cases h.2
theorem itB_trans {a b c : It} (h1 : itB a b = true) (h2 : itB b c = true) : itB a c = true := by
  rw [itB_iff] at h1 h2 ⊢
  rcases h1 with h1 | ⟨e1, h1⟩
  · rcases h2 with h2 | ⟨e2, h2⟩
    · exact .inl (by omega)
    · exact .inl (by omega)
  · rcases h2 with h2 | ⟨e2, h2⟩
    · exact .inl (by omega)
    · exact .inr ⟨by omega, bl_trans _ _ _ h1 h2⟩
theorem itB_total (a b : It) : a.same b ∨ itB a b = true ∨ itB b a = true := by
  rw [itB_iff, itB_iff]
  rcases Int.lt_trichotomy a.t b.t with h | h | h
  · exact .inr (.inl (.inl h))
  · rcases bl_total a.key.toList b.key.toList with h1 | h1 | h1
    · exact .inl ⟨h, bytes_inj h1⟩
    · exact .inr (.inl (.inr ⟨h, h1⟩))
    · exact .inr (.inr (.inr ⟨h.symm, h1⟩))
  · exact .inr (.inr (.inl h))
theorem itB_asymm {a b : It} (h : itB a b = true) : itB b a = false := by
  cases h2 : itB b a
  · rfl
  · have := itB_trans h h2
    rw [itB_irrefl] at this
    cases this
/-- In order, each key once. -/
abbrev Srt (l : List It) : Prop := l.Pairwise (fun a b => itB a b = true)
/-- The same items, in order: one list. -/
theorem srt_eq : ∀ {l m : List It}, Srt l → Srt m → (∀ x, x ∈ l ↔ x ∈ m) → l = m
  | [], [], _, _, _ => rfl
  | [], b :: m, _, _, h => absurd ((h b).2 (List.mem_cons_self ..)) (by simp)
  | a :: l, [], _, _, h => absurd ((h a).1 (List.mem_cons_self ..)) (by simp)
  | a :: l, b :: m, h1, h2, h => by
    obtain ⟨ha, hl⟩ := List.pairwise_cons.1 h1
    obtain ⟨hb, hm⟩ := List.pairwise_cons.1 h2
    have e : a = b := by
      rcases List.mem_cons.1 ((h a).1 (List.mem_cons_self ..)) with h3 | h3
      · exact h3
      · rcases List.mem_cons.1 ((h b).2 (List.mem_cons_self ..)) with h4 | h4
        · exact h4.symm
        · have := itB_asymm (ha b h4)
          rw [hb a h3] at this
          cases this
    subst e
    rw [srt_eq hl hm (fun x => ?_)]
    constructor
    · intro hx
      rcases List.mem_cons.1 ((h x).1 (List.mem_cons_of_mem _ hx)) with h3 | h3
      · subst h3
        have := ha x hx
        rw [itB_irrefl] at this
        cases this
      · exact h3
    · intro hx
      rcases List.mem_cons.1 ((h x).2 (List.mem_cons_of_mem _ hx)) with h3 | h3
      · subst h3
        have := hb x hx
        rw [itB_irrefl] at this
        cases this
      · exact h3
/-- Laid in its place. -/
def ins (x : It) : List It → List It
  | [] => [x]
  | a :: l => if itB x a = true then x :: a :: l else a :: ins x l
theorem mem_ins {x y : It} : ∀ {l : List It}, y ∈ ins x l ↔ y = x ∨ y ∈ l
  | [] => by simp [ins]
  | a :: l => by
    unfold ins
    split
    · simp
    · rw [List.mem_cons, mem_ins (l := l), List.mem_cons]
      constructor
      · rintro (h | h | h)
        · exact .inr (.inl h)
        · exact .inl h
        · exact .inr (.inr h)
      · rintro (h | h | h)
        · exact .inr (.inl h)
        · exact .inl h
        · exact .inr (.inr h)
theorem ins_length (x : It) : ∀ l : List It, (ins x l).length = l.length + 1
  | [] => rfl
  | a :: l => by
    unfold ins
    split
    · rfl
    · rw [List.length_cons, ins_length x l, List.length_cons]
theorem srt_ins {x : It} : ∀ {l : List It}, Srt l → (∀ a ∈ l, ¬ a.same x) → Srt (ins x l)
  | [], _, _ => List.pairwise_singleton _ _
  | a :: l, h, hd => by
    obtain ⟨ha, hl⟩ := List.pairwise_cons.1 h
    unfold ins
    split
    · rename_i hx
      refine List.pairwise_cons.2 ⟨fun y hy => ?_, h⟩
      rcases List.mem_cons.1 hy with rfl | hy
      · exact hx
      · exact itB_trans hx (ha y hy)
    · rename_i hx
      refine List.pairwise_cons.2 ⟨fun y hy => ?_, srt_ins hl (fun b hb => hd b (List.mem_cons_of_mem _ hb))⟩
      rcases mem_ins.1 hy with rfl | hy
      · rcases itB_total a y with h1 | h1 | h1
        · exact absurd h1 (hd a (List.mem_cons_self ..))
        · exact h1
        · exact absurd h1 hx
      · exact ha y hy
/-- x between what isn't behind it and what is. -/
theorem ins_at {x : It} : ∀ {l : List It} {k : Nat}, Srt l → k ≤ l.length → (∀ a ∈ l.drop k, itB x a = true) → (∀ a ∈ l.take k, itB x a = false) → l.take k ++ x :: l.drop k = ins x l
  | [], k, _, hk, _, _ => by
    obtain rfl : k = 0 := by simpa using hk
    rfl
  | a :: l, 0, _, _, h, _ => by
    have := h a (by simp)
    unfold ins
    rw [if_pos this]
    rfl
  | a :: l, k + 1, hs, hk, h1, h2 => by
    have h3 := h2 a (by simp)
    unfold ins
    rw [if_neg (by rw [h3]; decide)]
    show a :: (l.take k ++ x :: l.drop k) = _
    rw [ins_at (List.pairwise_cons.1 hs).2 (by simpa using hk) (fun b hb => h1 b (by simpa using hb)) (fun b hb => h2 b (by simp [hb]))]
/-- It is enough that the last one ahead isn't behind it. -/
theorem ins_here {x : It} {l : List It} {k : Nat} (hs : Srt l) (hk : k ≤ l.length) (h1 : ∀ a ∈ l.drop k, itB x a = true) (h2 : ∀ a, 0 < k → l[k - 1]? = some a → itB x a = false) : l.take k ++ x :: l.drop k = ins x l := by
  refine ins_at hs hk h1 (fun a ha => ?_)
  obtain ⟨j, hj, e⟩ := List.getElem_of_mem ha
  rw [List.length_take] at hj
  rw [List.getElem_take] at e
  have hk0 : 0 < k := by omega
  have hl : k - 1 < l.length := by omega
  have hb := h2 l[k - 1] hk0 (List.getElem?_eq_getElem hl)
  rcases Nat.lt_or_ge j (k - 1) with h | h
  · have := List.pairwise_iff_getElem.1 hs j (k - 1) (by omega) hl h
    rw [e] at this
    cases h4 : itB x a
    · rfl
    · rw [itB_trans h4 this] at hb
      cases hb
  · obtain rfl : j = k - 1 := by omega
    rw [e] at hb
    exact hb
/-- An exchange on the way down. -/
theorem swap_down {x a : It} {l : List It} {k : Nat} (hk : k < l.length) (ha : l[k]? = some a) : ((l.take (k + 1) ++ x :: l.drop (k + 1)).set k x).set (k + 1) a = l.take k ++ x :: l.drop k := by
  have hlk : (l.take k).length = k := by rw [List.length_take]; omega
  have e1 : l.take (k + 1) = l.take k ++ [a] := by rw [List.take_add_one, ha]; rfl
  have e2 : l.drop k = a :: l.drop (k + 1) := by
    rw [List.drop_eq_getElem_cons hk]
    rw [List.getElem?_eq_getElem hk] at ha
    rw [Option.some.inj ha]
  rw [e1, e2, List.append_assoc, List.set_append_right _ _ (by omega), List.set_append_right _ _ (by omega), hlk, Nat.sub_self, show k + 1 - k = 1 by omega]
  rfl
end Go.Proofs.Ytkcomkllnhdohaa
