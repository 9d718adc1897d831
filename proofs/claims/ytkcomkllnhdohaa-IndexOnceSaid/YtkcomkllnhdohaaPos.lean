/-
  Where an item's key stands in an ordered list: what is found there, put there, taken out there.
-/
import Derived.Test.YtkcomkllnhdohaaFirst
namespace Go.Proofs.Ytkcomkllnhdohaa
open Go.RowKit
set_option maxRecDepth 20000
set_option linter.unusedSimpArgs false
set_option linter.unusedVariables false

theorem cnt_split {q : It → Bool} : ∀ {xs : List It}, (xs.Pairwise fun a b => q a = true → q b = true) → (∀ a ∈ xs.take (cnt q xs), q a = false) ∧ (∀ a ∈ xs.drop (cnt q xs), q a = true)
  | [], _ => ⟨fun a h => by simp at h, fun a h => by simp at h⟩
  | a :: l, h => by
    obtain ⟨h1, h2⟩ := List.pairwise_cons.1 h
    cases hq : q a
    · have e : cnt q (a :: l) = cnt q l + 1 := by
        unfold cnt
        rw [List.countP_cons_of_pos (by rw [hq]; rfl)]
      obtain ⟨h3, h4⟩ := cnt_split h2
      rw [e, List.take_succ_cons, List.drop_succ_cons]
      refine ⟨fun b hb => ?_, h4⟩
      rcases List.mem_cons.1 hb with rfl | hb
      · exact hq
      · exact h3 b hb
    · have e : cnt q (a :: l) = 0 := by
        unfold cnt
        rw [List.countP_eq_zero]
        intro b hb
        rcases List.mem_cons.1 hb with rfl | hb
        · rw [hq]; decide
        · rw [h1 b hb hq]; decide
      rw [e, List.take_zero, List.drop_zero]
      refine ⟨fun b hb => (by cases hb), fun b hb => ?_⟩
      rcases List.mem_cons.1 hb with rfl | hb
      · exact hq
      · exact h1 b hb hq
theorem itB_ge_mono {xs : List It} (h : Srt xs) (y : It) : xs.Pairwise fun a b => (!itB a y) = true → (!itB b y) = true := by
  refine List.Pairwise.imp ?_ h
  intro a b hab ha
  cases hb : itB b y
  · rfl
  · rw [itB_trans hab hb] at ha
    cases ha
theorem itB_gt_mono {xs : List It} (h : Srt xs) (y : It) : xs.Pairwise fun a b => itB y a = true → itB y b = true := by
  refine List.Pairwise.imp ?_ h
  intro a b hab ha
  exact itB_trans ha hab
/-- How many come ahead of y; is there one of its key?; the one. -/
def posL (y : It) (xs : List It) : Nat := cnt (fun a => !itB a y) xs
def hasL (y : It) (xs : List It) : Bool := (xs.find? (fun a => itS a y)).isSome
def gotL (y : It) (xs : List It) : It := (xs.find? (fun a => itS a y)).getD default
theorem posL_le (y : It) (xs : List It) : posL y xs ≤ xs.length := cnt_le _ _
theorem pos_take {y : It} {xs : List It} (h : Srt xs) : ∀ a ∈ xs.take (posL y xs), itB a y = true := fun a ha => by
  have := (cnt_split (itB_ge_mono h y)).1 a ha
  simpa using this
theorem pos_drop {y : It} {xs : List It} (h : Srt xs) : ∀ a ∈ xs.drop (posL y xs), itB a y = false := fun a ha => by
  have := (cnt_split (itB_ge_mono h y)).2 a ha
  simpa using this
theorem not_same_lt {a y : It} (h : itB a y = true) : itS a y = false := by
  cases e : itS a y
  · rfl
  · obtain ⟨h1, h2⟩ := itS_iff.1 e
    rw [itB_iff, h1, h2, bl_irrefl] at h
    rcases h with h | h
    · omega
    · cases h.2
theorem not_same_gt {a y : It} (h : itB y a = true) : itS a y = false := by
  cases e : itS a y
  · rfl
  · obtain ⟨h1, h2⟩ := itS_iff.1 e
    rw [itB_iff, h1, h2, bl_irrefl] at h
    rcases h with h | h
    · omega
    · cases h.2
/-- The list, taken apart there. -/
theorem pos_parts {y : It} {xs : List It} (h : Srt xs) (hp : posL y xs < xs.length) : xs = xs.take (posL y xs) ++ xs[posL y xs] :: xs.drop (posL y xs + 1) := by
  rw [← List.drop_eq_getElem_cons hp, List.take_append_drop]
/-- There is one just if it stands there. -/
theorem find_no {y : It} {xs : List It} (h : Srt xs) (hn : ∀ hp : posL y xs < xs.length, itB y xs[posL y xs] = true) : (∀ a ∈ xs, itS a y = false) ∧ (∀ a ∈ xs.drop (posL y xs), itB y a = true) := by
  have hd : ∀ a ∈ xs.drop (posL y xs), itB y a = true := by
    intro a ha
    rcases Nat.lt_or_ge (posL y xs) xs.length with hp | hp
    · rw [List.drop_eq_getElem_cons hp] at ha
      rcases List.mem_cons.1 ha with rfl | ha
      · exact hn hp
      · have := h
        rw [← List.take_append_drop (posL y xs) xs, List.drop_eq_getElem_cons hp] at this
        exact itB_trans (hn hp) ((List.pairwise_cons.1 (List.pairwise_append.1 this).2.1).1 a ha)
    · rw [List.drop_eq_nil_of_le hp] at ha
      cases ha
  refine ⟨fun a ha => ?_, hd⟩
  rw [← List.take_append_drop (posL y xs) xs] at ha
  rcases List.mem_append.1 ha with ha | ha
  · exact not_same_lt (pos_take h a ha)
  · exact not_same_gt (hd a ha)
theorem has_no {y : It} {xs : List It} (h : Srt xs) (hn : ∀ hp : posL y xs < xs.length, itB y xs[posL y xs] = true) : hasL y xs = false ∧ gotL y xs = default := by
  have : xs.find? (fun a => itS a y) = none := List.find?_eq_none.2 (fun a ha => by rw [(find_no h hn).1 a ha]; decide)
  unfold hasL gotL
  rw [this]
  exact ⟨rfl, rfl⟩
theorem same_at {y : It} {xs : List It} (h : Srt xs) (hp : posL y xs < xs.length) (hn : itB y xs[posL y xs] = false) : itS xs[posL y xs] y = true := by
  have h1 := pos_drop (y := y) h xs[posL y xs] (by rw [List.drop_eq_getElem_cons hp]; exact List.mem_cons_self ..)
  rcases itB_total xs[posL y xs] y with h2 | h2 | h2
  · exact itS_iff.2 h2
  · rw [h2] at h1; cases h1
  · rw [h2] at hn; cases hn
theorem has_yes {y : It} {xs : List It} (h : Srt xs) (hp : posL y xs < xs.length) (hn : itB y xs[posL y xs] = false) : hasL y xs = true ∧ gotL y xs = xs[posL y xs] := by
  have hs := same_at h hp hn
  have : xs.find? (fun a => itS a y) = some xs[posL y xs] := by
    conv => lhs; rw [pos_parts h hp]
    rw [List.find?_append, List.find?_eq_none.2 (fun a ha => by rw [not_same_lt (pos_take h a ha)]; decide), Option.none_or, List.find?_cons_of_pos (p := fun a => itS a y) hs]
  unfold hasL gotL
  rw [this]
  exact ⟨rfl, rfl⟩
theorem has_pos {y : It} {xs : List It} (h : Srt xs) (hh : hasL y xs = true) : ∃ hp : posL y xs < xs.length, itB y xs[posL y xs] = false ∧ gotL y xs = xs[posL y xs] := by
  rcases Nat.lt_or_ge (posL y xs) xs.length with hp | hp
  · cases hb : itB y xs[posL y xs]
    · exact ⟨hp, hb, (has_yes h hp hb).2⟩
    · have := (has_no h (fun _ => hb)).1
      rw [this] at hh
      cases hh
  · have := (has_no (y := y) h (fun hp2 => by omega)).1
    rw [this] at hh
    cases hh
theorem has_not {y : It} {xs : List It} (h : Srt xs) (hh : hasL y xs = false) : (∀ a ∈ xs, itS a y = false) ∧ (∀ a ∈ xs.drop (posL y xs), itB y a = true) := by
  refine find_no h (fun hp => ?_)
  cases hb : itB y xs[posL y xs]
  · rw [(has_yes h hp hb).1] at hh
    cases hh
  · rfl
theorem itB_asym {a b : It} (h : itB a b = true) : itB b a = false := itB_asymm h
/-- Put where there is none. -/
theorem put_new {y : It} {xs : List It} (h : Srt xs) (hh : hasL y xs = false) : xs.take (posL y xs) ++ y :: xs.drop (posL y xs) = putL y xs := by
  obtain ⟨h1, h2⟩ := has_not h hh
  unfold putL
  rw [List.filter_eq_self.2 (fun a ha => by rw [h1 a ha]; rfl)]
  exact ins_at h (posL_le y xs) h2 (fun a ha => itB_asym (pos_take h a ha))
theorem del_none {y : It} {xs : List It} (h : Srt xs) (hh : hasL y xs = false) : delL y xs = xs := by
  obtain ⟨h1, h2⟩ := has_not h hh
  exact List.filter_eq_self.2 (fun a ha => by rw [h1 a ha]; rfl)
theorem del_there {y : It} {xs : List It} (h : Srt xs) (hh : hasL y xs = true) : xs.take (posL y xs) ++ xs.drop (posL y xs + 1) = delL y xs := by
  obtain ⟨hp, hb, _⟩ := has_pos h hh
  have hs := same_at h hp hb
  have hx := h
  rw [pos_parts h hp] at hx
  obtain ⟨ht, hd, _⟩ := List.pairwise_append.1 hx
  have h3 := (List.pairwise_cons.1 hd).1
  have e1 : (xs.take (posL y xs)).filter (fun a => !itS a y) = xs.take (posL y xs) := List.filter_eq_self.2 (fun a ha => by rw [not_same_lt (pos_take h a ha)]; rfl)
  have e2 : (xs.drop (posL y xs + 1)).filter (fun a => !itS a y) = xs.drop (posL y xs + 1) := List.filter_eq_self.2 (fun a ha => by
    have h4 := h3 a ha
    obtain ⟨s1, s2⟩ := itS_iff.1 hs
    have h5 : itB y a = true := by
      rw [itB_iff] at h4 ⊢
      rw [s1, s2] at h4
      exact h4
    rw [not_same_gt h5]; rfl)
  unfold delL
  conv => rhs; rw [pos_parts h hp]
  rw [List.filter_append, List.filter_cons_of_neg (by rw [hs]; decide), e1, e2]
theorem put_there {y : It} {xs : List It} (h : Srt xs) (hh : hasL y xs = true) : xs.set (posL y xs) y = putL y xs := by
  obtain ⟨hp, hb, _⟩ := has_pos h hh
  have hs := same_at h hp hb
  have hd := del_there h hh
  have hsd : Srt (delL y xs) := srt_filter h _
  have htl : (xs.take (posL y xs)).length = posL y xs := by rw [List.length_take]; omega
  have e1 : (delL y xs).take (posL y xs) = xs.take (posL y xs) := by rw [← hd]; exact List.take_left' htl
  have e2 : (delL y xs).drop (posL y xs) = xs.drop (posL y xs + 1) := by rw [← hd]; exact List.drop_left' htl
  have hx := h
  rw [pos_parts h hp] at hx
  have h3 := (List.pairwise_cons.1 (List.pairwise_append.1 hx).2.1).1
  have := ins_at (x := y) (l := delL y xs) (k := posL y xs) hsd (by rw [← hd, List.length_append, htl]; omega) (fun a ha => by
    rw [e2] at ha
    have h4 := h3 a ha
    obtain ⟨s1, s2⟩ := itS_iff.1 hs
    rw [itB_iff] at h4 ⊢
    rw [s1, s2] at h4
    exact h4) (fun a ha => by
    rw [e1] at ha
    exact itB_asym (pos_take h a ha))
  rw [e1, e2] at this
  unfold putL
  have e3 : xs.filter (fun a => !itS a y) = delL y xs := rfl
  rw [e3, ← this]
  rw [List.set_eq_take_append_cons_drop, if_pos hp]
theorem putL_length {y : It} {xs : List It} (h : Srt xs) : (putL y xs).length ≤ xs.length + 1 := by
  cases hh : hasL y xs
  · rw [← put_new h hh, List.length_append, List.length_cons, List.length_take, List.length_drop]
    have := posL_le y xs
    omega
  · rw [← put_there h hh, List.length_set]
    omega
theorem delL_length (y : It) (xs : List It) : (delL y xs).length ≤ xs.length := List.length_filter_le _ _
theorem srt_put {y : It} {xs : List It} (h : Srt xs) : Srt (putL y xs) := by
  unfold putL
  refine srt_ins (srt_filter h _) (fun a ha hs => ?_)
  have := (List.mem_filter.1 ha).2
  rw [itS_iff.2 hs] at this
  cases this
theorem srt_del {y : It} {xs : List It} (h : Srt xs) : Srt (delL y xs) := srt_filter h _
/-- Only its table and its key play a part in that. -/
theorem posL_key {y z : It} (h : y.same z) (xs : List It) : posL y xs = posL z xs := by
  unfold posL cnt
  congr 1
  funext a
  unfold itB
  rw [h.1, h.2]
theorem hasL_key {y z : It} (h : y.same z) (xs : List It) : hasL y xs = hasL z xs ∧ gotL y xs = gotL z xs ∧ delL y xs = delL z xs := by
  have e : (fun a => itS a y) = (fun a => itS a z) := by
    funext a
    unfold itS
    rw [h.1, h.2]
  unfold hasL gotL delL
  rw [e]
  refine ⟨rfl, rfl, ?_⟩
  congr 1
  funext a
  exact congrArg (fun f => !f a) e
end Go.Proofs.Ytkcomkllnhdohaa
