/-
  A region whose order is drawn, whose operations only grow the memory till one, a call that may turn what it likes; behind it there are operations that yield what its value tells (a tuple's parts, say).
-/
import Derived.Test.YtkegfedbffhnfaaSub11
namespace Go.Proofs.Ytkegfedbffhnfaa
open Go.RowKit
set_option maxRecDepth 20000

/-- Operation k comes behind those ahead of it; each one behind it has some of these, or it, directly ahead. -/
def partB (ops : Array Oper) (k : Nat) : Bool := (List.range ops.size).all fun i => if i < k then ahead ops k i else if i = k then true else (List.range ops.size).any fun j => decide (k ≤ j) && behind ops i j
theorem partB_low {ops : Array Oper} {k i : Nat} (h : partB ops k = true) (hi : i < ops.size) (hk : i < k) : ahead ops k i = true := by
  unfold partB at h
  rw [List.all_eq_true] at h
  have := h i (List.mem_range.2 hi)
  rwa [if_pos hk] at this
theorem partB_high {ops : Array Oper} {k i : Nat} (h : partB ops k = true) (hi : i < ops.size) (hk : k < i) : ∃ j, j < ops.size ∧ k ≤ j ∧ behind ops i j = true := by
  unfold partB at h
  rw [List.all_eq_true] at h
  have := h i (List.mem_range.2 hi)
  rw [if_neg (by omega), if_neg (by omega), List.any_eq_true] at this
  obtain ⟨j, hj, h1⟩ := this
  rw [Bool.and_eq_true, decide_eq_true_eq] at h1
  exact ⟨j, List.mem_range.1 hj, h1.1, h1.2⟩
section
variable {P : Program} {ops : Array Oper} {Q : Exit → Act → World → Prop}
def parts (ops : Array Oper) (l : List Say) (k : Nat) (val : Nat → Value → Value) (R : Value → World → Prop) (W : World) : Phases := fun L f w =>
  if L k = true then R (f k) w ∧ ∀ j, k < j → j < ops.size → L j = true → (∃ o d, ops[j]? = some o ∧ o.dst = some d) → f j = val j (f k)
  else (Below W.heap.size W w ∧ ∀ j, j < k → L j = true → (∃ o d, ops[j]? = some o ∧ o.dst = some d) → (says l j).p w (f j)) ∧ ∀ j, k < j → j < ops.size → L j = false
theorem region_parts {id : Nat} {a0 : Act} {W : World} (k dk : Nat) (l : List Say) (val : Nat → Value → Value) (R : Value → World → Prop) {ok : Oper} (hk : ops[k]? = some ok) (hdk : ok.dst = some dk) (hgk : ok.guard = none) (hlast : partB ops k = true)
    (hm : P.follows .mixedOrders = true) (hB : onceB ops = true) (hR : roomB ops a0.tmps.size = true) (hlow : lowB ops = true)
    (duty : ∀ i o, i < k → ops[i]? = some o → DutyG P ops Q l a0 W i o)
    (turn : ∀ (a : Act) (w : World), Below W.heap.size W w → a.tmps.size = a0.tmps.size → (∀ t, oldB ops k t = true → a.tmps.getD t undef = a0.tmps.getD t undef) →
      (∀ j oj d, behind ops k j = true → ops[j]? = some oj → oj.dst = some d → (says l j).p w (a.tmps.getD d undef)) → ok.wp P a w (fun a' w' => ∃ v, a' = a.put ok.dst v ∧ R v w') Q)
    (move : ∀ i o, k < i → ops[i]? = some o → o.guard = none ∧ ∀ (a : Act) (w : World) (v : Value), R v w → (behind ops i k = true → a.tmps.getD dk undef = v) → (∀ (j : Nat) (oj : Oper) (d : Tmp), k < j → behind ops i j = true → ops[j]? = some oj → oj.dst = some d → a.tmps.getD d undef = val j v) → (execOp a.eval o).run P w = .ok (.value (val i v)) w)
    (fin : ∀ a w v, R v w → a.tmps.size = a0.tmps.size → a.defers = a0.defers → a.tmps.getD dk undef = v → (∀ (j : Nat) (o : Oper) (d : Tmp), k < j → ops[j]? = some o → o.dst = some d → a.tmps.getD d undef = val j v) →
      (∀ t : Tmp, neverB ops t = true → a.tmps.getD t undef = a0.tmps.getD t undef) → Q .normal a w) :
    (Code.region id ops true).wp P Q a0 W := by
  have hks : k < ops.size := (Array.getElem?_eq_some_iff.1 hk).1
  refine region_phases (fun _ _ => True) (parts ops l k val R W) hm hB hR hlow ?_ ?_ ?_ ?_
  · intro L L' f f' w hL hf h
    unfold parts at h ⊢
    rw [← hL k hks]
    split
    · rename_i hlk
      rw [if_pos hlk] at h
      have e := hf k hks hlk ⟨ok, dk, hk, hdk⟩
      refine ⟨by rw [← e]; exact h.1, fun j hkj hj hl hex => ?_⟩
      have hl' : L j = true := by rw [hL j hj]; exact hl
      rw [← e, ← hf j hj hl' hex]
      exact h.2 j hkj hj hl' hex
    · rename_i hlk
      rw [if_neg hlk] at h
      refine ⟨⟨h.1.1, fun j hj hl hex => ?_⟩, fun j hkj hj => by rw [← hL j hj]; exact h.2 j hkj hj⟩
      have hl' : L j = true := by rw [hL j (by omega)]; exact hl
      rw [← hf j (by omega) hl' hex]
      exact h.1.2 j hj hl' hex
  · unfold parts
    rw [if_neg (by simp)]
    exact ⟨⟨(Below.refl _ _).drew, fun _ _ h => by cases h⟩, fun _ _ _ => rfl⟩
  · intro i o ho L a w hph hsz hLi hnot hyes old dep
    have hi : i < ops.size := (Array.getElem?_eq_some_iff.1 ho).1
    rcases Nat.lt_trichotomy i k with h | h | h
    · have hLk : ¬ L k = true := by rw [hnot k (partB_low hlast hi h)]; decide
      unfold parts at hph
      rw [if_neg hLk] at hph
      obtain ⟨hph, hhi⟩ := hph
      have h1 := duty i o h ho a w hph.1 hsz old (fun j oj d hbd hoj hd => by
        have hj : j < ops.size := (Array.getElem?_eq_some_iff.1 hoj).1
        have hLj := hyes j hbd
        have hjk : j < k := by
          rcases Nat.lt_trichotomy j k with h2 | h2 | h2
          · exact h2
          · subst h2; exact absurd hLj hLk
          · rw [hhi j h2 hj] at hLj; cases hLj
        have := hph.2 j hjk hLj ⟨oj, d, hoj, hd⟩
        rwa [got_dst hoj hd] at this)
      have step : ∀ (v : Value) (w' : World), (says l i).p w' v → Below w.heap.size w w' → parts ops l k val R W (also L i) (yielding (got ops a) i v) w' := by
        intro v w' hs hb
        unfold parts
        rw [if_neg (by simp only [also]; rw [beq_eq_false_iff_ne.2 (by omega : k ≠ i), Bool.false_or]; exact hLk)]
        refine ⟨⟨hph.1.trans (hb.mono hph.1.size), fun j hj hl hex => ?_⟩, fun j hkj hj => ?_⟩
        · by_cases e : j = i
          · subst e
            simpa [yielding] using hs
          · have h1 := hph.2 j hj (by simpa [also, e] using hl) hex
            have := (says l j).st w w' _ h1 hb
            simpa [yielding, e] using this
        · simp only [also]
          rw [beq_eq_false_iff_ne.2 (by omega : j ≠ i), Bool.false_or]
          exact hhi j hkj hj
      split at h1
      · rename_i hw
        rw [if_pos hw]
        refine Oper.wp_mono ?_ h1
        rintro a' w' ⟨v, e, hs, hb⟩
        exact ⟨v, e, trivial, step v w' hs hb⟩
      · rename_i hw
        rw [if_neg hw]
        exact ⟨trivial, step _ _ h1 (Below.refl _ _)⟩
    · subst h
      rw [hk] at ho
      obtain rfl := Option.some.inj ho
      rw [if_pos (wanted_none hgk)]
      unfold parts at hph
      rw [if_neg (by rw [hLi]; decide)] at hph
      obtain ⟨hph, hhi⟩ := hph
      have h1 := turn a w hph.1 hsz old (fun j oj d hbd hoj hd => by
        have hj : j < ops.size := (Array.getElem?_eq_some_iff.1 hoj).1
        have hLj := hyes j hbd
        have hji : j < i := by
          rcases Nat.lt_trichotomy j i with h2 | h2 | h2
          · exact h2
          · subst h2; rw [hLi] at hLj; cases hLj
          · rw [hhi j h2 hj] at hLj; cases hLj
        have := hph.2 j hji hLj ⟨oj, d, hoj, hd⟩
        rwa [got_dst hoj hd] at this)
      refine Oper.wp_mono ?_ h1
      rintro a' w' ⟨v, e, hr⟩
      refine ⟨v, e, trivial, ?_⟩
      unfold parts
      rw [if_pos (by simp [also])]
      refine ⟨by simpa [yielding] using hr, fun j hij hj hl _ => ?_⟩
      exfalso
      have : L j = true := by simpa [also, Nat.ne_of_gt hij] using hl
      rw [hhi j hij hj] at this
      cases this
    · have hLk : L k = true := by
        obtain ⟨j, hj, hkj, hbd⟩ := partB_high hlast hi h
        have hLj := hyes j hbd
        rcases Nat.lt_or_eq_of_le hkj with h2 | h2
        · cases hlk : L k
          · unfold parts at hph
            rw [if_neg (by rw [hlk]; decide)] at hph
            rw [hph.2 j h2 hj] at hLj
            cases hLj
          · rfl
        · subst h2; exact hLj
      obtain ⟨hg, hrun⟩ := move i o h ho
      rw [if_pos (wanted_none hg)]
      unfold parts at hph
      rw [if_pos hLk] at hph
      rw [got_dst hk hdk] at hph
      have hr := hrun a w (a.tmps.getD dk undef) hph.1 (fun _ => rfl) (fun j oj d hkj hbd hoj hd => by
        have := hph.2 j hkj (Array.getElem?_eq_some_iff.1 hoj).1 (hyes j hbd) ⟨oj, d, hoj, hd⟩
        rwa [got_dst hoj hd] at this)
      refine wp_yields (V := fun _ _ => True) (M := parts ops l k val R W) (v := val i (a.tmps.getD dk undef)) (w' := w) hr trivial ?_
      unfold parts
      have hlk2 : also L i k = true := by simp [also, hLk]
      rw [if_pos hlk2]
      have ek : yielding (got ops a) i (val i (a.tmps.getD dk undef)) k = a.tmps.getD dk undef := by
        unfold yielding
        rw [if_neg (by omega), got_dst hk hdk]
      rw [ek]
      refine ⟨hph.1, fun j hkj hj hl hex => ?_⟩
      unfold yielding
      by_cases e : j = i
      · rw [if_pos e, e]
      · rw [if_neg e]
        have hl' : L j = true := by simpa [also, e] using hl
        exact hph.2 j hkj hj hl' hex
  · intro a w hph hsz hdf _ keep
    unfold parts at hph
    rw [if_pos rfl, got_dst hk hdk] at hph
    refine fin a w _ hph.1 hsz hdf rfl (fun j o d hkj ho hd => ?_) keep
    have := hph.2 j hkj (Array.getElem?_eq_some_iff.1 ho).1 rfl ⟨o, d, ho, hd⟩
    rwa [got_dst ho hd] at this
end
end Go.Proofs.Ytkegfedbffhnfaa
