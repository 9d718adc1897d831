/-
  A region whose order is drawn, whose operations only grow the memory till the last one, a call that may turn what it likes; behind it its value is only moved.
-/
import Derived.Test.YtkegfedbffhnfaaB3
namespace Go.Proofs.Ytkegfedbffhnfaa
open Go.RowKit
set_option maxRecDepth 20000

/-- Operation k comes last, but for moves of what it yields. -/
def lastB (ops : Array Oper) (k : Nat) : Bool := (List.range ops.size).all fun i => if i < k then ahead ops k i else if i = k then true else behind ops i k && ahead ops i k
theorem lastB_low {ops : Array Oper} {k i : Nat} (h : lastB ops k = true) (hi : i < ops.size) (hk : i < k) : ahead ops k i = true := by
  unfold lastB at h
  rw [List.all_eq_true] at h
  have := h i (List.mem_range.2 hi)
  rwa [if_pos hk] at this
theorem lastB_high {ops : Array Oper} {k i : Nat} (h : lastB ops k = true) (hi : i < ops.size) (hk : k < i) : behind ops i k = true ∧ ahead ops i k = true := by
  unfold lastB at h
  rw [List.all_eq_true] at h
  have := h i (List.mem_range.2 hi)
  rwa [if_neg (by omega), if_neg (by omega), Bool.and_eq_true] at this
section
variable {P : Program} {ops : Array Oper} {Q : Exit → Act → World → Prop}
def lasts (ops : Array Oper) (l : List Say) (k : Nat) (R : Value → World → Prop) (W : World) : Phases := fun L f w =>
  if L k = true then R (f k) w ∧ ∀ j, k < j → j < ops.size → L j = true → (∃ o d, ops[j]? = some o ∧ o.dst = some d) → f j = f k
  else Below W.heap.size W w ∧ ∀ j, j < k → L j = true → (∃ o d, ops[j]? = some o ∧ o.dst = some d) → (says l j).p w (f j)
theorem region_last {id : Nat} {a0 : Act} {W : World} (k dk : Nat) (l : List Say) (R : Value → World → Prop) {ok : Oper} (hk : ops[k]? = some ok) (hdk : ok.dst = some dk) (hgk : ok.guard = none) (hlast : lastB ops k = true)
    (hm : P.follows .mixedOrders = true) (hB : onceB ops = true) (hR : roomB ops a0.tmps.size = true) (hlow : lowB ops = true)
    (duty : ∀ i o, i < k → ops[i]? = some o → DutyG P ops Q l a0 W i o)
    (turn : ∀ (a : Act) (w : World), Below W.heap.size W w → a.tmps.size = a0.tmps.size → (∀ t, oldB ops k t = true → a.tmps.getD t undef = a0.tmps.getD t undef) →
      (∀ j oj d, behind ops k j = true → ops[j]? = some oj → oj.dst = some d → (says l j).p w (a.tmps.getD d undef)) → ok.wp P a w (fun a' w' => ∃ v, a' = a.put ok.dst v ∧ R v w') Q)
    (move : ∀ i o, k < i → ops[i]? = some o → o.guard = none ∧ ∀ (a : Act) (w : World), (execOp a.eval o).run P w = .ok (.value (a.tmps.getD dk undef)) w)
    (fin : ∀ a w v, R v w → a.tmps.size = a0.tmps.size → a.defers = a0.defers → a.tmps.getD dk undef = v → (∀ (j : Nat) (o : Oper) (d : Tmp), k < j → ops[j]? = some o → o.dst = some d → a.tmps.getD d undef = v) →
      (∀ t : Tmp, neverB ops t = true → a.tmps.getD t undef = a0.tmps.getD t undef) → Q .normal a w) :
    (Code.region id ops true).wp P Q a0 W := by
  have hks : k < ops.size := (Array.getElem?_eq_some_iff.1 hk).1
  refine region_phases (fun _ _ => True) (lasts ops l k R W) hm hB hR hlow ?_ ?_ ?_ ?_
  · intro L L' f f' w hL hf h
    unfold lasts at h ⊢
    rw [← hL k hks]
    split
    · rename_i hlk
      rw [if_pos hlk] at h
      have e := hf k hks hlk ⟨ok, dk, hk, hdk⟩
      refine ⟨by rw [← e]; exact h.1, fun j hkj hj hl hex => ?_⟩
      have hl' : L j = true := by rw [hL j hj]; exact hl
      rw [← e, ← hf j hj hl' hex]
      exact h.2 j hkj hj hl' hex
    · rename_i hlk
      rw [if_neg hlk] at h
      refine ⟨h.1, fun j hj hl hex => ?_⟩
      have hl' : L j = true := by rw [hL j (by omega)]; exact hl
      rw [← hf j (by omega) hl' hex]
      exact h.2 j hj hl' hex
  · unfold lasts
    rw [if_neg (by simp)]
    exact ⟨(Below.refl _ _).drew, fun _ _ h => by cases h⟩
  · intro i o ho L a w hph hsz hLi hnot hyes old dep
    have hi : i < ops.size := (Array.getElem?_eq_some_iff.1 ho).1
    rcases Nat.lt_trichotomy i k with h | h | h
    · have hLk : ¬ L k = true := by rw [hnot k (lastB_low hlast hi h)]; decide
      unfold lasts at hph
      rw [if_neg hLk] at hph
      have h1 := duty i o h ho a w hph.1 hsz old (fun j oj d hbd hoj hd => by
        have hjk : j < k := by
          rcases Nat.lt_or_ge j k with h2 | h2
          · exact h2
          · have hj : j < ops.size := (Array.getElem?_eq_some_iff.1 hoj).1
            have := hyes j hbd
            rcases Nat.lt_or_eq_of_le h2 with h3 | h3
            · exfalso
              have hlow' : j < i := by
                unfold lowB at hlow
                rw [List.all_eq_true] at hlow
                have h4 := hlow i (List.mem_range.2 hi)
                unfold behind at hbd
                rw [ho] at h4 hbd
                simp only [Option.map_some, Option.getD_some] at h4 hbd
                rw [Array.all_eq_true'] at h4
                rw [Array.any_eq_true'] at hbd
                obtain ⟨e, he, hb⟩ := hbd
                rw [Bool.and_eq_true, beq_iff_eq] at hb
                have h5 := h4 e he
                rw [hb.1] at h5
                simp only [Bool.not_true, Bool.false_or, decide_eq_true_eq] at h5
                omega
              omega
            · subst h3; exact absurd this hLk
        have := hph.2 j hjk (hyes j hbd) ⟨oj, d, hoj, hd⟩
        rwa [got_dst hoj hd] at this)
      have step : ∀ (v : Value) (w' : World), (says l i).p w' v → Below w.heap.size w w' → lasts ops l k R W (also L i) (yielding (got ops a) i v) w' := by
        intro v w' hs hb
        unfold lasts
        rw [if_neg (by simp only [also]; rw [beq_eq_false_iff_ne.2 (by omega : k ≠ i), Bool.false_or]; exact hLk)]
        refine ⟨hph.1.trans (hb.mono hph.1.size), fun j hj hl hex => ?_⟩
        by_cases e : j = i
        · subst e
          simpa [yielding] using hs
        · have h1 := hph.2 j hj (by simpa [also, e] using hl) hex
          have := (says l j).st w w' _ h1 hb
          simpa [yielding, e] using this
      split at h1
      · rename_i hw
        rw [if_pos hw]
        refine Oper.wp_mono ?_ h1
        rintro a' w' ⟨v, e, hs, hb⟩
        exact ⟨v, e, trivial, step v w' hs hb⟩
      · rename_i hw
        rw [if_neg hw]
        exact ⟨trivial, step _ _ h1 (Below.refl _ _)⟩
    · subst h
      rw [hk] at ho
      obtain rfl := Option.some.inj ho
      rw [if_pos (wanted_none hgk)]
      unfold lasts at hph
      rw [if_neg (by rw [hLi]; decide)] at hph
      have h1 := turn a w hph.1 hsz old (fun j oj d hbd hoj hd => by
        have hj : j < ops.size := (Array.getElem?_eq_some_iff.1 hoj).1
        have hLj := hyes j hbd
        have hji : j < i := by
          rcases Nat.lt_trichotomy j i with h2 | h2 | h2
          · exact h2
          · subst h2; rw [hLi] at hLj; cases hLj
          · rw [hnot j (lastB_high hlast hj h2).2] at hLj; cases hLj
        have := hph.2 j hji hLj ⟨oj, d, hoj, hd⟩
        rwa [got_dst hoj hd] at this)
      refine Oper.wp_mono ?_ h1
      rintro a' w' ⟨v, e, hr⟩
      refine ⟨v, e, trivial, ?_⟩
      unfold lasts
      rw [if_pos (by simp [also])]
      refine ⟨by simpa [yielding] using hr, fun j hij hj hl _ => ?_⟩
      exfalso
      have : L j = true := by simpa [also, Nat.ne_of_gt hij] using hl
      rw [hnot j (lastB_high hlast hj hij).2] at this
      cases this
    · have hh := lastB_high hlast hi h
      have hLk := hyes k hh.1
      obtain ⟨hg, hrun⟩ := move i o h ho
      rw [if_pos (wanted_none hg)]
      unfold lasts at hph
      rw [if_pos hLk] at hph
      rw [got_dst hk hdk] at hph
      refine wp_yields (V := fun _ _ => True) (M := lasts ops l k R W) (v := a.tmps.getD dk undef) (w' := w) (hrun a w) trivial ?_
      unfold lasts
      have hlk2 : also L i k = true := by simp [also, hLk]
      rw [if_pos hlk2]
      have ek : yielding (got ops a) i (a.tmps.getD dk undef) k = a.tmps.getD dk undef := by
        unfold yielding
        rw [if_neg (by omega), got_dst hk hdk]
      rw [ek]
      refine ⟨hph.1, fun j hkj hj hl hex => ?_⟩
      unfold yielding
      by_cases e : j = i
      · rw [if_pos e]
      · rw [if_neg e]
        have hl' : L j = true := by simpa [also, e] using hl
        exact hph.2 j hkj hj hl' hex
  · intro a w hph hsz hdf _ keep
    unfold lasts at hph
    rw [if_pos rfl, got_dst hk hdk] at hph
    refine fin a w _ hph.1 hsz hdf rfl (fun j o d hkj ho hd => ?_) keep
    have := hph.2 j hkj (Array.getElem?_eq_some_iff.1 ho).1 rfl ⟨o, d, ho, hd⟩
    rwa [got_dst ho hd] at this
/-- The call. -/
theorem last_enters {o : Oper} {a : Act} {w : World} {f : FuncId} {args : Array Value} {R : Value → World → Prop} (hrun : (execOp a.eval o).run P w = .ok (.enter f args) w)
    (hc : Calls P f args w fun e w' => ∃ v, e = .returned v ∧ R v w') : o.wp P a w (fun a' w' => ∃ v, a' = a.put o.dst v ∧ R v w') Q := by
  unfold Oper.wp
  rw [hrun, Oper.upon_enter]
  refine hc.mono ?_
  rintro e w' ⟨v, rfl, hr⟩
  exact ⟨v, rfl, hr⟩
def stored (ops : Array Oper) (l : List Say) (k : Nat) (R : World → Prop) (W : World) : Phases := fun L f w =>
  if L k = true then R w
  else Below W.heap.size W w ∧ ∀ j, j < k → L j = true → (∃ o d, ops[j]? = some o ∧ o.dst = some d) → (says l j).p w (f j)
/-- The same, the last operation a store. -/
theorem region_store {id : Nat} {a0 : Act} {W : World} (k : Nat) (l : List Say) (R : World → Prop) {ok : Oper} (hk : ops[k]? = some ok) (hdk : ok.dst = none) (hgk : ok.guard = none) (hsz : ops.size = k + 1) (hlast : lastB ops k = true)
    (hm : P.follows .mixedOrders = true) (hB : onceB ops = true) (hR : roomB ops a0.tmps.size = true) (hlow : lowB ops = true)
    (duty : ∀ i o, i < k → ops[i]? = some o → DutyG P ops Q l a0 W i o)
    (turn : ∀ (a : Act) (w : World), Below W.heap.size W w → a.tmps.size = a0.tmps.size → (∀ t, oldB ops k t = true → a.tmps.getD t undef = a0.tmps.getD t undef) →
      (∀ j oj d, behind ops k j = true → ops[j]? = some oj → oj.dst = some d → (says l j).p w (a.tmps.getD d undef)) → ∃ w', (execOp a.eval ok).run P w = .ok .skip w' ∧ R w')
    (fin : ∀ a w, R w → a.tmps.size = a0.tmps.size → a.defers = a0.defers → (∀ t : Tmp, neverB ops t = true → a.tmps.getD t undef = a0.tmps.getD t undef) → Q .normal a w) :
    (Code.region id ops true).wp P Q a0 W := by
  have hks : k < ops.size := by omega
  refine region_phases (fun _ _ => True) (stored ops l k R W) hm hB hR hlow ?_ ?_ ?_ ?_
  · intro L L' f f' w hL hf h
    unfold stored at h ⊢
    rw [← hL k hks]
    split
    · rename_i hlk
      rwa [if_pos hlk] at h
    · rename_i hlk
      rw [if_neg hlk] at h
      refine ⟨h.1, fun j hj hl hex => ?_⟩
      have hl' : L j = true := by rw [hL j (by omega)]; exact hl
      rw [← hf j (by omega) hl' hex]
      exact h.2 j hj hl' hex
  · unfold stored
    rw [if_neg (by simp)]
    exact ⟨(Below.refl _ _).drew, fun _ _ h => by cases h⟩
  · intro i o ho L a w hph hsz2 hLi hnot hyes old dep
    have hi : i < ops.size := (Array.getElem?_eq_some_iff.1 ho).1
    have hdep : ∀ j oj d, ¬ L k = true → behind ops i j = true → ops[j]? = some oj → oj.dst = some d → (says l j).p w (a.tmps.getD d undef) := by
      intro j oj d hLk hbd hoj hd
      unfold stored at hph
      rw [if_neg hLk] at hph
      have hj : j < ops.size := (Array.getElem?_eq_some_iff.1 hoj).1
      have hjk : j < k := by
        rcases Nat.lt_or_ge j k with h2 | h2
        · exact h2
        · obtain rfl : j = k := by omega
          exact absurd (hyes j hbd) hLk
      have := hph.2 j hjk (hyes j hbd) ⟨oj, d, hoj, hd⟩
      rwa [got_dst hoj hd] at this
    rcases Nat.lt_or_ge i k with h | h
    · have hLk : ¬ L k = true := by rw [hnot k (lastB_low hlast hi h)]; decide
      unfold stored at hph
      rw [if_neg hLk] at hph
      have h1 := duty i o h ho a w hph.1 hsz2 old (fun j oj d hbd hoj hd => hdep j oj d hLk hbd hoj hd)
      have step : ∀ (v : Value) (w' : World), (says l i).p w' v → Below w.heap.size w w' → stored ops l k R W (also L i) (yielding (got ops a) i v) w' := by
        intro v w' hs hb
        unfold stored
        rw [if_neg (by simp only [also]; rw [beq_eq_false_iff_ne.2 (by omega : k ≠ i), Bool.false_or]; exact hLk)]
        refine ⟨hph.1.trans (hb.mono hph.1.size), fun j hj hl hex => ?_⟩
        by_cases e : j = i
        · subst e
          simpa [yielding] using hs
        · have h1 := hph.2 j hj (by simpa [also, e] using hl) hex
          have := (says l j).st w w' _ h1 hb
          simpa [yielding, e] using this
      split at h1
      · rename_i hw
        rw [if_pos hw]
        refine Oper.wp_mono ?_ h1
        rintro a' w' ⟨v, e, hs, hb⟩
        exact ⟨v, e, trivial, step v w' hs hb⟩
      · rename_i hw
        rw [if_neg hw]
        exact ⟨trivial, step _ _ h1 (Below.refl _ _)⟩
    · obtain rfl : i = k := by omega
      rw [hk] at ho
      obtain rfl := Option.some.inj ho
      rw [if_pos (wanted_none hgk)]
      have hLk : ¬ L i = true := by rw [hLi]; decide
      have hph2 := hph
      unfold stored at hph2
      rw [if_neg hLk] at hph2
      obtain ⟨w', hrun, hr⟩ := turn a w hph2.1 hsz2 old (fun j oj d hbd hoj hd => hdep j oj d hLk hbd hoj hd)
      refine wp_skips (V := fun _ _ => True) (M := stored ops l i R W) (w' := w') hrun trivial ?_
      unfold stored
      rw [if_pos (by simp [also])]
      exact hr
  · intro a w hph hsz2 hdf _ keep
    unfold stored at hph
    rw [if_pos rfl] at hph
    exact fin a w hph hsz2 hdf keep
/-- A call, in a region by phases. -/
theorem phase_enters {o : Oper} {a : Act} {w : World} {i : Nat} {L : Nat → Bool} {V : Nat → Value → Prop} {M : Phases} (f : FuncId) (args : Array Value) (hrun : (execOp a.eval o).run P w = .ok (.enter f args) w)
    (hc : Calls P f args w fun e w' => ∃ v, e = .returned v ∧ V i v ∧ M (also L i) (yielding (got ops a) i v) w') : o.wp P a w (fun a' w' => ∃ v, a' = a.put o.dst v ∧ V i v ∧ M (also L i) (yielding (got ops a) i v) w') Q := by
  unfold Oper.wp
  rw [hrun, Oper.upon_enter]
  refine hc.mono ?_
  rintro e w' ⟨v, rfl, hr⟩
  exact ⟨v, rfl, hr⟩
end
end Go.Proofs.Ytkegfedbffhnfaa
