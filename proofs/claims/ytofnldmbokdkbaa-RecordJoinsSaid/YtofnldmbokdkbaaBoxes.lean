/-
  A region whose order is drawn, whose operations turn nothing that was there, with one block of its own: 'x, e := f(..)' where x is boxed: an allocation, and a store into it. Each other operation's value is told, or nothing is said of it.
-/
import Derived.Test.YtofnldmbokdkbaaTurns
namespace Go.Proofs.Ytofnldmbokdkbaa
open Go.RowKit

set_option linter.unusedSimpArgs false
set_option linter.unusedVariables false

/-- A word on a value alone. -/
def saidV (l : List (Option Value)) (j : Nat) (v : Value) : Prop := ∀ u, l[j]? = some (some u) → v = u
section
variable {P : Program} {ops : Array Oper} {Q : Exit → Act → World → Prop}
/-- One operation's duty. -/
def DutyB (P : Program) (ops : Array Oper) (Q : Exit → Act → World → Prop) (l : List (Option Value)) (ia : Nat) (a0 : Act) (W : World) (i : Nat) (o : Oper) : Prop :=
  ∀ (a : Act) (w : World), Below W.heap.size W w → a.tmps.size = a0.tmps.size → (∀ t, oldB ops i t = true → a.tmps.getD t undef = a0.tmps.getD t undef) →
    (∀ j oj d, behind ops i j = true → ops[j]? = some oj → oj.dst = some d → j ≠ ia → saidV l j (a.tmps.getD d undef)) →
    if Region.wanted o (yielded ops a.tmps) = true then o.wp P a w (fun a' w' => ∃ v, a' = a.put o.dst v ∧ saidV l i v ∧ Below w.heap.size w w') Q
    else saidV l i undef
/-- The store's duty. -/
def StoreB (P : Program) (ops : Array Oper) (Q : Exit → Act → World → Prop) (l : List (Option Value)) (ia da : Nat) (t : TypeId) (c0 c1 : Array Value) (a0 : Act) (W : World) (i : Nat) (o : Oper) : Prop :=
  ∀ (a : Act) (w : World) (g : Nat), Below W.heap.size W w → a.tmps.size = a0.tmps.size →
    (∀ j oj d, behind ops i j = true → ops[j]? = some oj → oj.dst = some d → j ≠ ia → saidV l j (a.tmps.getD d undef)) → a.tmps.getD da undef = .pointer (some ⟨g, 0, none⟩) → Blk w g t c0 →
    o.wp P a w (fun a' w' => a' = a.put o.dst undef ∧ Blk w' g t c1 ∧ Turns (· = g) w w') Q
def boxed (ops : Array Oper) (l : List (Option Value)) (ia is : Nat) (t : TypeId) (c0 c1 : Array Value) (W : World) : Phases := fun L f w => Below W.heap.size W w ∧
  (∀ j, j < ops.size → L j = true → (∃ o d, ops[j]? = some o ∧ o.dst = some d) → j ≠ ia → saidV l j (f j)) ∧
  (L ia = true → ∃ g, f ia = .pointer (some ⟨g, 0, none⟩) ∧ W.heap.size ≤ g ∧ Blk w g t (if L is = true then c1 else c0))
theorem boxed_step {l : List (Option Value)} {ia is : Nat} {t : TypeId} {c0 c1 : Array Value} {W w w' : World} {L : Nat → Bool} {f : Nat → Value} {i : Nat} {v : Value} (h : boxed ops l ia is t c0 c1 W L f w) (hi : i ≠ ia) (hi2 : i ≠ is) (hs : saidV l i v) (hb : Below w.heap.size w w') :
    boxed ops l ia is t c0 c1 W (also L i) (yielding f i v) w' := by
  obtain ⟨h1, h2, h3⟩ := h
  refine ⟨h1.trans (hb.mono h1.size), fun j hj hl hex hja => ?_, fun hl => ?_⟩
  · by_cases e : j = i
    · subst e; simpa [yielding] using hs
    · have := h2 j hj (by simpa [also, e] using hl) hex hja
      simpa [yielding, e] using this
  · have e1 : ¬ ia = i := fun e => hi e.symm
    have e2 : ¬ is = i := fun e => hi2 e.symm
    obtain ⟨g, hg, hgl, hbk⟩ := h3 (by simpa [also, e1] using hl)
    refine ⟨g, by simpa [yielding, e1] using hg, hgl, ?_⟩
    have : also L i is = L is := by simp [also, e2]
    rw [this]
    exact hbk.below hb
theorem region_boxes {id : Nat} {a0 : Act} {W : World} (l : List (Option Value)) (ia is da : Nat) (t : TypeId) (c0 c1 : Array Value) (oa os : Oper) (ha : ops[ia]? = some oa) (hs : ops[is]? = some os) (hda : oa.dst = some da) (hds : os.dst = none) (hga : oa.guard = none) (hgs : os.guard = none)
    (hbs : behind ops is ia = true) (has : ahead ops is ia = true) (hne : ia ≠ is)
    (hm : P.follows .mixedOrders = true) (hB : onceB ops = true) (hR : roomB ops a0.tmps.size = true) (hlow : lowB ops = true)
    (alloc : ∀ (a : Act) (w : World), (execOp a.eval oa).run P w = .ok (.value (.pointer (some ⟨w.heap.size, 0, none⟩))) (w.alloc (.cells c0 t)))
    (store : StoreB P ops Q l ia da t c0 c1 a0 W is os)
    (duty : ∀ i o, ops[i]? = some o → i ≠ ia → i ≠ is → DutyB P ops Q l ia a0 W i o)
    (fin : ∀ a w g, Below W.heap.size W w → W.heap.size ≤ g → Blk w g t c1 → a.tmps.getD da undef = .pointer (some ⟨g, 0, none⟩) → a.tmps.size = a0.tmps.size → a.defers = a0.defers →
      (∀ (j : Nat) (o : Oper) (d : Tmp), ops[j]? = some o → o.dst = some d → j ≠ ia → saidV l j (a.tmps.getD d undef)) →
      (∀ t : Tmp, neverB ops t = true → a.tmps.getD t undef = a0.tmps.getD t undef) → Q .normal a w) :
    (Code.region id ops true).wp P Q a0 W := by
  have hia := (Array.getElem?_eq_some_iff.1 ha).1
  have his := (Array.getElem?_eq_some_iff.1 hs).1
  refine region_phases (fun _ _ => True) (boxed ops l ia is t c0 c1 W) hm hB hR hlow ?_ ?_ ?_ ?_
  · intro L L' f f' w hL hf h
    obtain ⟨h1, h2, h3⟩ := h
    refine ⟨h1, fun j hj hl hex hja => ?_, fun hl => ?_⟩
    · rw [← hf j hj (by rw [hL j hj]; exact hl) hex]
      exact h2 j hj (by rw [hL j hj]; exact hl) hex hja
    · rw [← hL ia hia] at hl
      obtain ⟨g, hg, hgl, hbk⟩ := h3 hl
      refine ⟨g, by rw [← hf ia hia hl ⟨oa, da, ha, hda⟩]; exact hg, hgl, ?_⟩
      rw [← hL is his]
      exact hbk
  · exact ⟨(Below.refl _ _).drew, fun _ _ h => absurd h (by simp), fun h => absurd h (by simp)⟩
  · intro i o ho L a w hph hsz hLi hnot hyes old dep
    have hdep : ∀ j oj d, behind ops i j = true → ops[j]? = some oj → oj.dst = some d → j ≠ ia → saidV l j (a.tmps.getD d undef) := fun j oj d hbd hoj hd hja => by
      have := hph.2.1 j (Array.getElem?_eq_some_iff.1 hoj).1 (hyes j hbd) ⟨oj, d, hoj, hd⟩ hja
      rwa [got_dst hoj hd] at this
    by_cases e1 : i = ia
    · subst e1
      obtain rfl : oa = o := by rw [ha] at ho; exact Option.some.inj ho
      rw [if_pos (wanted_none hga)]
      unfold Oper.wp
      rw [alloc]
      refine ⟨_, rfl, trivial, hph.1.alloc hph.1.size _, fun j hj hl hex hja => ?_, fun _ => ⟨w.heap.size, by simp [yielding], hph.1.size, ?_⟩⟩
      · have := hph.2.1 j hj (by simpa [also, hja] using hl) hex hja
        simpa [yielding, hja] using this
      · have e2 : also L i is = false := by
          have : ¬ is = i := fun e => hne e.symm
          simp [also, this, hnot is has]
        rw [e2, if_neg (by simp)]
        exact heap_new w _
    · by_cases e2 : i = is
      · subst e2
        obtain rfl : os = o := by rw [hs] at ho; exact Option.some.inj ho
        rw [if_pos (wanted_none hgs)]
        obtain ⟨g, hg, hgl, hbk⟩ := hph.2.2 (hyes ia hbs)
        rw [hLi, if_neg (by simp)] at hbk
        rw [got_dst ha hda] at hg
        refine Oper.wp_mono ?_ (store a w g hph.1 hsz hdep hg hbk)
        rintro a' w' ⟨e, hb1, ht⟩
        have hsz' := hbk.lt
        refine ⟨undef, e, trivial, hph.1.trans (ht.below hph.1.size (by rintro k rfl; exact hgl)), fun j hj hl hex hja => ?_, fun _ => ⟨g, ?_, hgl, ?_⟩⟩
        · by_cases e : j = i
          · subst e
            obtain ⟨o', d', ho', hd'⟩ := hex
            rw [hs] at ho'
            obtain rfl := Option.some.inj ho'
            rw [hds] at hd'
            cases hd'
          · have := hph.2.1 j hj (by simpa [also, e] using hl) hex hja
            simpa [yielding, e] using this
        · have e3 : ¬ ia = i := fun e => e1 e.symm
          simp only [yielding, e3, if_false]
          rw [got_dst ha hda]; exact hg
        · have : also L i i = true := by simp [also]
          rw [this, if_pos rfl]
          exact hb1
      · have h1 := duty i o ho e1 e2 a w hph.1 hsz old hdep
        split at h1
        · rename_i hw
          rw [if_pos hw]
          refine Oper.wp_mono ?_ h1
          rintro a' w' ⟨v, e, hv, hb⟩
          exact ⟨v, e, trivial, boxed_step hph e1 e2 hv hb⟩
        · rename_i hw
          rw [if_neg hw]
          exact ⟨trivial, boxed_step hph e1 e2 h1 (Below.refl _ _)⟩
  · intro a w hph hsz hdf _ keep
    obtain ⟨g, hg, hgl, hbk⟩ := hph.2.2 rfl
    rw [if_pos rfl] at hbk
    rw [got_dst ha hda] at hg
    refine fin a w g hph.1 hgl hbk hg hsz hdf (fun j o d ho hd hja => ?_) keep
    have := hph.2.1 j (Array.getElem?_eq_some_iff.1 ho).1 rfl ⟨o, d, ho, hd⟩ hja
    rwa [got_dst ho hd] at this
/-- An operation that yields what was told. -/
theorem box_same {o : Oper} {a : Act} {w : World} {l : List (Option Value)} {i : Nat} (v : Value) (hl : l[i]? = some (some v)) (hrun : (execOp a.eval o).run P w = .ok (.value v) w) :
    o.wp P a w (fun a' w' => ∃ v, a' = a.put o.dst v ∧ saidV l i v ∧ Below w.heap.size w w') Q := by
  unfold Oper.wp
  rw [hrun]
  exact ⟨v, rfl, fun u hu => by rw [hl] at hu; injection hu with hu; injection hu, Below.refl _ _⟩
theorem box_any {o : Oper} {a : Act} {w : World} {l : List (Option Value)} {i : Nat} (v : Value) (hl : l[i]? = some none) (hrun : (execOp a.eval o).run P w = .ok (.value v) w) :
    o.wp P a w (fun a' w' => ∃ v, a' = a.put o.dst v ∧ saidV l i v ∧ Below w.heap.size w w') Q := by
  unfold Oper.wp
  rw [hrun]
  refine ⟨v, rfl, fun u hu => ?_, Below.refl _ _⟩
  rw [hl] at hu
  cases hu
/-- A call. -/
theorem box_enters {o : Oper} {a : Act} {w : World} {f : FuncId} {args : Array Value} {l : List (Option Value)} {i : Nat} (v : Value) (hl : l[i]? = some (some v)) (hrun : (execOp a.eval o).run P w = .ok (.enter f args) w)
    (hc : Calls P f args w fun e w' => e = .returned v ∧ Below w.heap.size w w') :
    o.wp P a w (fun a' w' => ∃ v, a' = a.put o.dst v ∧ saidV l i v ∧ Below w.heap.size w w') Q := by
  unfold Oper.wp
  rw [hrun, Oper.upon_enter]
  refine hc.mono ?_
  rintro e w' ⟨rfl, hb⟩
  exact ⟨v, rfl, fun u hu => by rw [hl] at hu; injection hu with hu; injection hu, hb⟩
end
end Go.Proofs.Ytofnldmbokdkbaa
