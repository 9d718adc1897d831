/-
  A region in the text's own order, by the laws for one whose order is drawn: the text's order is one that its edges allow.
-/
import Derived.Test.YthlclhfepnmaeaaPiece
namespace Go.Proofs.Ythlclhfepnmaeaa
open Go.RowKit

section
variable {P : Program} {ops : Array Oper} {Q : Exit → Act → World → Prop}
theorem wpOps_of_any (hlow : lowB ops = true) : ∀ (m k fuel : Nat) (listed : Array Bool) (a : Act) (w : World), k + m = ops.size → listed.size = ops.size → (∀ j, j < ops.size → listed.getD j false = decide (j < k)) → m ≤ fuel →
    wpAny P .any ops Q fuel listed a w → wpOps P ops Q (List.range' k m) a w := by
  intro m
  induction m with
  | zero =>
    intro k fuel listed a w hk hl hj _ h
    have hr : Region.ready .any ops listed = [] := by
      unfold Region.ready
      rw [List.filter_eq_nil_iff]
      intro i hi
      rw [List.mem_range] at hi
      have h1 := hj i hi
      rw [decide_eq_true (by omega)] at h1
      have : listed.getD i true = true := by
        simp only [Array.getD_eq_getD_getElem?, Array.getElem?_eq_getElem (show i < listed.size by omega), Option.getD_some] at h1 ⊢
        exact h1
      simp [this]
    cases fuel with
    | zero => exact h.2
    | succ f => exact h.1 hr
  | succ m ih =>
    intro k fuel listed a w hk hl hj hf h
    obtain ⟨f, rfl⟩ : ∃ f, fuel = f + 1 := ⟨fuel - 1, by omega⟩
    have hkl : k < ops.size := by omega
    have ho : ops[k]? = some ops[k] := Array.getElem?_eq_getElem hkl
    have hready : k ∈ Region.ready .any ops listed := by
      unfold Region.ready
      rw [List.mem_filter, List.mem_range]
      refine ⟨hkl, ?_⟩
      have h1 := hj k hkl
      rw [decide_eq_false (by omega)] at h1
      have h2 : listed.getD k true = false := by
        simp only [Array.getD_eq_getD_getElem?, Array.getElem?_eq_getElem (show k < listed.size by omega), Option.getD_some] at h1 ⊢
        exact h1
      rw [ho]
      simp only [h2, Bool.not_false, Option.map_some, Option.getD_some, Bool.true_and, Array.all_eq_true', Bool.or_eq_true, Bool.not_eq_true']
      intro e he
      cases hb : Region.binds .any e with
      | false => exact .inl rfl
      | true =>
        right
        unfold lowB at hlow
        rw [List.all_eq_true] at hlow
        have h3 := hlow k (List.mem_range.2 hkl)
        rw [ho] at h3
        simp only [Option.map_some, Option.getD_some, Array.all_eq_true', Bool.or_eq_true, Bool.not_eq_true', decide_eq_true_eq] at h3
        have h4 := h3 e he
        rw [hb] at h4
        rcases h4 with h4 | h4
        · cases h4
        · rw [hj e.on (by omega), decide_eq_true (by omega)]
    have h2 := h.2 k hready
    rw [List.range'_succ, wpOps_cons]
    refine wpOp_mono (fun a' w' h' => ?_) h2
    refine ih (k + 1) f _ a' w' (by omega) (by simpa using hl) (fun j hjj => ?_) (by omega) h'
    rw [set_getD _ _ _ (by omega), hj j hjj]
    by_cases e : k = j
    · subst e; simp
    · rw [if_neg e]
      simp only [decide_eq_decide]
      omega
theorem region_phases_plain {id : Nat} {a0 : Act} {w0 : World} (V : Nat → Value → Prop) (M : Phases) (hB : onceB ops = true) (hR : roomB ops a0.tmps.size = true) (hlow : lowB ops = true)
    (hM : ∀ L L' f f' w, (∀ j, j < ops.size → L j = L' j) → (∀ j, j < ops.size → L j = true → (∃ o d, ops[j]? = some o ∧ o.dst = some d) → f j = f' j) → M L f w → M L' f' w)
    (h0 : M (fun _ => false) (got ops a0) w0)
    (duty : ∀ i o, ops[i]? = some o → DutyP P ops Q V M a0 i o)
    (fin : ∀ a w, M (fun _ => true) (got ops a) w → a.tmps.size = a0.tmps.size → a.defers = a0.defers → (∀ (j : Nat) (o : Oper) (d : Tmp), ops[j]? = some o → o.dst = some d → V j (a.tmps.getD d undef)) →
      (∀ t : Tmp, neverB ops t = true → a.tmps.getD t undef = a0.tmps.getD t undef) → Q .normal a w) :
    (Code.region id ops false).wp P Q a0 w0 := by
  refine wp_region ?_
  have hrep : ∀ j, (Array.replicate ops.size false).getD j false = false := by
    intro j
    simp only [Array.getD_eq_getD_getElem?, Array.getElem?_replicate]
    split <;> rfl
  rw [List.range_eq_range']
  refine wpOps_of_any hlow ops.size 0 ops.size (Array.replicate ops.size false) a0 w0 (by omega) (by simp) (fun j _ => by rw [hrep]; simp) (Nat.le_refl _) ?_
  refine wpAny_nowP hB hR hM duty ?_ _ _ _ _ (Nat.le_trans (List.length_filter_le _ _) (by simp)) ⟨hM _ _ _ _ _ (fun j _ => (hrep j).symm) (fun _ _ h => by cases h) h0, rfl, rfl, by simp, ?_, fun _ _ => rfl, ?_⟩
  · intro listed a w hr hn
    have hall := hend_of hlow listed hn.len hr
    refine fin a w (hM _ _ _ _ _ (fun j hj => hall j hj) (fun _ _ _ _ => rfl) hn.phase) hn.size hn.defers (fun j o d ho hd => hn.done_ j o d (hall j (Array.getElem?_eq_some_iff.1 ho).1) ho hd) (fun t ht => hn.old t (fun j o _ ho hd => by
      unfold neverB at ht
      rw [Array.all_eq_true'] at ht
      have := ht o (Array.mem_of_getElem? ho)
      rw [hd] at this
      simp at this))
  · intro j o d hj
    rw [hrep] at hj; cases hj
  · intro j i hj
    rw [hrep] at hj; cases hj
theorem region_grows_p {id : Nat} {a0 : Act} {W : World} (n : Nat) (hn : a0.tmps.size = n) (l : List Say) (hB : onceB ops = true) (hR : roomB ops n = true) (hlow : lowB ops = true)
    (duty : ∀ i o, ops[i]? = some o → DutyG P ops Q l a0 W i o)
    (fin : ∀ a w, Below W.heap.size W w → a.tmps.size = a0.tmps.size → a.defers = a0.defers → (∀ (j : Nat) (o : Oper) (d : Tmp), ops[j]? = some o → o.dst = some d → (says l j).p w (a.tmps.getD d undef)) →
      (∀ t : Tmp, neverB ops t = true → a.tmps.getD t undef = a0.tmps.getD t undef) → Q .normal a w) :
    (Code.region id ops false).wp P Q a0 W := by
  refine region_phases_plain (fun _ _ => True) (grown ops l W) hB (by rw [hn]; exact hR) hlow ?_ ?_ ?_ ?_
  · intro L L' f f' w hL hf h
    exact ⟨h.1, fun j hj hl hex => by rw [← hf j hj (by rw [hL j hj]; exact hl) hex]; exact h.2 j hj (by rw [hL j hj]; exact hl) hex⟩
  · exact ⟨Below.refl _ _, fun _ _ h => by cases h⟩
  · intro i o ho L a w hph hsz hLi hnot hyes old dep
    have h1 := duty i o ho a w hph.1 hsz old (fun j oj d hbd hoj hd => by
      have := hph.2 j (Array.getElem?_eq_some_iff.1 hoj).1 (hyes j hbd) ⟨oj, d, hoj, hd⟩
      rwa [got_dst hoj hd] at this)
    split at h1
    · rename_i hw
      rw [if_pos hw]
      refine Oper.wp_mono ?_ h1
      rintro a' w' ⟨v, e, hs, hb⟩
      exact ⟨v, e, trivial, grown_step hph hs hb⟩
    · rename_i hw
      rw [if_neg hw]
      exact ⟨trivial, grown_step hph h1 (Below.refl _ _)⟩
  · intro a w hph hsz hdf _ keep
    refine fin a w hph.1 hsz hdf (fun j o d ho hd => ?_) keep
    have := hph.2 j (Array.getElem?_eq_some_iff.1 ho).1 rfl ⟨o, d, ho, hd⟩
    rwa [got_dst ho hd] at this
theorem region_turns_p {G : World → World → Prop} {id : Nat} {a0 : Act} {W : World} (n : Nat) (hn : a0.tmps.size = n) (l : List (Word G)) (S : (Nat → Bool) → World → Prop) (hr : ∀ w, G w w) (ht : ∀ {a b c}, G a b → G b c → G a c)
    (hB : onceB ops = true) (hR : roomB ops n = true) (hlow : lowB ops = true)
    (hSx : ∀ L L' w, (∀ j, j < ops.size → L j = L' j) → S L w → S L' w) (hS0 : S (fun _ => false) W)
    (duty : ∀ i o, ops[i]? = some o → DutyT P ops Q l S a0 W i o)
    (fin : ∀ a w, G W w → S (fun _ => true) w → a.tmps.size = a0.tmps.size → a.defers = a0.defers → (∀ (j : Nat) (o : Oper) (d : Tmp), ops[j]? = some o → o.dst = some d → (words l j).p w (a.tmps.getD d undef)) →
      (∀ t : Tmp, neverB ops t = true → a.tmps.getD t undef = a0.tmps.getD t undef) → Q .normal a w) :
    (Code.region id ops false).wp P Q a0 W := by
  refine region_phases_plain (fun _ _ => True) (turned ops l S W) hB (by rw [hn]; exact hR) hlow ?_ ?_ ?_ ?_
  · intro L L' f f' w hL hf h
    exact ⟨h.1, hSx _ _ _ hL h.2.1, fun j hj hl hex => by rw [← hf j hj (by rw [hL j hj]; exact hl) hex]; exact h.2.2 j hj (by rw [hL j hj]; exact hl) hex⟩
  · exact ⟨hr W, hS0, fun _ _ h => by cases h⟩
  · intro i o ho L a w hph hsz hLi hnot hyes old dep
    have h1 := duty i o ho L a w hph.1 hph.2.1 hLi hnot hyes hsz old (fun j oj d hbd hoj hd => by
      have := hph.2.2 j (Array.getElem?_eq_some_iff.1 hoj).1 (hyes j hbd) ⟨oj, d, hoj, hd⟩
      rwa [got_dst hoj hd] at this)
    split at h1
    · rename_i hw
      rw [if_pos hw]
      refine Oper.wp_mono ?_ h1
      rintro a' w' ⟨v, e, hs, hS, hb⟩
      exact ⟨v, e, trivial, turned_step ht hph hs hS hb⟩
    · rename_i hw
      rw [if_neg hw]
      exact ⟨trivial, turned_step ht hph h1.1 h1.2 (hr w)⟩
  · intro a w hph hsz hdf _ keep
    refine fin a w hph.1 hph.2.1 hsz hdf (fun j o d ho hd => ?_) keep
    have := hph.2.2 j (Array.getElem?_eq_some_iff.1 ho).1 rfl ⟨o, d, ho, hd⟩
    rwa [got_dst ho hd] at this
end
end Go.Proofs.Ythlclhfepnmaeaa
