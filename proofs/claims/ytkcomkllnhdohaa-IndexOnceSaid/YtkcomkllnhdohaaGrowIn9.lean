/-
  The law of phases inside a round, for regions whose operations defer nothing: what an operation owes without a fence serves in a round too. And the law of regions that only grow the memory, there.
-/
import Derived.Test.YtkcomkllnhdohaaSort9
import Derived.OrdersIn
import Derived.OwnWalkIn
namespace Go.Proofs.Ytkcomkllnhdohaa
open Go.RowKit
set_option maxRecDepth 20000

set_option linter.unusedSimpArgs false
set_option linter.unusedVariables false

/-- An operation that defers nothing. -/
def calmOp : Op → Bool
  | .defer _ => false
  | _ => true
section
variable {P : Program} {ops : Array Oper} {Q : Exit → Act → World → Prop}
theorem wpIn_of_wp {l n : Nat} {o : Oper} {a : Act} {w : World} {K : Act → World → Prop} (hp : calmOp o.op = true) (h : o.wp P a w K Q) : o.wpIn (Fence.wide.inRound l) n P a w K Q := by
  unfold Oper.wpIn
  refine ⟨fun _ _ => trivial, ?_⟩
  rw [Oper.semAt_plain _ _ _ (by intro c hc; rw [hc] at hp; cases hp)]
  unfold Oper.wp at h
  generalize (execOp a.eval o).run P w = r at *
  cases r with
  | ok x w' =>
    cases x with
    | enter f args => exact ⟨fun e => (nomatch e), callsIn_wide.2 h⟩
    | row r args => exact ⟨fun e => (nomatch e), fun c cs _ => let ⟨v, w', hr, s⟩ := h c cs; ⟨v, w', hr, stepsIn_wide.2 s⟩⟩
    | round l f tmps assign body => exact h.elim
    | _ => exact h
  | halt x w' => cases x <;> exact h
theorem wpAnyIn_nowD {l : Nat} {n : Nat} {V : Nat → Value → Prop} {M : Phases} {a0 : Act} (hpl : (ops.all fun o => calmOp o.op) = true) (hB : onceB ops = true) (hR : roomB ops a0.tmps.size = true) (hM : ∀ L L' f f' w, (∀ j, j < ops.size → L j = L' j) → (∀ j, j < ops.size → L j = true → (∃ o d, ops[j]? = some o ∧ o.dst = some d) → f j = f' j) → M L f w → M L' f' w)
    (duty : ∀ i o, ops[i]? = some o → DutyP P ops Q V M a0 i o)
    (fin : ∀ listed a w, Region.ready .any ops listed = [] → NowP ops V M a0 listed a w → Q .normal a w) :
    ∀ (fuel : Nat) (listed : Array Bool) (a : Act) (w : World), ((List.range ops.size).filter fun i => !listed.getD i true).length ≤ fuel → NowP ops V M a0 listed a w → wpAnyIn (Fence.wide.inRound l) n P .any ops Q fuel listed a w := by
  intro fuel
  induction fuel with
  | zero =>
    intro listed a w hf hn
    have hr : Region.ready .any ops listed = [] := by
      have h0 : ((List.range ops.size).filter fun i => !listed.getD i true) = [] := List.eq_nil_of_length_eq_zero (by omega)
      unfold Region.ready
      rw [List.filter_eq_nil_iff] at h0 ⊢
      intro i hi
      have := h0 i hi
      simp only [Bool.and_eq_true, not_and]
      intro h1
      exact absurd h1 this
    exact ⟨hr, fin _ _ _ hr hn⟩
  | succ fuel ih =>
    intro listed a w hf hn
    refine ⟨fun hr => fin _ _ _ hr hn, fun i hi => ?_⟩
    have hmem := hi
    unfold Region.ready at hmem
    rw [List.mem_filter, List.mem_range] at hmem
    have ho : ops[i]? = some ops[i] := Array.getElem?_eq_getElem hmem.1
    have hready := hmem.2
    rw [ho] at hready
    simp only [Option.map_some, Option.getD_some, Bool.and_eq_true, Bool.not_eq_true'] at hready
    have hl : i < listed.size := by rw [hn.len]; exact hmem.1
    have hfuel : ((List.range ops.size).filter fun k => !(listed.setIfInBounds i true).getD k true).length ≤ fuel := by
      have h1 : ∀ l : List Nat, (l.filter fun k => !(listed.setIfInBounds i true).getD k true).length + (l.filter fun k => k == i).length ≤ (l.filter fun k => !listed.getD k true).length := by
        intro l
        induction l with
        | nil => simp
        | cons x l ihl =>
          simp only [List.filter_cons]
          by_cases e : x = i
          · subst e
            have e1 : (listed.setIfInBounds x true).getD x true = true := by
              simp only [Array.getD_eq_getD_getElem?, Array.getElem?_setIfInBounds]; simp [hl]
            simp only [e1, hready.1, beq_self_eq_true, Bool.not_true, Bool.not_false, if_true, Bool.false_eq_true, if_false, List.length_cons]
            omega
          · have e1 : (listed.setIfInBounds i true).getD x true = listed.getD x true := by
              simp only [Array.getD_eq_getD_getElem?, Array.getElem?_setIfInBounds]
              rw [if_neg (fun h => e h.symm)]
            have e2 : (x == i) = false := by simp [e]
            simp only [e1, e2, Bool.false_eq_true, if_false]
            split
            · simp only [List.length_cons]; omega
            · exact ihl
      have h2 := h1 (List.range ops.size)
      have h3 : 1 ≤ ((List.range ops.size).filter fun k => k == i).length := by
        have : i ∈ (List.range ops.size).filter fun k => k == i := by simp [hmem.1]
        exact List.length_pos_of_mem this
      omega
    have hif : listed.getD i false = false := by
      have h3 := hready.1
      simp only [Array.getD_eq_getD_getElem?] at h3 ⊢
      rw [Array.getElem?_eq_getElem hl] at h3 ⊢
      simpa using h3
    have hbehind : ∀ j, behind ops i j = true → listed.getD j false = true := by
      intro j hb
      unfold behind at hb
      rw [ho] at hb
      simp only [Option.map_some, Option.getD_some, Array.any_eq_true'] at hb
      obtain ⟨e', he', hbb⟩ := hb
      have h3 := hready.2
      rw [Array.all_eq_true'] at h3
      have h4 := h3 e' he'
      simp only [Bool.and_eq_true, beq_iff_eq] at hbb
      rw [hbb.1, hbb.2] at h4
      simpa using h4
    unfold wpOpIn
    rw [ho]
    have hd := duty i _ ho (fun j => listed.getD j false) a w hn.phase hn.size hif (fun j hj => by
        cases hx : listed.getD j false with
        | false => rfl
        | true => rw [ahead_spec hn.shut hj hx] at hif; cases hif) hbehind
      (fun t ht => hn.old t (fun j oj hj hoj hdst => by
        unfold oldB at ht
        rw [List.all_eq_true] at ht
        have h1 := ht j (List.mem_range.2 (Array.getElem?_eq_some_iff.1 hoj).1)
        rw [hoj] at h1
        simp only [Option.map_some, Option.getD_some, Bool.or_eq_true, hdst, bne_self_eq_false, Bool.false_eq_true, false_or] at h1
        have h2 := hn.shut j i hj h1
        rw [h2] at hif
        cases hif))
      (fun j oj d hb hoj hdst => hn.done_ j oj d (hbehind j hb) hoj hdst)
    have hpo : calmOp (ops[i]).op = true := by
      rw [Array.all_eq_true'] at hpl
      exact hpl _ (Array.mem_of_getElem? ho)
    show if Region.wanted ops[i] (yielded ops a.tmps) = true then _ else _
    split at hd
    · rename_i hw
      rw [if_pos hw]
      refine Oper.wpIn_mono ?_ (wpIn_of_wp hpo hd)
      rintro a' w' ⟨v, rfl, hv, hph⟩
      exact ih _ _ _ hfuel (hn.step hB hR hM hi ho hv hph)
    · rename_i hw
      rw [if_neg hw]
      refine ⟨fun _ _ => trivial, ?_⟩
      exact ih _ _ _ hfuel (hn.step hB hR hM hi ho hd.1 hd.2)

/-- The law. -/
theorem region_phasesD {l : Nat} {n : Nat} {id : Nat} {a0 : Act} {w0 : World} (V : Nat → Value → Prop) (M : Phases) (hm : P.follows .mixedOrders = true) (hpl : (ops.all fun o => calmOp o.op) = true) (hB : onceB ops = true) (hR : roomB ops a0.tmps.size = true) (hlow : lowB ops = true)
    (hM : ∀ L L' f f' w, (∀ j, j < ops.size → L j = L' j) → (∀ j, j < ops.size → L j = true → (∃ o d, ops[j]? = some o ∧ o.dst = some d) → f j = f' j) → M L f w → M L' f' w)
    (h0 : M (fun _ => false) (got ops a0) w0.drew)
    (duty : ∀ i o, ops[i]? = some o → DutyP P ops Q V M a0 i o)
    (fin : ∀ a w, M (fun _ => true) (got ops a) w → a.tmps.size = a0.tmps.size → a.defers = a0.defers → (∀ (j : Nat) (o : Oper) (d : Tmp), ops[j]? = some o → o.dst = some d → V j (a.tmps.getD d undef)) →
      (∀ t : Tmp, neverB ops t = true → a.tmps.getD t undef = a0.tmps.getD t undef) → Q .normal a w) :
    (Code.region id ops true).wpIn (Fence.wide.inRound l) n P Q a0 w0 := by
  refine wpIn_region_any hm ?_
  have hrep : ∀ j, (Array.replicate ops.size false).getD j false = false := by
    intro j
    simp only [Array.getD_eq_getD_getElem?, Array.getElem?_replicate]
    split <;> rfl
  refine wpAnyIn_nowD hpl hB hR hM duty ?_ _ _ _ _ (Nat.le_trans (List.length_filter_le _ _) (by simp)) ⟨hM _ _ _ _ _ (fun j _ => (hrep j).symm) (fun _ _ h => by cases h) h0, rfl, rfl, by simp, ?_, fun _ _ => rfl, ?_⟩
  · intro listed a w hr hn
    have hall := hend_of hlow listed hn.len hr
    refine fin a w (hM _ _ _ _ _ (fun j hj => hall j hj) (fun _ _ _ _ => rfl) hn.phase) hn.size hn.defers (fun j o d ho hd => hn.done_ j o d (hall j (Array.getElem?_eq_some_iff.1 ho).1) ho hd) (fun t ht => hn.old t (fun j o _ ho hd => by
      unfold neverB at ht
      rw [Array.all_eq_true'] at ht
      have := ht o (Array.mem_of_getElem? ho)
      rw [hd] at this
      simp at this))
  · intro j o d hj
    rw [hrep] at hj; cases hj
  · intro j i hj
    rw [hrep] at hj; cases hj

theorem region_growsD {l n id : Nat} {a0 : Act} {W : World} (ls : List Say) (hm : P.follows .mixedOrders = true) (hB : onceB ops = true) (hR : roomB ops a0.tmps.size = true) (hlow : lowB ops = true) (hpl : (ops.all fun o => calmOp o.op) = true)
    (duty : ∀ i o, ops[i]? = some o → DutyG P ops Q ls a0 W i o)
    (fin : ∀ a w, Below W.heap.size W w → a.tmps.size = a0.tmps.size → a.defers = a0.defers → (∀ (j : Nat) (o : Oper) (d : Tmp), ops[j]? = some o → o.dst = some d → (says ls j).p w (a.tmps.getD d undef)) →
      (∀ t : Tmp, neverB ops t = true → a.tmps.getD t undef = a0.tmps.getD t undef) → Q .normal a w) :
    (Code.region id ops true).wpIn (Fence.wide.inRound l) n P Q a0 W := by
  refine region_phasesD (fun _ _ => True) (grown ops ls W) hm hpl hB hR hlow ?_ ?_ ?_ ?_
  · intro L L' f f' w hL hf h
    exact ⟨h.1, fun j hj hl hex => by rw [← hf j hj (by rw [hL j hj]; exact hl) hex]; exact h.2 j hj (by rw [hL j hj]; exact hl) hex⟩
  · exact ⟨(Below.refl _ _).drew, fun _ _ h => by cases h⟩
  · intro i o ho L a w hph hsz hLi hnot hyes old dep
    have h1 := duty i o ho a w hph.1 hsz old (fun j oj d hbd hoj hd => by
      have := hph.2 j (Array.getElem?_eq_some_iff.1 hoj).1 (hyes j hbd) ⟨oj, d, hoj, hd⟩
      rwa [got_dst hoj hd] at this)
    split at h1
    · rename_i hw
      rw [if_pos hw]
      refine Oper.wp_mono ?_ h1
      rintro a' w' ⟨v, e, hs, hb⟩
      exact ⟨v, e, trivial, grown_step hph hs hb⟩
    · rename_i hw
      rw [if_neg hw]
      exact ⟨trivial, grown_step hph h1 (Below.refl _ _)⟩
  · intro a w hph hsz hdf _ keep
    refine fin a w hph.1 hsz hdf (fun j o d ho hd => ?_) keep
    have := hph.2 j (Array.getElem?_eq_some_iff.1 ho).1 rfl ⟨o, d, ho, hd⟩
    rwa [got_dst ho hd] at this
end
end Go.Proofs.Ytkcomkllnhdohaa
