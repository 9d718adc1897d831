/-
  A law for a region whose order is drawn: the world goes through phases, each told by which operations have come up and by what they yielded; each operation is shown to run from the phase at which it can come. Then, in whatever order they come, the last phase holds behind the region. (So many orders cost as many steps as there are operations.)
-/
import Derived.Test.YtofnldmbokdkbaaMem
import Derived.RegionTactic
namespace Go.Proofs.Ytofnldmbokdkbaa
open Go.RowKit

/-- Operation i comes behind operation j. -/
def behind (ops : Array Oper) (i j : Nat) : Bool := ((ops[i]?).map fun o => o.after.any fun e => Region.binds .any e && e.on == j).getD false
/-- No operation writes slot t but such as come behind operation i. -/
def oldB (ops : Array Oper) (i t : Nat) : Bool := (List.range ops.size).all fun j => ((ops[j]?).map fun o => o.dst != some t || behind ops j i).getD true
/-- Each slot is written once, and is there. -/
def onceB (ops : Array Oper) : Bool :=
  (List.range ops.size).all fun i => (List.range ops.size).all fun j => i == j || (match (ops[i]?).bind (·.dst), (ops[j]?).bind (·.dst) with | some d, some d' => d != d' | _, _ => true)
def roomB (ops : Array Oper) (n : Nat) : Bool := ops.toList.all fun o => match o.dst with | some d => decide (d < n) | none => true

section
variable {P : Program} {ops : Array Oper} {Q : Exit → Act → World → Prop}

theorem getD_put (a : Act) (d : Nat) (v : Value) (t : Nat) : (a.put (some d) v).tmps.getD t undef = if t = d ∧ d < a.tmps.size then v else a.tmps.getD t undef := by
  unfold Act.put
  simp only [Array.getD_eq_getD_getElem?]
  rw [Array.getElem?_setIfInBounds]
  by_cases h : d = t
  · subst h
    by_cases h2 : d < a.tmps.size <;> simp [h2]
  · have h' : ¬ t = d := fun e => h e.symm
    simp [h, h']

theorem set_getD (l : Array Bool) (i j : Nat) (h : i < l.size) : (l.setIfInBounds i true).getD j false = if i = j then true else l.getD j false := by
  simp only [Array.getD_eq_getD_getElem?]
  rw [Array.getElem?_setIfInBounds]
  by_cases e : i = j
  · subst e; simp [h]
  · simp [e]

/-- All edges that bind lead back. -/
def lowB (ops : Array Oper) : Bool := (List.range ops.size).all fun i => ((ops[i]?).map fun o => o.after.all fun e => !Region.binds .any e || decide (e.on < i)).getD true
theorem hend_of (h : lowB ops = true) : ∀ listed : Array Bool, listed.size = ops.size → Region.ready .any ops listed = [] → ∀ j, j < ops.size → listed.getD j false = true := by
  intro listed hl hr j
  induction j using Nat.strongRecOn with
  | ind j ih =>
    intro hj
    have ho : ops[j]? = some ops[j] := Array.getElem?_eq_getElem hj
    unfold lowB at h
    rw [List.all_eq_true] at h
    have h1 := h j (List.mem_range.2 hj)
    rw [ho] at h1
    simp only [Option.map_some, Option.getD_some, Array.all_eq_true'] at h1
    unfold Region.ready at hr
    rw [List.filter_eq_nil_iff] at hr
    have h2 := hr j (List.mem_range.2 hj)
    rw [ho] at h2
    simp only [Option.map_some, Option.getD_some, Bool.and_eq_true, Bool.not_eq_true', not_and] at h2
    have hget : listed[j]? = some listed[j] := Array.getElem?_eq_getElem (by omega)
    simp only [Array.getD_eq_getD_getElem?, hget, Option.getD_some] at h2 ⊢
    cases hb : listed[j] with
    | true => rfl
    | false =>
      exact absurd (by
        rw [Array.all_eq_true']
        intro e he
        have h3 := h1 e he
        simp only [Bool.or_eq_true, Bool.not_eq_true', decide_eq_true_eq] at h3 ⊢
        rcases h3 with h3 | h3
        · exact .inl h3
        · have h4 := ih e.on h3 (by omega)
          simp only [Array.getD_eq_getD_getElem?] at h4
          exact .inr h4) (h2 hb)

theorem wanted_none {o : Oper} {y : Nat → Option Bool} (h : o.guard = none) : Region.wanted o y = true := by simp [Region.wanted, h]
theorem wanted_some {o : Oper} {a : Act} {j d : Nat} {oj : Oper} {b : Bool} (h : o.guard = some (j, b)) (hj : ops[j]? = some oj) (hd : oj.dst = some d) (hs : d < a.tmps.size) (hv : a.tmps.getD d undef = .bool b) : Region.wanted o (yielded ops a.tmps) = true := by
  have : a.tmps[d]? = some (.bool b) := by
    rw [Array.getElem?_eq_getElem hs]
    simp only [Array.getD_eq_getD_getElem?, Array.getElem?_eq_getElem hs, Option.getD_some] at hv
    rw [hv]
  simp [Region.wanted, h, yielded, hj, hd, this]

/-- Which operations come ahead of each, as masks of bits, direct or not. -/
def maskOf (prev : List Nat) (o : Oper) : Nat := o.after.toList.foldl (fun m e => if Region.binds .any e then m ||| 2 ^ e.on ||| prev.getD e.on 0 else m) 0
def masks : List Oper → List Nat → List Nat
  | [], prev => prev
  | o :: l, prev => masks l (prev ++ [maskOf prev o])
def ahead (ops : Array Oper) (i j : Nat) : Bool := ((masks ops.toList []).getD i 0).testBit j

theorem maskOf_spec {prev : List Nat} {o : Oper} {L : Nat → Bool} (hd : ∀ e ∈ o.after.toList, Region.binds .any e = true → L e.on = true) (hp : ∀ i j, L i = true → (prev.getD i 0).testBit j = true → L j = true) :
    ∀ j, (maskOf prev o).testBit j = true → L j = true := by
  unfold maskOf
  have : ∀ (es : List Edge) (m : Nat), (∀ e ∈ es, Region.binds .any e = true → L e.on = true) → (∀ j, m.testBit j = true → L j = true) →
      ∀ j, (es.foldl (fun m e => if Region.binds .any e then m ||| 2 ^ e.on ||| prev.getD e.on 0 else m) m).testBit j = true → L j = true := by
    intro es
    induction es with
    | nil => intro m _ hm j hj; exact hm j hj
    | cons e es ih =>
      intro m hes hm j hj
      rw [List.foldl_cons] at hj
      refine ih _ (fun e' he' => hes e' (List.mem_cons_of_mem _ he')) ?_ j hj
      intro j hj
      split at hj
      · rename_i hb
        rw [Nat.testBit_or, Nat.testBit_or] at hj
        simp only [Bool.or_eq_true] at hj
        have hon := hes e (List.mem_cons_self ..) hb
        rcases hj with (hj | hj) | hj
        · exact hm j hj
        · rw [Nat.testBit_two_pow] at hj
          have : e.on = j := by simpa using hj
          rw [← this]; exact hon
        · exact hp _ _ hon hj
      · exact hm j hj
  exact this _ 0 hd (fun j hj => by simp at hj)
theorem masks_spec {L : Nat → Bool} : ∀ (l : List Oper) (prev : List Nat), (∀ i j, L i = true → (prev.getD i 0).testBit j = true → L j = true) →
    (∀ i o, l[i]? = some o → L (prev.length + i) = true → ∀ e ∈ o.after.toList, Region.binds .any e = true → L e.on = true) →
    ∀ i j, L i = true → ((masks l prev).getD i 0).testBit j = true → L j = true
  | [], prev, hp, _ => hp
  | o :: l, prev, hp, hl => by
    refine masks_spec l (prev ++ [maskOf prev o]) ?_ ?_
    · intro i j hi hj
      by_cases h : i < prev.length
      · rw [List.getD_eq_getElem?_getD, List.getElem?_append_left h, ← List.getD_eq_getElem?_getD] at hj
        exact hp i j hi hj
      · by_cases h2 : i = prev.length
        · subst h2
          rw [List.getD_eq_getElem?_getD, List.getElem?_append_right (Nat.le_refl _), Nat.sub_self] at hj
          exact maskOf_spec (hl 0 o rfl hi) hp j hj
        · rw [List.getD_eq_getElem?_getD, List.getElem?_eq_none (by simp; omega)] at hj
          simp at hj
    · intro i o' hi hL
      refine hl (i + 1) o' hi ?_
      rw [List.length_append, List.length_singleton] at hL
      rw [show prev.length + (i + 1) = prev.length + 1 + i by omega]; exact hL
theorem ahead_spec {listed : Array Bool} (hs : ∀ j i, listed.getD j false = true → behind ops j i = true → listed.getD i false = true) {i j : Nat} (ha : ahead ops i j = true) (hi : listed.getD i false = true) : listed.getD j false = true := by
  refine masks_spec (L := fun i => listed.getD i false) ops.toList [] (by simp) ?_ i j hi ha
  intro i o ho hL e he hb
  refine hs i e.on (by simpa using hL) ?_
  have ho' : ops[i]? = some o := by simpa using ho
  unfold behind
  rw [ho']
  simp only [Option.map_some, Option.getD_some, Array.any_eq_true']
  exact ⟨e, by simpa using he, by simp [hb]⟩
/-- What operation j has yielded. -/
def got (ops : Array Oper) (a : Act) (j : Nat) : Value := match (ops[j]?).bind (·.dst) with | some d => a.tmps.getD d undef | none => undef
theorem got_dst {a : Act} {j d : Nat} {o : Oper} (ho : ops[j]? = some o) (hd : o.dst = some d) : got ops a j = a.tmps.getD d undef := by simp [got, ho, hd]
/-- The phases: told by which operations have come up, and by what those have yielded. -/
abbrev Phases := (Nat → Bool) → (Nat → Value) → World → Prop
def also (L : Nat → Bool) (i : Nat) : Nat → Bool := fun j => j == i || L j
def yielding (f : Nat → Value) (i : Nat) (v : Value) : Nat → Value := fun j => if j = i then v else f j

/-- What holds at any moment of the region. -/
structure NowP (ops : Array Oper) (V : Nat → Value → Prop) (M : Phases) (a0 : Act) (listed : Array Bool) (a : Act) (w : World) : Prop where
  phase : M (fun j => listed.getD j false) (got ops a) w
  size : a.tmps.size = a0.tmps.size
  defers : a.defers = a0.defers
  len : listed.size = ops.size
  done_ : ∀ j o d, listed.getD j false = true → ops[j]? = some o → o.dst = some d → V j (a.tmps.getD d undef)
  old : ∀ t, (∀ j o, listed.getD j false = true → ops[j]? = some o → o.dst ≠ some t) → a.tmps.getD t undef = a0.tmps.getD t undef
  shut : ∀ j i, listed.getD j false = true → behind ops j i = true → listed.getD i false = true

/-- One operation's duty. -/
def DutyP (P : Program) (ops : Array Oper) (Q : Exit → Act → World → Prop) (V : Nat → Value → Prop) (M : Phases) (a0 : Act) (i : Nat) (o : Oper) : Prop :=
  ∀ (L : Nat → Bool) (a : Act) (w : World), M L (got ops a) w → a.tmps.size = a0.tmps.size → L i = false → (∀ j, ahead ops j i = true → L j = false) → (∀ j, behind ops i j = true → L j = true) →
    (∀ t, oldB ops i t = true → a.tmps.getD t undef = a0.tmps.getD t undef) →
    (∀ j oj d, behind ops i j = true → ops[j]? = some oj → oj.dst = some d → V j (a.tmps.getD d undef)) →
    if Region.wanted o (yielded ops a.tmps) = true then o.wp P a w (fun a' w' => ∃ v, a' = a.put o.dst v ∧ V i v ∧ M (also L i) (yielding (got ops a) i v) w') Q
    else V i undef ∧ M (also L i) (yielding (got ops a) i undef) w

theorem NowP.step {V : Nat → Value → Prop} {M : Phases} {a0 : Act} (hB : onceB ops = true) (hR : roomB ops a0.tmps.size = true) (hM : ∀ L L' f f' w, (∀ j, j < ops.size → L j = L' j) → (∀ j, j < ops.size → L j = true → (∃ o d, ops[j]? = some o ∧ o.dst = some d) → f j = f' j) → M L f w → M L' f' w)
    {listed : Array Bool} {a : Act} {w : World} (h : NowP ops V M a0 listed a w) {i : Nat} {o : Oper} (hi : i ∈ Region.ready .any ops listed) (ho : ops[i]? = some o)
    {v : Value} {w' : World} (hv : V i v) (hph : M (also (fun j => listed.getD j false) i) (yielding (got ops a) i v) w') : NowP ops V M a0 (listed.setIfInBounds i true) (a.put o.dst v) w' := by
  have hlt : i < ops.size := (Array.getElem?_eq_some_iff.1 ho).1
  have hl : i < listed.size := by rw [h.len]; exact hlt
  have hready : listed.getD i true = false ∧ (o.after.all fun e => !Region.binds .any e || listed.getD e.on false) = true := by
    unfold Region.ready at hi
    rw [List.mem_filter] at hi
    have := hi.2
    rw [ho] at this
    simpa using this
  have hroom : ∀ d, o.dst = some d → d < a.tmps.size := by
    intro d hd
    unfold roomB at hR
    rw [List.all_eq_true] at hR
    have := hR o (Array.mem_toList_iff.2 (Array.mem_of_getElem? ho))
    rw [hd] at this
    rw [h.size]
    simpa using this
  have hapart : ∀ j oj d d', i ≠ j → ops[j]? = some oj → oj.dst = some d → o.dst = some d' → ¬ d = d' := by
    intro j oj d d' e hoj hd hod e2
    subst e2
    unfold onceB at hB
    rw [List.all_eq_true] at hB
    have h1 := hB i (List.mem_range.2 hlt)
    rw [List.all_eq_true] at h1
    have h2 := h1 j (List.mem_range.2 (Array.getElem?_eq_some_iff.1 hoj).1)
    rw [ho, hoj] at h2
    simp [hod, hd, e] at h2
  have hother : ∀ j oj d, i ≠ j → ops[j]? = some oj → oj.dst = some d → (a.put o.dst v).tmps.getD d undef = a.tmps.getD d undef := by
    intro j oj d e hoj hd
    cases hod : o.dst with
    | none => rfl
    | some d' => rw [getD_put, if_neg (fun hh => hapart j oj d d' e hoj hd hod hh.1)]
  refine ⟨?_, ?_, ?_, by simp [h.len], ?_, ?_, ?_⟩
  · refine hM _ _ _ _ _ (fun j _ => ?_) (fun j hj _ hex => ?_) hph
    · show (j == i || listed.getD j false) = (listed.setIfInBounds i true).getD j false
      rw [set_getD _ _ _ hl]
      by_cases e : i = j
      · subst e; simp
      · rw [if_neg e, show (j == i) = false by simp; exact fun h => e h.symm, Bool.false_or]
    · obtain ⟨oj, d, hoj, hd⟩ := hex
      rw [got_dst hoj hd]
      by_cases e : j = i
      · subst e
        rw [ho] at hoj
        injection hoj with hoj
        subst hoj
        rw [hd, getD_put, if_pos ⟨rfl, hroom d hd⟩]
        simp [yielding]
      · rw [hother j oj d (fun h => e h.symm) hoj hd, ← got_dst hoj hd]
        simp [yielding, e]
  · rw [← h.size]; unfold Act.put; cases o.dst <;> simp
  · rw [← h.defers]; unfold Act.put; cases o.dst <;> rfl
  · intro j oj d hj hoj hd
    rw [set_getD _ _ _ hl] at hj
    by_cases e : i = j
    · subst e
      rw [ho] at hoj
      injection hoj with hoj
      subst hoj
      rw [hd, getD_put, if_pos ⟨rfl, hroom d hd⟩]
      exact hv
    · rw [if_neg e] at hj
      rw [hother j oj d e hoj hd]
      exact h.done_ j oj d hj hoj hd
  · intro t ht
    have h1 := h.old t (fun j oj hj hoj => ht j oj (by rw [set_getD _ _ _ hl]; by_cases e : i = j <;> simp [e, hj]) hoj)
    have h2 := ht i o (by rw [set_getD _ _ _ hl]; simp) ho
    cases hod : o.dst with
    | none => exact h1
    | some d' =>
      rw [getD_put, if_neg (fun hh => h2 (by rw [hod, hh.1]))]
      exact h1
  · intro j k hj hjk
    rw [set_getD _ _ _ hl] at hj ⊢
    by_cases e : i = j
    · subst e
      have : listed.getD k false = true := by
        unfold behind at hjk
        rw [ho] at hjk
        simp only [Option.map_some, Option.getD_some, Array.any_eq_true'] at hjk
        obtain ⟨e', he', hb⟩ := hjk
        have h3 := hready.2
        rw [Array.all_eq_true'] at h3
        have h4 := h3 e' he'
        simp only [Bool.and_eq_true, beq_iff_eq] at hb
        rw [hb.1, hb.2] at h4
        simpa using h4
      by_cases e2 : i = k <;> simp [e2, this]
    · rw [if_neg e] at hj
      by_cases e2 : i = k
      · simp [e2]
      · rw [if_neg e2]; exact h.shut j k hj hjk

theorem wpAny_nowP {V : Nat → Value → Prop} {M : Phases} {a0 : Act} (hB : onceB ops = true) (hR : roomB ops a0.tmps.size = true) (hM : ∀ L L' f f' w, (∀ j, j < ops.size → L j = L' j) → (∀ j, j < ops.size → L j = true → (∃ o d, ops[j]? = some o ∧ o.dst = some d) → f j = f' j) → M L f w → M L' f' w)
    (duty : ∀ i o, ops[i]? = some o → DutyP P ops Q V M a0 i o)
    (fin : ∀ listed a w, Region.ready .any ops listed = [] → NowP ops V M a0 listed a w → Q .normal a w) :
    ∀ (fuel : Nat) (listed : Array Bool) (a : Act) (w : World), ((List.range ops.size).filter fun i => !listed.getD i true).length ≤ fuel → NowP ops V M a0 listed a w → wpAny P .any ops Q fuel listed a w := by
  intro fuel
  induction fuel with
  | zero =>
    intro listed a w hf hn
    have hr : Region.ready .any ops listed = [] := by
      have h0 : ((List.range ops.size).filter fun i => !listed.getD i true) = [] := List.eq_nil_of_length_eq_zero (by omega)
      unfold Region.ready
      rw [List.filter_eq_nil_iff] at h0 ⊢
      intro i hi
      have := h0 i hi
      simp only [Bool.and_eq_true, not_and]
      intro h1
      exact absurd h1 this
    exact ⟨hr, fin _ _ _ hr hn⟩
  | succ fuel ih =>
    intro listed a w hf hn
    refine ⟨fun hr => fin _ _ _ hr hn, fun i hi => ?_⟩
    have hmem := hi
    unfold Region.ready at hmem
    rw [List.mem_filter, List.mem_range] at hmem
    have ho : ops[i]? = some ops[i] := Array.getElem?_eq_getElem hmem.1
    have hready := hmem.2
    rw [ho] at hready
    simp only [Option.map_some, Option.getD_some, Bool.and_eq_true, Bool.not_eq_true'] at hready
    have hl : i < listed.size := by rw [hn.len]; exact hmem.1
    have hfuel : ((List.range ops.size).filter fun k => !(listed.setIfInBounds i true).getD k true).length ≤ fuel := by
      have h1 : ∀ l : List Nat, (l.filter fun k => !(listed.setIfInBounds i true).getD k true).length + (l.filter fun k => k == i).length ≤ (l.filter fun k => !listed.getD k true).length := by
        intro l
        induction l with
        | nil => simp
        | cons x l ihl =>
          simp only [List.filter_cons]
          by_cases e : x = i
          · subst e
            have e1 : (listed.setIfInBounds x true).getD x true = true := by
              simp only [Array.getD_eq_getD_getElem?, Array.getElem?_setIfInBounds]; simp [hl]
            simp only [e1, hready.1, beq_self_eq_true, Bool.not_true, Bool.not_false, if_true, Bool.false_eq_true, if_false, List.length_cons]
            omega
          · have e1 : (listed.setIfInBounds i true).getD x true = listed.getD x true := by
              simp only [Array.getD_eq_getD_getElem?, Array.getElem?_setIfInBounds]
              rw [if_neg (fun h => e h.symm)]
            have e2 : (x == i) = false := by simp [e]
            simp only [e1, e2, Bool.false_eq_true, if_false]
            split
            · simp only [List.length_cons]; omega
            · exact ihl
      have h2 := h1 (List.range ops.size)
      have h3 : 1 ≤ ((List.range ops.size).filter fun k => k == i).length := by
        have : i ∈ (List.range ops.size).filter fun k => k == i := by simp [hmem.1]
        exact List.length_pos_of_mem this
      omega
    have hif : listed.getD i false = false := by
      have h3 := hready.1
      simp only [Array.getD_eq_getD_getElem?] at h3 ⊢
      rw [Array.getElem?_eq_getElem hl] at h3 ⊢
      simpa using h3
    have hbehind : ∀ j, behind ops i j = true → listed.getD j false = true := by
      intro j hb
      unfold behind at hb
      rw [ho] at hb
      simp only [Option.map_some, Option.getD_some, Array.any_eq_true'] at hb
      obtain ⟨e', he', hbb⟩ := hb
      have h3 := hready.2
      rw [Array.all_eq_true'] at h3
      have h4 := h3 e' he'
      simp only [Bool.and_eq_true, beq_iff_eq] at hbb
      rw [hbb.1, hbb.2] at h4
      simpa using h4
    unfold wpOp
    rw [ho]
    have hd := duty i _ ho (fun j => listed.getD j false) a w hn.phase hn.size hif (fun j hj => by
        cases hx : listed.getD j false with
        | false => rfl
        | true => rw [ahead_spec hn.shut hj hx] at hif; cases hif) hbehind
      (fun t ht => hn.old t (fun j oj hj hoj hdst => by
        unfold oldB at ht
        rw [List.all_eq_true] at ht
        have h1 := ht j (List.mem_range.2 (Array.getElem?_eq_some_iff.1 hoj).1)
        rw [hoj] at h1
        simp only [Option.map_some, Option.getD_some, Bool.or_eq_true, hdst, bne_self_eq_false, Bool.false_eq_true, false_or] at h1
        have h2 := hn.shut j i hj h1
        rw [h2] at hif
        cases hif))
      (fun j oj d hb hoj hdst => hn.done_ j oj d (hbehind j hb) hoj hdst)
    show if Region.wanted ops[i] (yielded ops a.tmps) = true then _ else _
    split at hd
    · rename_i hw
      rw [if_pos hw]
      refine .inl (Oper.wp_mono ?_ hd)
      rintro a' w' ⟨v, rfl, hv, hph⟩
      exact ih _ _ _ hfuel (hn.step hB hR hM hi ho hv hph)
    · rename_i hw
      rw [if_neg hw]
      exact ih _ _ _ hfuel (hn.step hB hR hM hi ho hd.1 hd.2)

/-- No operation writes slot t. -/
def neverB (ops : Array Oper) (t : Nat) : Bool := ops.all fun o => o.dst != some t
/-- A frame, slot by slot. -/
theorem slots_of (A : Array Value) (n : Nat) (h : A.size = n) : A = ((List.range n).map fun i => A.getD i undef).toArray := by
  apply Array.ext
  · simp [h]
  · intro i h1 h2
    simp [Array.getD_eq_getD_getElem?, h1]
/-- The law. -/
theorem region_phases {id : Nat} {a0 : Act} {w0 : World} (V : Nat → Value → Prop) (M : Phases) (hm : P.follows .mixedOrders = true) (hB : onceB ops = true) (hR : roomB ops a0.tmps.size = true) (hlow : lowB ops = true)
    (hM : ∀ L L' f f' w, (∀ j, j < ops.size → L j = L' j) → (∀ j, j < ops.size → L j = true → (∃ o d, ops[j]? = some o ∧ o.dst = some d) → f j = f' j) → M L f w → M L' f' w)
    (h0 : M (fun _ => false) (got ops a0) w0.drew)
    (duty : ∀ i o, ops[i]? = some o → DutyP P ops Q V M a0 i o)
    (fin : ∀ a w, M (fun _ => true) (got ops a) w → a.tmps.size = a0.tmps.size → a.defers = a0.defers → (∀ (j : Nat) (o : Oper) (d : Tmp), ops[j]? = some o → o.dst = some d → V j (a.tmps.getD d undef)) →
      (∀ t : Tmp, neverB ops t = true → a.tmps.getD t undef = a0.tmps.getD t undef) → Q .normal a w) :
    (Code.region id ops true).wp P Q a0 w0 := by
  refine wp_region_any hm ?_
  have hrep : ∀ j, (Array.replicate ops.size false).getD j false = false := by
    intro j
    simp only [Array.getD_eq_getD_getElem?, Array.getElem?_replicate]
    split <;> rfl
  refine wpAny_nowP hB hR hM duty ?_ _ _ _ _ (Nat.le_trans (List.length_filter_le _ _) (by simp)) ⟨hM _ _ _ _ _ (fun j _ => (hrep j).symm) (fun _ _ h => by cases h) h0, rfl, rfl, by simp, ?_, fun _ _ => rfl, ?_⟩
  · intro listed a w hr hn
    have hall := hend_of hlow listed hn.len hr
    refine fin a w (hM _ _ _ _ _ (fun j hj => hall j hj) (fun _ _ _ _ => rfl) hn.phase) hn.size hn.defers (fun j o d ho hd => hn.done_ j o d (hall j (Array.getElem?_eq_some_iff.1 ho).1) ho hd) (fun t ht => hn.old t (fun j o _ ho hd => by
      unfold neverB at ht
      rw [Array.all_eq_true'] at ht
      have := ht o (Array.mem_of_getElem? ho)
      rw [hd] at this
      simp at this))
  · intro j o d hj
    rw [hrep] at hj; cases hj
  · intro j i hj
    rw [hrep] at hj; cases hj

/-- An operation that yields its value at once. -/
theorem wp_yields {o : Oper} {a : Act} {w w' : World} {v : Value} {i : Nat} {L : Nat → Bool} {V : Nat → Value → Prop} {M : Phases} (hrun : (execOp a.eval o).run P w = .ok (.value v) w') (hV : V i v) (hM : M (also L i) (yielding (got ops a) i v) w') :
    o.wp P a w (fun a' w' => ∃ v, a' = a.put o.dst v ∧ V i v ∧ M (also L i) (yielding (got ops a) i v) w') Q := by
  unfold Oper.wp
  rw [hrun]
  exact ⟨v, rfl, hV, hM⟩
/-- An operation that yields nothing (a store). -/
theorem wp_skips {o : Oper} {a : Act} {w w' : World} {i : Nat} {L : Nat → Bool} {V : Nat → Value → Prop} {M : Phases} (hrun : (execOp a.eval o).run P w = .ok .skip w') (hV : V i undef) (hM : M (also L i) (yielding (got ops a) i undef) w') :
    o.wp P a w (fun a' w' => ∃ v, a' = a.put o.dst v ∧ V i v ∧ M (also L i) (yielding (got ops a) i v) w') Q := by
  unfold Oper.wp
  rw [hrun]
  exact ⟨undef, rfl, hV, hM⟩

/-! ### Phases as a list: behind operation k the world is as 'of' says, of what operation j yielded. -/
structure Phase where
  k : Nat
  j : Nat
  of : Value → World → Prop
def phased : List Phase → (World → Prop) → Phases
  | [], A => fun _ _ w => A w
  | p :: r, A => fun L f w => if L p.k = true then L p.j = true ∧ p.of (f p.j) w else phased r A L f w
def phasedB (ops : Array Oper) (ps : List Phase) : Bool := ps.all fun p => decide (p.k < ops.size) && decide (p.j < ops.size) && (((ops[p.j]?).bind (·.dst)).isSome)
theorem phased_ext {ops : Array Oper} : ∀ {ps : List Phase} {A : World → Prop}, phasedB ops ps = true → ∀ (L L' : Nat → Bool) (f f' : Nat → Value) (w : World), (∀ j, j < ops.size → L j = L' j) → (∀ j, j < ops.size → L j = true → (∃ o d, ops[j]? = some o ∧ o.dst = some d) → f j = f' j) → phased ps A L f w → phased ps A L' f' w
  | [], _, _, _, _, _, _, _, _, _, h => h
  | p :: r, A, hB, L, L', f, f', w, hL, hf, h => by
    simp only [phasedB, List.all_cons, Bool.and_eq_true, decide_eq_true_eq] at hB
    obtain ⟨⟨⟨hk, hj⟩, hd⟩, hr⟩ := hB
    unfold phased at h ⊢
    rw [← hL _ hk]
    split
    · rename_i hlk
      rw [if_pos hlk] at h
      obtain ⟨h1, h2⟩ := h
      have hex : ∃ o d, ops[p.j]? = some o ∧ o.dst = some d := by
        cases ho : ops[p.j]? with
        | none => rw [ho] at hd; simp at hd
        | some o =>
          rw [ho] at hd
          simp only [Option.bind_some] at hd
          obtain ⟨d, hd⟩ := Option.isSome_iff_exists.1 hd
          exact ⟨o, d, rfl, hd⟩
      exact ⟨by rw [← hL _ hj]; exact h1, by rw [← hf _ hj h1 hex]; exact h2⟩
    · rename_i hlk
      rw [if_neg hlk] at h
      exact phased_ext (by unfold phasedB; exact hr) L L' f f' w hL hf h
/-- An operation that tells of no phase. -/
theorem phased_quiet {i : Nat} {L : Nat → Bool} {f : Nat → Value} {v : Value} {w : World} (hLi : L i = false) : ∀ {ps : List Phase} {A : World → Prop}, (ps.all fun p => p.k != i) = true → phased ps A L f w → phased ps A (also L i) (yielding f i v) w
  | [], _, _, h => h
  | p :: r, A, hB, h => by
    simp only [List.all_cons, Bool.and_eq_true, bne_iff_ne, ne_eq] at hB
    obtain ⟨hk, hr⟩ := hB
    unfold phased at h ⊢
    have ek : also L i p.k = L p.k := by simp [also, hk]
    rw [ek]
    split
    · rename_i hlk
      rw [if_pos hlk] at h
      have hj : ¬ p.j = i := fun e => by have h1 := h.1; rw [e, hLi] at h1; cases h1
      exact ⟨by simp [also, h.1], by simpa [yielding, hj] using h.2⟩
    · rename_i hlk; rw [if_neg hlk] at h; exact phased_quiet hLi hr h
/-- What every phase says. -/
theorem phased_all {R : World → Prop} {L : Nat → Bool} {f : Nat → Value} {w : World} : ∀ {ps : List Phase} {A : World → Prop}, (∀ p ∈ ps, ∀ v w, p.of v w → R w) → (∀ w, A w → R w) → phased ps A L f w → R w
  | [], _, _, hA, h => hA _ h
  | p :: r, A, hp, hA, h => by
    unfold phased at h
    split at h
    · exact hp p (List.mem_cons_self ..) _ _ h.2
    · exact phased_all (fun q hq => hp q (List.mem_cons_of_mem _ hq)) hA h
/-- None of the phases' operations has come up. -/
theorem phased_first {L : Nat → Bool} {f : Nat → Value} {w : World} : ∀ {ps : List Phase} {A : World → Prop}, (∀ p ∈ ps, L p.k = false) → phased ps A L f w → A w
  | [], _, _, h => h
  | p :: r, A, hn, h => by
    unfold phased at h
    rw [if_neg (by rw [hn p (List.mem_cons_self ..)]; decide)] at h
    exact phased_first (fun q hq => hn q (List.mem_cons_of_mem _ hq)) h
/-- The values that are known, by operation. -/
def valV (vs : List (Option Value)) (j : Nat) (v : Value) : Prop := ∀ u, vs[j]? = some (some u) → v = u
end
end Go.Proofs.Ytofnldmbokdkbaa
