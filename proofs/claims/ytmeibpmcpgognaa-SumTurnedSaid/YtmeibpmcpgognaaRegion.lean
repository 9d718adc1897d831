/-
  A law for a region whose order is drawn: each operation has a fact that its value meets, and that stays while memory only grows; each operation is shown to run from the facts of those that it hangs on. Then, in whatever order they come, all facts hold behind the region. (So many orders cost as many steps as there are operations.)
-/
import Derived.Test.YtmeibpmcpgognaaMem
import Derived.RegionTactic
namespace Go.Proofs.Ytmeibpmcpgognaa
open Go.RowKit

/-- A fact on a value and the world, that stays while memory only grows. -/
structure Fact where
  holds : Value → World → Prop
  stays : ∀ v w w', holds v w → Abv w w' → holds v w'
def isV (V : Value) : Fact := ⟨fun v _ => v = V, fun _ _ _ h _ => h⟩
def isRd (xs : List Value) : Fact := ⟨fun v w => Rd w v xs, fun _ _ _ h hb => Rd.below h hb⟩
def isAny : Fact := ⟨fun _ _ => True, fun _ _ _ h _ => h⟩

/-- Operation i comes behind operation j. -/
def behind (ops : Array Oper) (i j : Nat) : Bool := ((ops[i]?).map fun o => o.after.any fun e => Region.binds .any e && e.on == j).getD false
/-- No operation writes slot t but such as come behind operation i. -/
def oldB (ops : Array Oper) (i t : Nat) : Bool := (List.range ops.size).all fun j => ((ops[j]?).map fun o => o.dst != some t || behind ops j i).getD true
/-- Each slot is written once, and is there. -/
def onceB (ops : Array Oper) : Bool :=
  (List.range ops.size).all fun i => (List.range ops.size).all fun j => i == j || (match (ops[i]?).bind (·.dst), (ops[j]?).bind (·.dst) with | some d, some d' => d != d' | _, _ => true)
def roomB (ops : Array Oper) (n : Nat) : Bool := ops.toList.all fun o => match o.dst with | some d => decide (d < n) | none => true

section
variable {P : Program} {ops : Array Oper} {Q : Exit → Act → World → Prop}

/-- What holds at any moment of the region. -/
structure Now (ops : Array Oper) (F : List Fact) (a0 : Act) (w0 : World) (listed : Array Bool) (a : Act) (w : World) : Prop where
  up : Abv w0 w
  size : a.tmps.size = a0.tmps.size
  defers : a.defers = a0.defers
  len : listed.size = ops.size
  done_ : ∀ j o d, listed.getD j false = true → ops[j]? = some o → o.dst = some d → (F.getD j isAny).holds (a.tmps.getD d undef) w
  old : ∀ t, (∀ j o, listed.getD j false = true → ops[j]? = some o → o.dst ≠ some t) → a.tmps.getD t undef = a0.tmps.getD t undef
  shut : ∀ j i, listed.getD j false = true → behind ops j i = true → listed.getD i false = true

/-- One operation's duty: run from the facts of those ahead of it. -/
def Duty (P : Program) (ops : Array Oper) (Q : Exit → Act → World → Prop) (F : List Fact) (a0 : Act) (w0 : World) (i : Nat) (o : Oper) : Prop :=
  ∀ (a : Act) (w : World), Abv w0 w → a.tmps.size = a0.tmps.size →
    (∀ t, oldB ops i t = true → a.tmps.getD t undef = a0.tmps.getD t undef) →
    (∀ j oj d, behind ops i j = true → ops[j]? = some oj → oj.dst = some d → (F.getD j isAny).holds (a.tmps.getD d undef) w) →
    if Region.wanted o (yielded ops a.tmps) = true then o.wp P a w (fun a' w' => ∃ v, a' = a.put o.dst v ∧ (F.getD i isAny).holds v w' ∧ Abv w w') Q else (F.getD i isAny).holds undef w

theorem getD_put (a : Act) (d : Nat) (v : Value) (t : Nat) : (a.put (some d) v).tmps.getD t undef = if t = d ∧ d < a.tmps.size then v else a.tmps.getD t undef := by
  unfold Act.put
  simp only [Array.getD_eq_getD_getElem?]
  rw [Array.getElem?_setIfInBounds]
  by_cases h : d = t
  · subst h
    by_cases h2 : d < a.tmps.size <;> simp [h2]
  · have h' : ¬ t = d := fun e => h e.symm
    simp [h, h']

theorem set_getD (l : Array Bool) (i j : Nat) (h : i < l.size) : (l.setIfInBounds i true).getD j false = if i = j then true else l.getD j false := by
  simp only [Array.getD_eq_getD_getElem?]
  rw [Array.getElem?_setIfInBounds]
  by_cases e : i = j
  · subst e; simp [h]
  · simp [e]

theorem Now.step {F : List Fact} {a0 : Act} {w0 : World} (hB : onceB ops = true) (hR : roomB ops a0.tmps.size = true) {listed : Array Bool} {a : Act} {w : World} (h : Now ops F a0 w0 listed a w) {i : Nat} {o : Oper} (hi : i ∈ Region.ready .any ops listed) (ho : ops[i]? = some o)
    {v : Value} {w' : World} (hv : (F.getD i isAny).holds v w') (hup : Abv w w') : Now ops F a0 w0 (listed.setIfInBounds i true) (a.put o.dst v) w' := by
  have hlt : i < ops.size := (Array.getElem?_eq_some_iff.1 ho).1
  have hl : i < listed.size := by rw [h.len]; exact hlt
  have hready : listed.getD i true = false ∧ (o.after.all fun e => !Region.binds .any e || listed.getD e.on false) = true := by
    unfold Region.ready at hi
    rw [List.mem_filter] at hi
    have := hi.2
    rw [ho] at this
    simpa using this
  have hroom : ∀ d, o.dst = some d → d < a.tmps.size := by
    intro d hd
    unfold roomB at hR
    rw [List.all_eq_true] at hR
    have := hR o (Array.mem_toList_iff.2 (Array.mem_of_getElem? ho))
    rw [hd] at this
    rw [h.size]
    simpa using this
  refine ⟨h.up.trans hup, ?_, ?_, by simp [h.len], ?_, ?_, ?_⟩
  · rw [← h.size]; unfold Act.put; cases o.dst <;> simp
  · rw [← h.defers]; unfold Act.put; cases o.dst <;> rfl
  · intro j oj d hj hoj hd
    rw [set_getD _ _ _ hl] at hj
    by_cases e : i = j
    · subst e
      rw [ho] at hoj
      injection hoj with hoj
      subst hoj
      rw [hd, getD_put, if_pos ⟨rfl, hroom d hd⟩]
      exact hv
    · rw [if_neg e] at hj
      have hold := (F.getD j isAny).stays _ _ _ (h.done_ j oj d hj hoj hd) hup
      cases hod : o.dst with
      | none => exact hold
      | some d' =>
        rw [getD_put]
        have hne : ¬ d = d' := by
          intro e2
          subst e2
          unfold onceB at hB
          rw [List.all_eq_true] at hB
          have h1 := hB i (List.mem_range.2 hlt)
          rw [List.all_eq_true] at h1
          have h2 := h1 j (List.mem_range.2 (Array.getElem?_eq_some_iff.1 hoj).1)
          rw [ho, hoj] at h2
          simp [hod, hd, e] at h2
        rw [if_neg (fun hh => hne hh.1)]
        exact hold
  · intro t ht
    have h1 := h.old t (fun j oj hj hoj => ht j oj (by rw [set_getD _ _ _ hl]; by_cases e : i = j <;> simp [e, hj]) hoj)
    have h2 := ht i o (by rw [set_getD _ _ _ hl]; simp) ho
    cases hod : o.dst with
    | none => exact h1
    | some d' =>
      rw [getD_put, if_neg (fun hh => h2 (by rw [hod, hh.1]))]
      exact h1
  · intro j k hj hjk
    rw [set_getD _ _ _ hl] at hj ⊢
    by_cases e : i = j
    · subst e
      have : listed.getD k false = true := by
        unfold behind at hjk
        rw [ho] at hjk
        simp only [Option.map_some, Option.getD_some, Array.any_eq_true'] at hjk
        obtain ⟨e', he', hb⟩ := hjk
        have h3 := hready.2
        rw [Array.all_eq_true'] at h3
        have h4 := h3 e' he'
        simp only [Bool.and_eq_true, beq_iff_eq] at hb
        rw [hb.1, hb.2] at h4
        simpa using h4
      by_cases e2 : i = k <;> simp [e2, this]
    · rw [if_neg e] at hj
      by_cases e2 : i = k
      · simp [e2]
      · rw [if_neg e2]; exact h.shut j k hj hjk

theorem wpAny_now {F : List Fact} {a0 : Act} {w0 : World} (hB : onceB ops = true) (hR : roomB ops a0.tmps.size = true) (duty : ∀ i o, ops[i]? = some o → Duty P ops Q F a0 w0 i o)
    (fin : ∀ listed a w, Region.ready .any ops listed = [] → Now ops F a0 w0 listed a w → Q .normal a w) :
    ∀ (fuel : Nat) (listed : Array Bool) (a : Act) (w : World), ((List.range ops.size).filter fun i => !listed.getD i true).length ≤ fuel → Now ops F a0 w0 listed a w → wpAny P .any ops Q fuel listed a w := by
  intro fuel
  induction fuel with
  | zero =>
    intro listed a w hf hn
    have hr : Region.ready .any ops listed = [] := by
      have h0 : ((List.range ops.size).filter fun i => !listed.getD i true) = [] := List.eq_nil_of_length_eq_zero (by omega)
      unfold Region.ready
      rw [List.filter_eq_nil_iff] at h0 ⊢
      intro i hi
      have := h0 i hi
      simp only [Bool.and_eq_true, not_and]
      intro h1
      exact absurd h1 this
    exact ⟨hr, fin _ _ _ hr hn⟩
  | succ fuel ih =>
    intro listed a w hf hn
    refine ⟨fun hr => fin _ _ _ hr hn, fun i hi => ?_⟩
    have hmem := hi
    unfold Region.ready at hmem
    rw [List.mem_filter, List.mem_range] at hmem
    have ho : ops[i]? = some ops[i] := Array.getElem?_eq_getElem hmem.1
    have hready := hmem.2
    rw [ho] at hready
    simp only [Option.map_some, Option.getD_some, Bool.and_eq_true, Bool.not_eq_true'] at hready
    have hl : i < listed.size := by rw [hn.len]; exact hmem.1
    have hfuel : ((List.range ops.size).filter fun k => !(listed.setIfInBounds i true).getD k true).length ≤ fuel := by
      have h1 : ∀ l : List Nat, (l.filter fun k => !(listed.setIfInBounds i true).getD k true).length + (l.filter fun k => k == i).length ≤ (l.filter fun k => !listed.getD k true).length := by
        intro l
        induction l with
        | nil => simp
        | cons x l ihl =>
          simp only [List.filter_cons]
          by_cases e : x = i
          · subst e
            have e1 : (listed.setIfInBounds x true).getD x true = true := by
              simp only [Array.getD_eq_getD_getElem?, Array.getElem?_setIfInBounds]; simp [hl]
            simp only [e1, hready.1, beq_self_eq_true, Bool.not_true, Bool.not_false, if_true, Bool.false_eq_true, if_false, List.length_cons]
            omega
          · have e1 : (listed.setIfInBounds i true).getD x true = listed.getD x true := by
              simp only [Array.getD_eq_getD_getElem?, Array.getElem?_setIfInBounds]
              rw [if_neg (fun h => e h.symm)]
            have e2 : (x == i) = false := by simp [e]
            simp only [e1, e2, Bool.false_eq_true, if_false]
            split
            · simp only [List.length_cons]; omega
            · exact ihl
      have h2 := h1 (List.range ops.size)
      have h3 : 1 ≤ ((List.range ops.size).filter fun k => k == i).length := by
        have : i ∈ (List.range ops.size).filter fun k => k == i := by simp [hmem.1]
        exact List.length_pos_of_mem this
      omega
    unfold wpOp
    rw [ho]
    have hd := duty i _ ho a w hn.up hn.size (fun t ht => hn.old t (fun j oj hj hoj hdst => by
        unfold oldB at ht
        rw [List.all_eq_true] at ht
        have h1 := ht j (List.mem_range.2 (Array.getElem?_eq_some_iff.1 hoj).1)
        rw [hoj] at h1
        simp only [Option.map_some, Option.getD_some, Bool.or_eq_true, hdst, bne_self_eq_false, Bool.false_eq_true, false_or] at h1
        have h2 := hn.shut j i hj h1
        have h3 := hready.1
        simp only [Array.getD_eq_getD_getElem?] at h2 h3
        rw [Array.getElem?_eq_getElem hl] at h2 h3
        simp only [Option.getD_some] at h2 h3
        rw [h2] at h3
        cases h3))
      (fun j oj d hb hoj hdst => hn.done_ j oj d (by
        have hb' := hb
        unfold behind at hb'
        rw [ho] at hb'
        simp only [Option.map_some, Option.getD_some, Array.any_eq_true'] at hb'
        obtain ⟨e', he', hbb⟩ := hb'
        have h3 := hready.2
        rw [Array.all_eq_true'] at h3
        have h4 := h3 e' he'
        simp only [Bool.and_eq_true, beq_iff_eq] at hbb
        rw [hbb.1, hbb.2] at h4
        simpa using h4) hoj hdst)
    show if Region.wanted ops[i] (yielded ops a.tmps) = true then _ else _
    split at hd
    · rename_i hw
      rw [if_pos hw]
      refine .inl (Oper.wp_mono ?_ hd)
      rintro a' w' ⟨v, rfl, hv, hup⟩
      exact ih _ _ _ hfuel (hn.step hB hR hi ho hv hup)
    · rename_i hw
      rw [if_neg hw]
      exact ih _ _ _ hfuel (hn.step hB hR hi ho hd (Abv.refl w))

/-- The law. -/
theorem region_facts {id : Nat} {a0 : Act} {w0 : World} (F : List Fact) (hm : P.follows .mixedOrders = true) (hB : onceB ops = true) (hR : roomB ops a0.tmps.size = true)
    (hend : ∀ listed : Array Bool, listed.size = ops.size → Region.ready .any ops listed = [] → ∀ j, j < ops.size → listed.getD j false = true)
    (duty : ∀ i o, ops[i]? = some o → Duty P ops Q F a0 w0 i o)
    (fin : ∀ a w, Abv w0 w → a.tmps.size = a0.tmps.size → a.defers = a0.defers → (∀ (j : Nat) (o : Oper) (d : Tmp), ops[j]? = some o → o.dst = some d → (F.getD j isAny).holds (a.tmps.getD d undef) w) →
      (∀ t : Tmp, (∀ (j : Nat) (o : Oper), ops[j]? = some o → o.dst ≠ some t) → a.tmps.getD t undef = a0.tmps.getD t undef) → Q .normal a w) :
    (Code.region id ops true).wp P Q a0 w0 := by
  refine wp_region_any hm ?_
  refine wpAny_now hB hR duty ?_ _ _ _ _ (Nat.le_trans (List.length_filter_le _ _) (by simp)) ⟨(Abv.refl w0).drew, rfl, rfl, by simp, ?_, fun _ _ => rfl, ?_⟩
  · intro listed a w hr hn
    refine fin a w hn.up hn.size hn.defers (fun j o d ho hd => hn.done_ j o d (hend listed hn.len hr j (Array.getElem?_eq_some_iff.1 ho).1) ho hd) (fun t ht => hn.old t (fun j o _ ho => ht j o ho))
  · intro j o d hj
    simp [Array.getD_eq_getD_getElem?, Array.getElem?_replicate] at hj
    split at hj <;> simp at hj
  · intro j i hj
    simp [Array.getD_eq_getD_getElem?, Array.getElem?_replicate] at hj
    split at hj <;> simp at hj

/-- All edges that bind lead back. -/
def lowB (ops : Array Oper) : Bool := (List.range ops.size).all fun i => ((ops[i]?).map fun o => o.after.all fun e => !Region.binds .any e || decide (e.on < i)).getD true
theorem hend_of (h : lowB ops = true) : ∀ listed : Array Bool, listed.size = ops.size → Region.ready .any ops listed = [] → ∀ j, j < ops.size → listed.getD j false = true := by
  intro listed hl hr j
  induction j using Nat.strongRecOn with
  | ind j ih =>
    intro hj
    have ho : ops[j]? = some ops[j] := Array.getElem?_eq_getElem hj
    unfold lowB at h
    rw [List.all_eq_true] at h
    have h1 := h j (List.mem_range.2 hj)
    rw [ho] at h1
    simp only [Option.map_some, Option.getD_some, Array.all_eq_true'] at h1
    unfold Region.ready at hr
    rw [List.filter_eq_nil_iff] at hr
    have h2 := hr j (List.mem_range.2 hj)
    rw [ho] at h2
    simp only [Option.map_some, Option.getD_some, Bool.and_eq_true, Bool.not_eq_true', not_and] at h2
    have hget : listed[j]? = some listed[j] := Array.getElem?_eq_getElem (by omega)
    simp only [Array.getD_eq_getD_getElem?, hget, Option.getD_some] at h2 ⊢
    cases hb : listed[j] with
    | true => rfl
    | false =>
      exact absurd (by
        rw [Array.all_eq_true']
        intro e he
        have h3 := h1 e he
        simp only [Bool.or_eq_true, Bool.not_eq_true', decide_eq_true_eq] at h3 ⊢
        rcases h3 with h3 | h3
        · exact .inl h3
        · have h4 := ih e.on h3 (by omega)
          simp only [Array.getD_eq_getD_getElem?] at h4
          exact .inr h4) (h2 hb)

theorem wanted_none {o : Oper} {y : Nat → Option Bool} (h : o.guard = none) : Region.wanted o y = true := by simp [Region.wanted, h]
theorem wanted_some {o : Oper} {a : Act} {j d : Nat} {oj : Oper} {b : Bool} (h : o.guard = some (j, b)) (hj : ops[j]? = some oj) (hd : oj.dst = some d) (hs : d < a.tmps.size) (hv : a.tmps.getD d undef = .bool b) : Region.wanted o (yielded ops a.tmps) = true := by
  have : a.tmps[d]? = some (.bool b) := by
    rw [Array.getElem?_eq_getElem hs]
    simp only [Array.getD_eq_getD_getElem?, Array.getElem?_eq_getElem hs, Option.getD_some] at hv
    rw [hv]
  simp [Region.wanted, h, yielded, hj, hd, this]

/-- An operation that yields its value at once, memory grown or as it was. -/
theorem wp_value {o : Oper} {a : Act} {w w' : World} {v : Value} {F : Fact} (hrun : (execOp a.eval o).run P w = .ok (.value v) w') (hF : F.holds v w') (hup : Abv w w') :
    o.wp P a w (fun a' w' => ∃ v, a' = a.put o.dst v ∧ F.holds v w' ∧ Abv w w') Q := by
  unfold Oper.wp
  rw [hrun]
  exact ⟨v, rfl, hF, hup⟩
/-- An operation that calls a Go function. -/
theorem wp_call {o : Oper} {a : Act} {w : World} {f : FuncId} {args : Array Value} {F : Fact} (hrun : (execOp a.eval o).run P w = .ok (.enter f args) w)
    (hc : Calls P f args w fun e w' => ∃ v, e = .returned v ∧ F.holds v w' ∧ Abv w w') :
    o.wp P a w (fun a' w' => ∃ v, a' = a.put o.dst v ∧ F.holds v w' ∧ Abv w w') Q := by
  unfold Oper.wp
  rw [hrun]
  refine hc.mono ?_
  rintro e w' ⟨v, rfl, hF, hup⟩
  exact ⟨v, rfl, hF, hup⟩

/-! ### Facts that end: an operation that writes where a fact speaks of (an append onto a row that the region made) ends that fact. -/

/-- Which operations come ahead of each, as masks of bits, direct or not. -/
def maskOf (prev : List Nat) (o : Oper) : Nat := o.after.toList.foldl (fun m e => if Region.binds .any e then m ||| 2 ^ e.on ||| prev.getD e.on 0 else m) 0
def masks : List Oper → List Nat → List Nat
  | [], prev => prev
  | o :: l, prev => masks l (prev ++ [maskOf prev o])
def ahead (ops : Array Oper) (i j : Nat) : Bool := ((masks ops.toList []).getD i 0).testBit j

theorem maskOf_spec {prev : List Nat} {o : Oper} {L : Nat → Bool} (hd : ∀ e ∈ o.after.toList, Region.binds .any e = true → L e.on = true) (hp : ∀ i j, L i = true → (prev.getD i 0).testBit j = true → L j = true) :
    ∀ j, (maskOf prev o).testBit j = true → L j = true := by
  unfold maskOf
  have : ∀ (es : List Edge) (m : Nat), (∀ e ∈ es, Region.binds .any e = true → L e.on = true) → (∀ j, m.testBit j = true → L j = true) →
      ∀ j, (es.foldl (fun m e => if Region.binds .any e then m ||| 2 ^ e.on ||| prev.getD e.on 0 else m) m).testBit j = true → L j = true := by
    intro es
    induction es with
    | nil => intro m _ hm j hj; exact hm j hj
    | cons e es ih =>
      intro m hes hm j hj
      rw [List.foldl_cons] at hj
      refine ih _ (fun e' he' => hes e' (List.mem_cons_of_mem _ he')) ?_ j hj
      intro j hj
      split at hj
      · rename_i hb
        rw [Nat.testBit_or, Nat.testBit_or] at hj
        simp only [Bool.or_eq_true] at hj
        have hon := hes e (List.mem_cons_self ..) hb
        rcases hj with (hj | hj) | hj
        · exact hm j hj
        · rw [Nat.testBit_two_pow] at hj
          have : e.on = j := by simpa using hj
          rw [← this]; exact hon
        · exact hp _ _ hon hj
      · exact hm j hj
  exact this _ 0 hd (fun j hj => by simp at hj)
theorem masks_spec {L : Nat → Bool} : ∀ (l : List Oper) (prev : List Nat), (∀ i j, L i = true → (prev.getD i 0).testBit j = true → L j = true) →
    (∀ i o, l[i]? = some o → L (prev.length + i) = true → ∀ e ∈ o.after.toList, Region.binds .any e = true → L e.on = true) →
    ∀ i j, L i = true → ((masks l prev).getD i 0).testBit j = true → L j = true
  | [], prev, hp, _ => hp
  | o :: l, prev, hp, hl => by
    refine masks_spec l (prev ++ [maskOf prev o]) ?_ ?_
    · intro i j hi hj
      by_cases h : i < prev.length
      · rw [List.getD_eq_getElem?_getD, List.getElem?_append_left h, ← List.getD_eq_getElem?_getD] at hj
        exact hp i j hi hj
      · by_cases h2 : i = prev.length
        · subst h2
          rw [List.getD_eq_getElem?_getD, List.getElem?_append_right (Nat.le_refl _), Nat.sub_self] at hj
          exact maskOf_spec (hl 0 o rfl hi) hp j hj
        · rw [List.getD_eq_getElem?_getD, List.getElem?_eq_none (by simp; omega)] at hj
          simp at hj
    · intro i o' hi hL
      refine hl (i + 1) o' hi ?_
      rw [List.length_append, List.length_singleton] at hL
      rw [show prev.length + (i + 1) = prev.length + 1 + i by omega]; exact hL
theorem ahead_spec {listed : Array Bool} (hs : ∀ j i, listed.getD j false = true → behind ops j i = true → listed.getD i false = true) {i j : Nat} (ha : ahead ops i j = true) (hi : listed.getD i false = true) : listed.getD j false = true := by
  refine masks_spec (L := fun i => listed.getD i false) ops.toList [] (by simp) ?_ i j hi ha
  intro i o ho hL e he hb
  refine hs i e.on (by simpa using hL) ?_
  have ho' : ops[i]? = some o := by simpa using ho
  unfold behind
  rw [ho']
  simp only [Option.map_some, Option.getD_some, Array.any_eq_true']
  exact ⟨e, by simpa using he, by simp [hb]⟩
/-- What holds at any moment of the region. -/
structure NowE (ops : Array Oper) (ends : Nat → Nat → Bool) (U : World → World → Prop) (F : List Fact) (a0 : Act) (w0 : World) (listed : Array Bool) (a : Act) (w : World) : Prop where
  up : U w0 w
  size : a.tmps.size = a0.tmps.size
  defers : a.defers = a0.defers
  len : listed.size = ops.size
  done_ : ∀ j o d, listed.getD j false = true → (∀ k, ends k j = true → listed.getD k false = false) → ops[j]? = some o → o.dst = some d → (F.getD j isAny).holds (a.tmps.getD d undef) w
  old : ∀ t, (∀ j o, listed.getD j false = true → ops[j]? = some o → o.dst ≠ some t) → a.tmps.getD t undef = a0.tmps.getD t undef
  shut : ∀ j i, listed.getD j false = true → behind ops j i = true → listed.getD i false = true

/-- Fact j is still there when operation i comes. -/
def aliveB (ops : Array Oper) (ends : Nat → Nat → Bool) (i j : Nat) : Bool := (List.range ops.size).all fun k => !ends k j || k == i || ahead ops k i
/-- One operation's duty: run from the facts of those ahead of it. -/
def DutyE (P : Program) (ops : Array Oper) (ends : Nat → Nat → Bool) (isK : Nat → Bool) (K U : World → World → Prop) (Q : Exit → Act → World → Prop) (F : List Fact) (a0 : Act) (w0 : World) (i : Nat) (o : Oper) : Prop :=
  ∀ (a : Act) (w : World), U w0 w → a.tmps.size = a0.tmps.size →
    (∀ t, oldB ops i t = true → a.tmps.getD t undef = a0.tmps.getD t undef) →
    (∀ j oj d, behind ops i j = true → aliveB ops ends i j = true → ops[j]? = some oj → oj.dst = some d → (F.getD j isAny).holds (a.tmps.getD d undef) w) →
    if Region.wanted o (yielded ops a.tmps) = true then o.wp P a w (fun a' w' => ∃ v, a' = a.put o.dst v ∧ (F.getD i isAny).holds v w' ∧ (bif isK i then K w w' else Abv w w')) Q else (F.getD i isAny).holds undef w

theorem NowE.step {ends : Nat → Nat → Bool} {isK : Nat → Bool} {K U : World → World → Prop} {F : List Fact} {a0 : Act} {w0 : World} (hB : onceB ops = true) (hR : roomB ops a0.tmps.size = true) {listed : Array Bool} {a : Act} {w : World} (hU1 : ∀ w w', U w0 w → Abv w w' → U w0 w') (hU2 : ∀ w w', U w0 w → K w w' → U w0 w') (hK : ∀ i j v w w', isK i = true → ends i j = false → j ≠ i → ahead ops j i = false → U w0 w → (F.getD j isAny).holds v w → K w w' → (F.getD j isAny).holds v w')
    (h : NowE ops ends U F a0 w0 listed a w) {i : Nat} {o : Oper} (hi : i ∈ Region.ready .any ops listed) (ho : ops[i]? = some o)
    {v : Value} {w' : World} (hv : (F.getD i isAny).holds v w') (hup : bif isK i then K w w' else Abv w w') : NowE ops ends U F a0 w0 (listed.setIfInBounds i true) (a.put o.dst v) w' := by
  have hlt : i < ops.size := (Array.getElem?_eq_some_iff.1 ho).1
  have hl : i < listed.size := by rw [h.len]; exact hlt
  have hready : listed.getD i true = false ∧ (o.after.all fun e => !Region.binds .any e || listed.getD e.on false) = true := by
    unfold Region.ready at hi
    rw [List.mem_filter] at hi
    have := hi.2
    rw [ho] at this
    simpa using this
  have hroom : ∀ d, o.dst = some d → d < a.tmps.size := by
    intro d hd
    unfold roomB at hR
    rw [List.all_eq_true] at hR
    have := hR o (Array.mem_toList_iff.2 (Array.mem_of_getElem? ho))
    rw [hd] at this
    rw [h.size]
    simpa using this
  refine ⟨?_, ?_, ?_, by simp [h.len], ?_, ?_, ?_⟩
  · cases hk : isK i with
    | true => rw [hk] at hup; exact hU2 _ _ h.up hup
    | false => rw [hk] at hup; exact hU1 _ _ h.up hup
  · rw [← h.size]; unfold Act.put; cases o.dst <;> simp
  · rw [← h.defers]; unfold Act.put; cases o.dst <;> rfl
  · intro j oj d hj hal hoj hd
    rw [set_getD _ _ _ hl] at hj
    by_cases e : i = j
    · subst e
      rw [ho] at hoj
      injection hoj with hoj
      subst hoj
      rw [hd, getD_put, if_pos ⟨rfl, hroom d hd⟩]
      exact hv
    · rw [if_neg e] at hj
      have hei : ends i j = false := by
        cases hx : ends i j with
        | false => rfl
        | true =>
          have := hal i hx
          rw [set_getD _ _ _ hl, if_pos rfl] at this
          cases this
      have hbefore := h.done_ j oj d hj (fun k hk => by
        have := hal k hk
        rw [set_getD _ _ _ hl] at this
        split at this
        · cases this
        · exact this) hoj hd
      have hold : (F.getD j isAny).holds (a.tmps.getD d undef) w' := by
        cases hk : isK i with
        | true =>
          rw [hk] at hup
          refine hK i j _ _ _ hk hei (fun e2 => e e2.symm) ?_ h.up hbefore hup
          cases hx : ahead ops j i with
          | false => rfl
          | true =>
            have h5 := ahead_spec h.shut hx hj
            have h6 := hready.1
            simp only [Array.getD_eq_getD_getElem?] at h5 h6
            rw [Array.getElem?_eq_getElem hl] at h5 h6
            simp only [Option.getD_some] at h5 h6
            rw [h5] at h6
            cases h6
        | false => rw [hk] at hup; exact (F.getD j isAny).stays _ _ _ hbefore hup
      cases hod : o.dst with
      | none => exact hold
      | some d' =>
        rw [getD_put]
        have hne : ¬ d = d' := by
          intro e2
          subst e2
          unfold onceB at hB
          rw [List.all_eq_true] at hB
          have h1 := hB i (List.mem_range.2 hlt)
          rw [List.all_eq_true] at h1
          have h2 := h1 j (List.mem_range.2 (Array.getElem?_eq_some_iff.1 hoj).1)
          rw [ho, hoj] at h2
          simp [hod, hd, e] at h2
        rw [if_neg (fun hh => hne hh.1)]
        exact hold
  · intro t ht
    have h1 := h.old t (fun j oj hj hoj => ht j oj (by rw [set_getD _ _ _ hl]; by_cases e : i = j <;> simp [e, hj]) hoj)
    have h2 := ht i o (by rw [set_getD _ _ _ hl]; simp) ho
    cases hod : o.dst with
    | none => exact h1
    | some d' =>
      rw [getD_put, if_neg (fun hh => h2 (by rw [hod, hh.1]))]
      exact h1
  · intro j k hj hjk
    rw [set_getD _ _ _ hl] at hj ⊢
    by_cases e : i = j
    · subst e
      have : listed.getD k false = true := by
        unfold behind at hjk
        rw [ho] at hjk
        simp only [Option.map_some, Option.getD_some, Array.any_eq_true'] at hjk
        obtain ⟨e', he', hb⟩ := hjk
        have h3 := hready.2
        rw [Array.all_eq_true'] at h3
        have h4 := h3 e' he'
        simp only [Bool.and_eq_true, beq_iff_eq] at hb
        rw [hb.1, hb.2] at h4
        simpa using h4
      by_cases e2 : i = k <;> simp [e2, this]
    · rw [if_neg e] at hj
      by_cases e2 : i = k
      · simp [e2]
      · rw [if_neg e2]; exact h.shut j k hj hjk

theorem wpAny_nowE {ends : Nat → Nat → Bool} {isK : Nat → Bool} {K U : World → World → Prop} {F : List Fact} {a0 : Act} {w0 : World} (hB : onceB ops = true) (hR : roomB ops a0.tmps.size = true) (hends : ∀ k j, ends k j = true → k < ops.size)
    (hU1 : ∀ w w', U w0 w → Abv w w' → U w0 w') (hU2 : ∀ w w', U w0 w → K w w' → U w0 w') (hK : ∀ i j v w w', isK i = true → ends i j = false → j ≠ i → ahead ops j i = false → U w0 w → (F.getD j isAny).holds v w → K w w' → (F.getD j isAny).holds v w')
    (hKr : ∀ w, K w w) (duty : ∀ i o, ops[i]? = some o → DutyE P ops ends isK K U Q F a0 w0 i o)
    (fin : ∀ listed a w, Region.ready .any ops listed = [] → NowE ops ends U F a0 w0 listed a w → Q .normal a w) :
    ∀ (fuel : Nat) (listed : Array Bool) (a : Act) (w : World), ((List.range ops.size).filter fun i => !listed.getD i true).length ≤ fuel → NowE ops ends U F a0 w0 listed a w → wpAny P .any ops Q fuel listed a w := by
  intro fuel
  induction fuel with
  | zero =>
    intro listed a w hf hn
    have hr : Region.ready .any ops listed = [] := by
      have h0 : ((List.range ops.size).filter fun i => !listed.getD i true) = [] := List.eq_nil_of_length_eq_zero (by omega)
      unfold Region.ready
      rw [List.filter_eq_nil_iff] at h0 ⊢
      intro i hi
      have := h0 i hi
      simp only [Bool.and_eq_true, not_and]
      intro h1
      exact absurd h1 this
    exact ⟨hr, fin _ _ _ hr hn⟩
  | succ fuel ih =>
    intro listed a w hf hn
    refine ⟨fun hr => fin _ _ _ hr hn, fun i hi => ?_⟩
    have hmem := hi
    unfold Region.ready at hmem
    rw [List.mem_filter, List.mem_range] at hmem
    have ho : ops[i]? = some ops[i] := Array.getElem?_eq_getElem hmem.1
    have hready := hmem.2
    rw [ho] at hready
    simp only [Option.map_some, Option.getD_some, Bool.and_eq_true, Bool.not_eq_true'] at hready
    have hl : i < listed.size := by rw [hn.len]; exact hmem.1
    have hfuel : ((List.range ops.size).filter fun k => !(listed.setIfInBounds i true).getD k true).length ≤ fuel := by
      have h1 : ∀ l : List Nat, (l.filter fun k => !(listed.setIfInBounds i true).getD k true).length + (l.filter fun k => k == i).length ≤ (l.filter fun k => !listed.getD k true).length := by
        intro l
        induction l with
        | nil => simp
        | cons x l ihl =>
          simp only [List.filter_cons]
          by_cases e : x = i
          · subst e
            have e1 : (listed.setIfInBounds x true).getD x true = true := by
              simp only [Array.getD_eq_getD_getElem?, Array.getElem?_setIfInBounds]; simp [hl]
            simp only [e1, hready.1, beq_self_eq_true, Bool.not_true, Bool.not_false, if_true, Bool.false_eq_true, if_false, List.length_cons]
            omega
          · have e1 : (listed.setIfInBounds i true).getD x true = listed.getD x true := by
              simp only [Array.getD_eq_getD_getElem?, Array.getElem?_setIfInBounds]
              rw [if_neg (fun h => e h.symm)]
            have e2 : (x == i) = false := by simp [e]
            simp only [e1, e2, Bool.false_eq_true, if_false]
            split
            · simp only [List.length_cons]; omega
            · exact ihl
      have h2 := h1 (List.range ops.size)
      have h3 : 1 ≤ ((List.range ops.size).filter fun k => k == i).length := by
        have : i ∈ (List.range ops.size).filter fun k => k == i := by simp [hmem.1]
        exact List.length_pos_of_mem this
      omega
    unfold wpOp
    rw [ho]
    have hd := duty i _ ho a w hn.up hn.size (fun t ht => hn.old t (fun j oj hj hoj hdst => by
        unfold oldB at ht
        rw [List.all_eq_true] at ht
        have h1 := ht j (List.mem_range.2 (Array.getElem?_eq_some_iff.1 hoj).1)
        rw [hoj] at h1
        simp only [Option.map_some, Option.getD_some, Bool.or_eq_true, hdst, bne_self_eq_false, Bool.false_eq_true, false_or] at h1
        have h2 := hn.shut j i hj h1
        have h3 := hready.1
        simp only [Array.getD_eq_getD_getElem?] at h2 h3
        rw [Array.getElem?_eq_getElem hl] at h2 h3
        simp only [Option.getD_some] at h2 h3
        rw [h2] at h3
        cases h3))
      (fun j oj d hb hal hoj hdst => hn.done_ j oj d (by
        have hb' := hb
        unfold behind at hb'
        rw [ho] at hb'
        simp only [Option.map_some, Option.getD_some, Array.any_eq_true'] at hb'
        obtain ⟨e', he', hbb⟩ := hb'
        have h3 := hready.2
        rw [Array.all_eq_true'] at h3
        have h4 := h3 e' he'
        simp only [Bool.and_eq_true, beq_iff_eq] at hbb
        rw [hbb.1, hbb.2] at h4
        simpa using h4) (fun k hk => by
          unfold aliveB at hal
          rw [List.all_eq_true] at hal
          have h1 := hal k (List.mem_range.2 (hends k j hk))
          simp only [hk, Bool.not_true, Bool.false_or, Bool.or_eq_true, beq_iff_eq] at h1
          have hif : listed.getD i false = false := by
            have h3 := hready.1
            simp only [Array.getD_eq_getD_getElem?] at h3 ⊢
            rw [Array.getElem?_eq_getElem hl] at h3 ⊢
            simpa using h3
          rcases h1 with rfl | h1
          · exact hif
          · cases hx : listed.getD k false with
            | false => rfl
            | true => rw [ahead_spec hn.shut h1 hx] at hif; cases hif) hoj hdst)
    show if Region.wanted ops[i] (yielded ops a.tmps) = true then _ else _
    split at hd
    · rename_i hw
      rw [if_pos hw]
      refine .inl (Oper.wp_mono ?_ hd)
      rintro a' w' ⟨v, rfl, hv, hup⟩
      exact ih _ _ _ hfuel (hn.step hB hR hU1 hU2 hK hi ho hv hup)
    · rename_i hw
      rw [if_neg hw]
      exact ih _ _ _ hfuel (hn.step hB hR hU1 hU2 hK hi ho hd (by cases isK i; exact Abv.refl w; exact hKr w))

/-- The law, where facts may end. (A writing operation is never passed over.) -/
theorem region_ends {id : Nat} {a0 : Act} {w0 : World} (F : List Fact) (ends : Nat → Nat → Bool) (isK : Nat → Bool) (K U : World → World → Prop) (hm : P.follows .mixedOrders = true) (hB : onceB ops = true) (hR : roomB ops a0.tmps.size = true)
    (hend : ∀ listed : Array Bool, listed.size = ops.size → Region.ready .any ops listed = [] → ∀ j, j < ops.size → listed.getD j false = true)
    (hends : ∀ k j, ends k j = true → k < ops.size) (hU0 : U w0 w0.drew) (hKr : ∀ w, K w w)
    (hU1 : ∀ w w', U w0 w → Abv w w' → U w0 w') (hU2 : ∀ w w', U w0 w → K w w' → U w0 w') (hK : ∀ i j v w w', isK i = true → ends i j = false → j ≠ i → ahead ops j i = false → U w0 w → (F.getD j isAny).holds v w → K w w' → (F.getD j isAny).holds v w')
    (duty : ∀ i o, ops[i]? = some o → DutyE P ops ends isK K U Q F a0 w0 i o)
    (fin : ∀ a w, U w0 w → a.tmps.size = a0.tmps.size → a.defers = a0.defers → (∀ (j : Nat) (o : Oper) (d : Tmp), (∀ k, ends k j = false) → ops[j]? = some o → o.dst = some d → (F.getD j isAny).holds (a.tmps.getD d undef) w) →
      (∀ t : Tmp, (∀ (j : Nat) (o : Oper), ops[j]? = some o → o.dst ≠ some t) → a.tmps.getD t undef = a0.tmps.getD t undef) → Q .normal a w) :
    (Code.region id ops true).wp P Q a0 w0 := by
  refine wp_region_any hm ?_
  refine wpAny_nowE hB hR hends hU1 hU2 hK hKr duty ?_ _ _ _ _ (Nat.le_trans (List.length_filter_le _ _) (by simp)) ⟨hU0, rfl, rfl, by simp, ?_, fun _ _ => rfl, ?_⟩
  · intro listed a w hr hn
    refine fin a w hn.up hn.size hn.defers (fun j o d hj ho hd => hn.done_ j o d (hend listed hn.len hr j (Array.getElem?_eq_some_iff.1 ho).1) (fun k hk => by rw [hj k] at hk; cases hk) ho hd) (fun t ht => hn.old t (fun j o _ ho => ht j o ho))
  · intro j o d hj
    simp [Array.getD_eq_getD_getElem?, Array.getElem?_replicate] at hj
    split at hj <;> simp at hj
  · intro j i hj
    simp [Array.getD_eq_getD_getElem?, Array.getElem?_replicate] at hj
    split at hj <;> simp at hj
end
end Go.Proofs.Ytmeibpmcpgognaa
