/-
  A region whose order is drawn and whose operations, whatever they are, turn nothing that was there: each operation's value is said by a word that stays true while memory grows; the words of all hold behind the region.
-/
import Derived.Test.YtofnldmbokdkbaaPhase
namespace Go.Proofs.Ytofnldmbokdkbaa
open Go.RowKit

/-- What is said of a value, and stays said while memory grows. -/
structure Say where
  p : World → Value → Prop
  st : ∀ w w' v, p w v → Below w.heap.size w w' → p w' v
/-- Nothing is said. -/
def Say.any : Say := ⟨fun _ _ => True, fun _ _ _ _ _ => trivial⟩
/-- It is this one. -/
def Say.is (u : Value) : Say := ⟨fun _ v => v = u, fun _ _ _ h _ => h⟩
/-- It is a slice that reads as these bytes, n of them. -/
def Say.rd (n : Nat) (l : List UInt8) : Say := ⟨fun w v => ∃ A c, v = .slice A n c ∧ Rd w (.slice A n c) (u8s l), fun _ _ _ ⟨A, c, e, h⟩ hb => ⟨A, c, e, h.below hb⟩⟩
/-- It is a slice that reads as such values. -/
def Say.row (xs : List Value) : Say := ⟨fun w v => Rd w v xs, fun _ _ _ h hb => h.below hb⟩
/-- It is a block of its own. -/
def Say.blk (B : Nat) (t : TypeId) (cs : Array Value) : Say := ⟨fun w v => ∃ g, v = .pointer (some ⟨g, 0, none⟩) ∧ B ≤ g ∧ Blk w g t cs, fun _ _ _ ⟨g, e, hg, h⟩ hb => ⟨g, e, hg, h.below hb⟩⟩
theorem rd_cap {w : World} {A : Option Addr} {n c : Nat} {xs : List Value} (h : Rd w (.slice A n c) xs) : n ≤ c := by
  obtain ⟨A', c', he, hc, _⟩ := h
  injection he with _ e2 e3
  omega
def says (l : List Say) (j : Nat) : Say := (l[j]?).getD Say.any

section
variable {P : Program} {ops : Array Oper} {Q : Exit → Act → World → Prop}
/-- One operation's duty. -/
def DutyG (P : Program) (ops : Array Oper) (Q : Exit → Act → World → Prop) (l : List Say) (a0 : Act) (W : World) (i : Nat) (o : Oper) : Prop :=
  ∀ (a : Act) (w : World), Below W.heap.size W w → a.tmps.size = a0.tmps.size → (∀ t, oldB ops i t = true → a.tmps.getD t undef = a0.tmps.getD t undef) →
    (∀ j oj d, behind ops i j = true → ops[j]? = some oj → oj.dst = some d → (says l j).p w (a.tmps.getD d undef)) →
    if Region.wanted o (yielded ops a.tmps) = true then o.wp P a w (fun a' w' => ∃ v, a' = a.put o.dst v ∧ (says l i).p w' v ∧ Below w.heap.size w w') Q
    else (says l i).p w undef
/-- The world grows; each word that is due is said. -/
def grown (ops : Array Oper) (l : List Say) (W : World) : Phases := fun L f w => Below W.heap.size W w ∧ ∀ j, j < ops.size → L j = true → (∃ o d, ops[j]? = some o ∧ o.dst = some d) → (says l j).p w (f j)
theorem grown_step {l : List Say} {W w w' : World} {L : Nat → Bool} {f : Nat → Value} {i : Nat} {v : Value} (h : grown ops l W L f w) (hs : (says l i).p w' v) (hb : Below w.heap.size w w') : grown ops l W (also L i) (yielding f i v) w' := by
  refine ⟨h.1.trans (hb.mono h.1.size), fun j hj hl hex => ?_⟩
  by_cases e : j = i
  · subst e
    simpa [yielding] using hs
  · have h1 := h.2 j hj (by simpa [also, e] using hl) hex
    have := (says l j).st w w' _ h1 hb
    simpa [yielding, e] using this
theorem region_grows {id : Nat} {a0 : Act} {W : World} (l : List Say) (hm : P.follows .mixedOrders = true) (hB : onceB ops = true) (hR : roomB ops a0.tmps.size = true) (hlow : lowB ops = true)
    (duty : ∀ i o, ops[i]? = some o → DutyG P ops Q l a0 W i o)
    (fin : ∀ a w, Below W.heap.size W w → a.tmps.size = a0.tmps.size → a.defers = a0.defers → (∀ (j : Nat) (o : Oper) (d : Tmp), ops[j]? = some o → o.dst = some d → (says l j).p w (a.tmps.getD d undef)) →
      (∀ t : Tmp, neverB ops t = true → a.tmps.getD t undef = a0.tmps.getD t undef) → Q .normal a w) :
    (Code.region id ops true).wp P Q a0 W := by
  refine region_phases (fun _ _ => True) (grown ops l W) hm hB hR hlow ?_ ?_ ?_ ?_
  · intro L L' f f' w hL hf h
    exact ⟨h.1, fun j hj hl hex => by rw [← hf j hj (by rw [hL j hj]; exact hl) hex]; exact h.2 j hj (by rw [hL j hj]; exact hl) hex⟩
  · exact ⟨(Below.refl _ _).drew, fun _ _ h => by cases h⟩
  · intro i o ho L a w hph hsz hLi hnot hyes old dep
    have h1 := duty i o ho a w hph.1 hsz old (fun j oj d hbd hoj hd => by
      have := hph.2 j (Array.getElem?_eq_some_iff.1 hoj).1 (hyes j hbd) ⟨oj, d, hoj, hd⟩
      rwa [got_dst hoj hd] at this)
    split at h1
    · rename_i hw
      rw [if_pos hw]
      refine Oper.wp_mono ?_ h1
      rintro a' w' ⟨v, e, hs, hb⟩
      exact ⟨v, e, trivial, grown_step hph hs hb⟩
    · rename_i hw
      rw [if_neg hw]
      exact ⟨trivial, grown_step hph h1 (Below.refl _ _)⟩
  · intro a w hph hsz hdf _ keep
    refine fin a w hph.1 hsz hdf (fun j o d ho hd => ?_) keep
    have := hph.2 j (Array.getElem?_eq_some_iff.1 ho).1 rfl ⟨o, d, ho, hd⟩
    rwa [got_dst ho hd] at this

/-- An operation that yields its value at once. -/
theorem grow_yields {o : Oper} {a : Act} {w w' : World} {v : Value} {s : Say} (hrun : (execOp a.eval o).run P w = .ok (.value v) w') (hs : s.p w' v) (hb : Below w.heap.size w w') :
    o.wp P a w (fun a' w' => ∃ v, a' = a.put o.dst v ∧ s.p w' v ∧ Below w.heap.size w w') Q := by
  unfold Oper.wp
  rw [hrun]
  exact ⟨v, rfl, hs, hb⟩
theorem grow_same {o : Oper} {a : Act} {w : World} {v : Value} {s : Say} (hrun : (execOp a.eval o).run P w = .ok (.value v) w) (hs : s.p w v) :
    o.wp P a w (fun a' w' => ∃ v, a' = a.put o.dst v ∧ s.p w' v ∧ Below w.heap.size w w') Q := grow_yields hrun hs (Below.refl _ _)
/-- A call. -/
theorem grow_enters {o : Oper} {a : Act} {w : World} {f : FuncId} {args : Array Value} {s : Say} (hrun : (execOp a.eval o).run P w = .ok (.enter f args) w)
    (hc : Calls P f args w fun e w' => ∃ v, e = .returned v ∧ s.p w' v ∧ Below w.heap.size w w') :
    o.wp P a w (fun a' w' => ∃ v, a' = a.put o.dst v ∧ s.p w' v ∧ Below w.heap.size w w') Q := by
  unfold Oper.wp
  rw [hrun, Oper.upon_enter]
  refine hc.mono ?_
  rintro e w' ⟨v, rfl, hr⟩
  exact ⟨v, rfl, hr⟩
theorem wanted_not {o : Oper} {a : Act} {j d : Nat} {oj : Oper} {b c : Bool} (h : o.guard = some (j, b)) (hj : ops[j]? = some oj) (hd : oj.dst = some d) (hs : d < a.tmps.size) (hv : a.tmps.getD d undef = .bool c) (hbc : (c == b) = false) : ¬ Region.wanted o (yielded ops a.tmps) = true := by
  have : a.tmps[d]? = some (.bool c) := by
    rw [Array.getElem?_eq_getElem hs]
    simp only [Array.getD_eq_getD_getElem?, Array.getElem?_eq_getElem hs, Option.getD_some] at hv
    rw [hv]
  cases b <;> cases c <;> simp_all [Region.wanted, yielded]
theorem wanted_undef {o : Oper} {a : Act} {j d : Nat} {oj : Oper} {b : Bool} (h : o.guard = some (j, b)) (hj : ops[j]? = some oj) (hd : oj.dst = some d) (hs : d < a.tmps.size) (hv : a.tmps.getD d undef = undef) : ¬ Region.wanted o (yielded ops a.tmps) = true := by
  have : a.tmps[d]? = some undef := by
    rw [Array.getElem?_eq_getElem hs]
    simp only [Array.getD_eq_getD_getElem?, Array.getElem?_eq_getElem hs, Option.getD_some] at hv
    rw [hv]
  cases b <;> simp [Region.wanted, h, yielded, hj, hd, this, undef]
/-- The frame behind a region: the old one, with the region's own slots. -/
def dstsL (ops : Array Oper) : List Nat := ops.toList.filterMap (·.dst)
theorem frame_fold (tm : Array Value) : ∀ (ds : List Nat) (m : Array Value) (t : Nat), t < m.size → (ds.foldl (fun m d => m.setIfInBounds d (tm.getD d undef)) m).getD t undef = if t ∈ ds then tm.getD t undef else m.getD t undef
  | [], m, t, _ => by simp
  | d :: ds, m, t, ht => by
    rw [List.foldl_cons, frame_fold tm ds _ t (by simpa using ht)]
    by_cases h : t ∈ ds
    · simp [h]
    · by_cases e : t = d
      · subst e
        simp [h, ht, Array.getD_eq_getD_getElem?]
      · have e' : ¬ d = t := fun h => e h.symm
        simp [h, e, Array.getD_eq_getD_getElem?, e']
theorem fold_size (tm : Array Value) : ∀ (ds : List Nat) (m : Array Value), (ds.foldl (fun m d => m.setIfInBounds d (tm.getD d undef)) m).size = m.size
  | [], _ => rfl
  | d :: ds, m => by rw [List.foldl_cons, fold_size tm ds, Array.size_setIfInBounds]
theorem frame_of {tm tm0 : Array Value} (ds : List Nat) (hds : dstsL ops = ds) (hsz : tm.size = tm0.size) (keep : ∀ t : Tmp, neverB ops t = true → tm.getD t undef = tm0.getD t undef) :
    tm = ds.foldl (fun m d => m.setIfInBounds d (tm.getD d undef)) tm0 := by
  subst hds
  apply Array.ext
  · rw [fold_size, hsz]
  · intro t h1 h2
    have h3 : t < tm0.size := by omega
    have h := frame_fold tm (dstsL ops) tm0 t h3
    have e1 : tm.getD t undef = tm[t] := by simp [Array.getD_eq_getD_getElem?, h1]
    have e2 : (List.foldl (fun m d => m.setIfInBounds d (tm.getD d undef)) tm0 (dstsL ops)).getD t undef = (List.foldl (fun m d => m.setIfInBounds d (tm.getD d undef)) tm0 (dstsL ops))[t] := by
      rw [Array.getD_eq_getD_getElem?, Array.getElem?_eq_getElem h2]; rfl
    rw [← e1, ← e2, h]
    by_cases hn : t ∈ dstsL ops
    · rw [if_pos hn]
    · rw [if_neg hn]
      refine keep t ?_
      unfold neverB
      rw [Array.all_eq_true']
      intro o ho
      simp only [bne_iff_ne, ne_eq]
      intro e
      refine hn ?_
      unfold dstsL
      rw [List.mem_filterMap]
      exact ⟨o, Array.mem_toList_iff.2 ho, e⟩
end
end Go.Proofs.Ytofnldmbokdkbaa
