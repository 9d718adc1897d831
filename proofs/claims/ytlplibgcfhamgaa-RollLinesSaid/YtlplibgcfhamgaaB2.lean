/-
  What stage 7's statements lean on, part 2 of 6 (put together by merge.py).
-/
import Derived.Test.YtlplibgcfhamgaaB1
namespace Go.Proofs.Ytlplibgcfhamgaa
set_option linter.unusedSimpArgs false
set_option linter.unusedVariables false
section
/- A region whose order is drawn, with stores into blocks of the call's own: the world moves by a relation G; each operation's value is said by a word that stays said along G; what has been stored is told by which operations have come up. -/
open Go.RowKit
set_option maxRecDepth 20000

/-- A word that stays said along G. -/
structure Word (G : World → World → Prop) where
  p : World → Value → Prop
  st : ∀ w w' v, p w v → G w w' → p w' v
def Word.any (G : World → World → Prop) : Word G := ⟨fun _ _ => True, fun _ _ _ _ _ => trivial⟩
def Word.is (G : World → World → Prop) (u : Value) : Word G := ⟨fun _ v => v = u, fun _ _ _ h _ => h⟩
/-- Blocks of X may turn; all others stay; memory grows. -/
def Turns (X : Nat → Prop) (w w' : World) : Prop := w'.os = w.os ∧ w'.tape = w.tape ∧ w'.output = w.output ∧ w.heap.size ≤ w'.heap.size ∧ ∀ k, k < w.heap.size → ¬ X k → w'.heap[k]? = w.heap[k]?
/-- It is a slice that reads as these bytes, its array in no block of X. -/
def Away (X : Nat → Prop) (w : World) (v : Value) (xs : List Value) : Prop :=
  ∃ A c, v = .slice A xs.length c ∧ xs.length ≤ c ∧ (0 < xs.length → ∃ b o, A = some ⟨b, o, none⟩ ∧ b < w.heap.size ∧ ¬ X b ∧ ∀ j u, xs[j]? = some u → w.cell? ⟨b, o + j, none⟩ = some u)
theorem Away.rd {X : Nat → Prop} {w : World} {v : Value} {xs : List Value} (h : Away X w v xs) : Rd w v xs := by
  obtain ⟨A, c, e, hc, h⟩ := h
  exact ⟨A, c, e, hc, fun hn => by obtain ⟨b, o, e, hb, _, hr⟩ := h hn; exact ⟨b, o, e, hb, hr⟩⟩
section
variable {X : Nat → Prop} {w w' w'' : World}
theorem Turns.refl (X : Nat → Prop) (w : World) : Turns X w w := ⟨rfl, rfl, rfl, Nat.le_refl _, fun _ _ _ => rfl⟩
theorem Turns.size (h : Turns X w w') : w.heap.size ≤ w'.heap.size := h.2.2.2.1
theorem Turns.block (h : Turns X w w') {k : Nat} (hk : k < w.heap.size) (hx : ¬ X k) : w'.heap[k]? = w.heap[k]? := h.2.2.2.2 k hk hx
theorem Turns.trans (h : Turns X w w') (h' : Turns X w' w'') : Turns X w w'' :=
  ⟨h'.1.trans h.1, h'.2.1.trans h.2.1, h'.2.2.1.trans h.2.2.1, Nat.le_trans h.size h'.size, fun _ hk hx => (h'.block (Nat.lt_of_lt_of_le hk h.size) hx).trans (h.block hk hx)⟩
theorem Turns.drew (X : Nat → Prop) (w : World) : Turns X w w.drew := ⟨rfl, rfl, rfl, Nat.le_refl _, fun _ _ _ => rfl⟩
theorem Turns.of_below (h : Below w.heap.size w w') : Turns X w w' := ⟨h.os, h.tape, h.output, h.size, fun k hk _ => h.block k hk⟩
theorem Turns.of_grown {row : Option Nat} (h : w.grownBy w' row) (hx : ∀ k, row = some k → X k ∨ w.heap.size ≤ k) : Turns X w w' :=
  ⟨h.os, h.tape, h.output, h.size, fun k hk hn => h.block k hk (fun e => by rcases hx k e.symm with h1 | h1; exact hn h1; omega)⟩
theorem Turns.set (w : World) {q : Addr} (hq : X q.block) (u : Value) : Turns X w (w.setCell q u) :=
  ⟨rfl, rfl, rfl, by simp [World.setCell], fun _ _ hx => Below.heap_setCell _ _ _ _ (fun e => hx (by subst e; exact hq))⟩
theorem Turns.own (w : World) (g a : Nat) (u : Value) : Turns (· = g) w (w.setCell ⟨g, a, none⟩ u) := Turns.set w (X := (· = g)) (q := ⟨g, a, none⟩) rfl u
theorem Turns.cell (h : Turns X w w') {q : Addr} (hk : q.block < w.heap.size) (hx : ¬ X q.block) : w'.cell? q = w.cell? q := World.cell?_of_block (h.block hk hx)
theorem Turns.blk (h : Turns X w w') {k : Nat} {t : TypeId} {cs : Array Value} (hb : Blk w k t cs) (hx : ¬ X k) : Blk w' k t cs := (h.block hb.lt hx).trans hb
theorem Turns.below {B : Nat} (h : Turns X w w') (hB : B ≤ w.heap.size) (hx : ∀ k, X k → B ≤ k) : Below B w w' := ⟨h.1, h.2.1, h.2.2.1, h.size, fun k hk => h.block (by omega) (fun e => by have := hx k e; omega)⟩
theorem Away.turns {v : Value} {xs : List Value} (h : Away X w v xs) (ht : Turns X w w') : Away X w' v xs := by
  obtain ⟨A, c, e, hc, h⟩ := h
  refine ⟨A, c, e, hc, fun hn => ?_⟩
  obtain ⟨b, o, e, hb, hx, hr⟩ := h hn
  exact ⟨b, o, e, Nat.lt_of_lt_of_le hb ht.size, hx, fun j u hu => (ht.cell (q := ⟨b, o + j, none⟩) hb hx).trans (hr j u hu)⟩
theorem Away.of_row {B : Nat} {v : Value} {xs : List Value} (h : Row w B v xs) (hB : B ≤ w.heap.size) (hx : ∀ k, X k → B ≤ k) : Away X w v xs := by
  obtain ⟨A, c, e, hc, h⟩ := h
  refine ⟨A, c, e, hc, fun hn => ?_⟩
  obtain ⟨b, o, e, hb, hr⟩ := h hn
  exact ⟨b, o, e, by omega, fun hh => by have := hx b hh; omega, hr⟩
end
def Word.away (X : Nat → Prop) (n : Nat) (l : List UInt8) : Word (Turns X) := ⟨fun w v => ∃ A c, v = .slice A n c ∧ Away X w (.slice A n c) (u8s l), fun _ _ _ ⟨A, c, e, h⟩ ht => ⟨A, c, e, h.turns ht⟩⟩
def words {G : World → World → Prop} (l : List (Word G)) (j : Nat) : Word G := (l[j]?).getD (Word.any G)

/-- What a block holds, by which stores have come up: (operation, cell, value). -/
def filled (st : List (Nat × Nat × Value)) (L : Nat → Bool) (cs : Array Value) : Array Value := st.foldl (fun cs x => if L x.1 then cs.setIfInBounds x.2.1 x.2.2 else cs) cs
/-- Unlike operations, unlike cells. -/
def apartB (st : List (Nat × Nat × Value)) : Bool := (List.range st.length).all fun i => (List.range st.length).all fun j => i == j || (match st[i]?, st[j]? with | some x, some y => x.1 != y.1 && x.2.1 != y.2.1 | _, _ => true)
theorem set_comm (cs : Array Value) (a b : Nat) (u v : Value) (h : a ≠ b) : (cs.setIfInBounds a u).setIfInBounds b v = (cs.setIfInBounds b v).setIfInBounds a u := by
  apply Array.ext'
  simp only [Array.toList_setIfInBounds]
  exact List.set_comm _ _ h
theorem filled_swap {L : Nat → Bool} {a : Nat} {v : Value} : ∀ (st : List (Nat × Nat × Value)) (cs : Array Value), (∀ x ∈ st, x.2.1 ≠ a) → filled st L (cs.setIfInBounds a v) = (filled st L cs).setIfInBounds a v
  | [], _, _ => rfl
  | x :: st, cs, h => by
    unfold filled
    rw [List.foldl_cons, List.foldl_cons]
    have ih := fun cs => filled_swap (L := L) (a := a) (v := v) st cs (fun y hy => h y (List.mem_cons_of_mem _ hy))
    unfold filled at ih
    split
    · rw [← ih, set_comm _ _ _ _ _ (fun e => h x (List.mem_cons_self ..) e.symm)]
    · exact ih cs
theorem filled_same {L : Nat → Bool} {i : Nat} : ∀ (st : List (Nat × Nat × Value)) (cs : Array Value), (∀ x ∈ st, x.1 ≠ i) → filled st (also L i) cs = filled st L cs
  | [], _, _ => rfl
  | x :: st, cs, h => by
    have hx : also L i x.1 = L x.1 := by simp [also, h x (List.mem_cons_self ..)]
    have ih := fun cs => filled_same (L := L) (i := i) st cs (fun y hy => h y (List.mem_cons_of_mem _ hy))
    unfold filled at ih ⊢
    rw [List.foldl_cons, List.foldl_cons, hx, ih]
theorem filled_set {L : Nat → Bool} {i a : Nat} {v : Value} (hL : L i = false) : ∀ (st : List (Nat × Nat × Value)) (cs : Array Value) (j : Nat), st[j]? = some (i, a, v) → (∀ k x, st[k]? = some x → k ≠ j → x.1 ≠ i ∧ x.2.1 ≠ a) →
    (filled st L cs).setIfInBounds a v = filled st (also L i) cs
  | [], _, _, h, _ => by simp at h
  | x :: st, cs, 0, h, hd => by
    simp only [List.getElem?_cons_zero, Option.some.injEq] at h
    subst h
    have h1 : ∀ y ∈ st, y.1 ≠ i ∧ y.2.1 ≠ a := by
      intro y hy
      obtain ⟨k, hk⟩ := List.mem_iff_getElem?.1 hy
      exact hd (k + 1) y (by simpa using hk) (by omega)
    have e1 := filled_swap (L := L) (a := a) (v := v) st cs (fun y hy => (h1 y hy).2)
    have e2 := filled_same (L := L) (i := i) st (cs.setIfInBounds a v) (fun y hy => (h1 y hy).1)
    unfold filled at e1 e2 ⊢
    rw [List.foldl_cons, List.foldl_cons]
    simp only [hL, Bool.false_eq_true, if_false]
    rw [if_pos (by simp [also]), e2, e1]
  | x :: st, cs, j + 1, h, hd => by
    have hx := hd 0 x (by simp) (by omega)
    have hal : also L i x.1 = L x.1 := by simp [also, hx.1]
    have ih := fun cs => filled_set hL st cs j (by simpa using h) (fun k y hk hne => hd (k + 1) y (by simpa using hk) (by omega))
    unfold filled at ih ⊢
    rw [List.foldl_cons, List.foldl_cons, hal, ih]
theorem filled_at {st : List (Nat × Nat × Value)} {L : Nat → Bool} {cs : Array Value} {i a : Nat} {v : Value} (j : Nat) (hap : apartB st = true) (h : st[j]? = some (i, a, v)) (hL : L i = false) : (filled st L cs).setIfInBounds a v = filled st (also L i) cs := by
  refine filled_set hL st cs j h fun k x hk hne => ?_
  unfold apartB at hap
  rw [List.all_eq_true] at hap
  have hkl := (List.getElem?_eq_some_iff.1 hk).1
  have hjl := (List.getElem?_eq_some_iff.1 h).1
  have h1 := hap k (List.mem_range.2 hkl)
  rw [List.all_eq_true] at h1
  have h2 := h1 j (List.mem_range.2 hjl)
  rw [hk, h] at h2
  simpa [hne] using h2
theorem filled_other {st : List (Nat × Nat × Value)} {L : Nat → Bool} {cs : Array Value} {i : Nat} (h : (st.all fun x => x.1 != i) = true) : filled st (also L i) cs = filled st L cs :=
  filled_same st cs fun x hx => by
    rw [List.all_eq_true] at h
    simpa using h x hx
theorem filled_ext {ops : Array Oper} {st : List (Nat × Nat × Value)} {L L' : Nat → Bool} (hb : (st.all fun x => decide (x.1 < ops.size)) = true) (h : ∀ j, j < ops.size → L j = L' j) (cs : Array Value) : filled st L cs = filled st L' cs := by
  induction st generalizing cs with
  | nil => rfl
  | cons x st ih =>
    simp only [List.all_cons, Bool.and_eq_true, decide_eq_true_eq] at hb
    have ih' := fun cs => ih hb.2 cs
    unfold filled at ih' ⊢
    rw [List.foldl_cons, List.foldl_cons, h _ hb.1, ih']

theorem filled_size (st : List (Nat × Nat × Value)) (L : Nat → Bool) (cs : Array Value) : (filled st L cs).size = cs.size := by
  induction st generalizing cs with
  | nil => rfl
  | cons x st ih =>
    unfold filled at ih ⊢
    rw [List.foldl_cons, ih]
    split <;> simp
/-- Block g holds what the stores that have come up left of cs. -/
def Stored (g : Nat) (t : TypeId) (st : List (Nat × Nat × Value)) (cs : Array Value) (L : Nat → Bool) (w : World) : Prop := Blk w g t (filled st L cs)
theorem Stored.start {w : World} {g : Nat} {t : TypeId} (st : List (Nat × Nat × Value)) {cs : Array Value} (h : Blk w g t cs) : Stored g t st cs (fun _ => false) w.drew := by
  have : filled st (fun _ => false) cs = cs := by
    induction st generalizing cs with
    | nil => rfl
    | cons x st ih => exact ih h
  unfold Stored
  rw [this]
  exact h
theorem Stored.start0 {w : World} {g : Nat} {t : TypeId} (st : List (Nat × Nat × Value)) {cs : Array Value} (h : Blk w g t cs) : Stored g t st cs (fun _ => false) w := Stored.start st h
theorem Stored.other {w : World} {g : Nat} {t : TypeId} {st : List (Nat × Nat × Value)} {cs : Array Value} {L : Nat → Bool} {i : Nat} (h : Stored g t st cs L w) (hn : (st.all fun x => x.1 != i) = true) : Stored g t st cs (also L i) w := by
  unfold Stored
  rw [filled_other hn]
  exact h
theorem Stored.at_ {w : World} {g : Nat} {t : TypeId} {st : List (Nat × Nat × Value)} {cs : Array Value} {L : Nat → Bool} {i a : Nat} {v : Value} (h : Stored g t st cs L w) (j : Nat) (hap : apartB st = true) (hj : st[j]? = some (i, a, v)) (hL : L i = false) : Stored g t st cs (also L i) (w.setCell ⟨g, a, none⟩ v) := by
  unfold Stored
  rw [← filled_at j hap hj hL]
  exact Blk.set_ h a v
theorem Stored.ext {ops : Array Oper} {w : World} {g : Nat} {t : TypeId} {st : List (Nat × Nat × Value)} {cs : Array Value} {L L' : Nat → Bool} (hb : (st.all fun x => decide (x.1 < ops.size)) = true) (h : ∀ j, j < ops.size → L j = L' j) (hS : Stored g t st cs L w) : Stored g t st cs L' w := by
  unfold Stored
  rw [← filled_ext hb h]
  exact hS
theorem Stored.cell {w : World} {g : Nat} {t : TypeId} {st : List (Nat × Nat × Value)} {cs : Array Value} {L : Nat → Bool} (h : Stored g t st cs L w) (a : Nat) (ha : a < cs.size) : (∃ u, w.cell? ⟨g, a, none⟩ = some u) ∧ w.frozen? ⟨g, a, none⟩ = false := by
  have hs : a < (filled st L cs).size := by rw [filled_size]; exact ha
  exact ⟨⟨_, Blk.cell h a _ (Array.getElem?_eq_getElem hs)⟩, Blk.frozen h a⟩

section
variable {P : Program} {ops : Array Oper} {Q : Exit → Act → World → Prop} {G : World → World → Prop}
def DutyT (P : Program) (ops : Array Oper) (Q : Exit → Act → World → Prop) (l : List (Word G)) (S : (Nat → Bool) → World → Prop) (a0 : Act) (W : World) (i : Nat) (o : Oper) : Prop :=
  ∀ (L : Nat → Bool) (a : Act) (w : World), G W w → S L w → L i = false → (∀ j, ahead ops j i = true → L j = false) → (∀ j, behind ops i j = true → L j = true) → a.tmps.size = a0.tmps.size → (∀ t, oldB ops i t = true → a.tmps.getD t undef = a0.tmps.getD t undef) →
    (∀ j oj d, behind ops i j = true → ops[j]? = some oj → oj.dst = some d → (words l j).p w (a.tmps.getD d undef)) →
    if Region.wanted o (yielded ops a.tmps) = true then o.wp P a w (fun a' w' => ∃ v, a' = a.put o.dst v ∧ (words l i).p w' v ∧ S (also L i) w' ∧ G w w') Q
    else (words l i).p w undef ∧ S (also L i) w
def turned (ops : Array Oper) (l : List (Word G)) (S : (Nat → Bool) → World → Prop) (W : World) : Phases := fun L f w => G W w ∧ S L w ∧ ∀ j, j < ops.size → L j = true → (∃ o d, ops[j]? = some o ∧ o.dst = some d) → (words l j).p w (f j)
theorem turned_step {l : List (Word G)} {S : (Nat → Bool) → World → Prop} {W w w' : World} {L : Nat → Bool} {f : Nat → Value} {i : Nat} {v : Value} (ht : ∀ {a b c}, G a b → G b c → G a c) (h : turned ops l S W L f w) (hs : (words l i).p w' v) (hS : S (also L i) w') (hb : G w w') : turned ops l S W (also L i) (yielding f i v) w' := by
  refine ⟨ht h.1 hb, hS, fun j hj hl hex => ?_⟩
  by_cases e : j = i
  · subst e
    simpa [yielding] using hs
  · have h1 := h.2.2 j hj (by simpa [also, e] using hl) hex
    have := (words l j).st w w' _ h1 hb
    simpa [yielding, e] using this
theorem region_turns {id : Nat} {a0 : Act} {W : World} (l : List (Word G)) (S : (Nat → Bool) → World → Prop) (hr : ∀ w, G w w) (ht : ∀ {a b c}, G a b → G b c → G a c) (hd : ∀ w, G w w.drew)
    (hm : P.follows .mixedOrders = true) (hB : onceB ops = true) (hR : roomB ops a0.tmps.size = true) (hlow : lowB ops = true)
    (hSx : ∀ L L' w, (∀ j, j < ops.size → L j = L' j) → S L w → S L' w) (hS0 : S (fun _ => false) W.drew)
    (duty : ∀ i o, ops[i]? = some o → DutyT P ops Q l S a0 W i o)
    (fin : ∀ a w, G W w → S (fun _ => true) w → a.tmps.size = a0.tmps.size → a.defers = a0.defers → (∀ (j : Nat) (o : Oper) (d : Tmp), ops[j]? = some o → o.dst = some d → (words l j).p w (a.tmps.getD d undef)) →
      (∀ t : Tmp, neverB ops t = true → a.tmps.getD t undef = a0.tmps.getD t undef) → Q .normal a w) :
    (Code.region id ops true).wp P Q a0 W := by
  refine region_phases (fun _ _ => True) (turned ops l S W) hm hB hR hlow ?_ ?_ ?_ ?_
  · intro L L' f f' w hL hf h
    exact ⟨h.1, hSx _ _ _ hL h.2.1, fun j hj hl hex => by rw [← hf j hj (by rw [hL j hj]; exact hl) hex]; exact h.2.2 j hj (by rw [hL j hj]; exact hl) hex⟩
  · exact ⟨hd W, hS0, fun _ _ h => by cases h⟩
  · intro i o ho L a w hph hsz hLi hnot hyes old dep
    have h1 := duty i o ho L a w hph.1 hph.2.1 hLi hnot hyes hsz old (fun j oj d hbd hoj hd => by
      have := hph.2.2 j (Array.getElem?_eq_some_iff.1 hoj).1 (hyes j hbd) ⟨oj, d, hoj, hd⟩
      rwa [got_dst hoj hd] at this)
    split at h1
    · rename_i hw
      rw [if_pos hw]
      refine Oper.wp_mono ?_ h1
      rintro a' w' ⟨v, e, hs, hS, hb⟩
      exact ⟨v, e, trivial, turned_step ht hph hs hS hb⟩
    · rename_i hw
      rw [if_neg hw]
      exact ⟨trivial, turned_step ht hph h1.1 h1.2 (hr w)⟩
  · intro a w hph hsz hdf _ keep
    refine fin a w hph.1 hph.2.1 hsz hdf (fun j o d ho hd => ?_) keep
    have := hph.2.2 j (Array.getElem?_eq_some_iff.1 ho).1 rfl ⟨o, d, ho, hd⟩
    rwa [got_dst ho hd] at this
theorem turn_same {o : Oper} {a : Act} {w : World} {v : Value} {s : Word G} {S : World → Prop} (hr : ∀ w, G w w) (hrun : (execOp a.eval o).run P w = .ok (.value v) w) (hs : s.p w v) (hS : S w) :
    o.wp P a w (fun a' w' => ∃ v, a' = a.put o.dst v ∧ s.p w' v ∧ S w' ∧ G w w') Q := by
  unfold Oper.wp
  rw [hrun]
  exact ⟨v, rfl, hs, hS, hr w⟩
theorem turn_skips {o : Oper} {a : Act} {w w' : World} {s : Word G} {S : World → Prop} (hrun : (execOp a.eval o).run P w = .ok .skip w') (hs : s.p w' undef) (hS : S w') (hb : G w w') :
    o.wp P a w (fun a' w' => ∃ v, a' = a.put o.dst v ∧ s.p w' v ∧ S w' ∧ G w w') Q := by
  unfold Oper.wp
  rw [hrun]
  exact ⟨undef, rfl, hs, hS, hb⟩
theorem turn_yields {o : Oper} {a : Act} {w w' : World} {v : Value} {s : Word G} {S : World → Prop} (hrun : (execOp a.eval o).run P w = .ok (.value v) w') (hs : s.p w' v) (hS : S w') (hb : G w w') :
    o.wp P a w (fun a' w' => ∃ v, a' = a.put o.dst v ∧ s.p w' v ∧ S w' ∧ G w w') Q := by
  unfold Oper.wp
  rw [hrun]
  exact ⟨v, rfl, hs, hS, hb⟩
theorem turn_enters {o : Oper} {a : Act} {w : World} {f : FuncId} {args : Array Value} {s : Word G} {S : World → Prop} (hrun : (execOp a.eval o).run P w = .ok (.enter f args) w)
    (hc : Calls P f args w fun e w' => ∃ v, e = .returned v ∧ s.p w' v ∧ S w' ∧ G w w') :
    o.wp P a w (fun a' w' => ∃ v, a' = a.put o.dst v ∧ s.p w' v ∧ S w' ∧ G w w') Q := by
  unfold Oper.wp
  rw [hrun, Oper.upon_enter]
  refine hc.mono ?_
  rintro e w' ⟨v, rfl, hr⟩
  exact ⟨v, rfl, hr⟩
end
end
section
/- copy into a block of bytes of the call's own, from a string or from a slice that reads as a list. -/
open Go.RowKit
set_option maxRecDepth 20000

section
variable {P : Program} {w : World}
/-- l with m laid over it from place off on. -/
def over (l : List UInt8) (off : Nat) (m : List UInt8) : List UInt8 := l.take off ++ (m ++ l.drop (off + m.length))
theorem over_length (l m : List UInt8) (off : Nat) (h : off + m.length ≤ l.length) : (over l off m).length = l.length := by simp [over]; omega
theorem run_copy_into (t tx ty e : TypeId) (i : TypeInfo) (ht : P.underlying t = some (.slice e)) (hi : P.info? e = some i) (hs1 : i.size = 1) {g off n c : Nat} {l : List UInt8} (hb : Blk w g e (blk8 l)) (src : Value) (m : Nat) (ys : List UInt8)
    (hlen : (Builtin.lenOf src).run P w = .ok m w) (hys : ys.length = min m n) (hfirst : (Builtin.firstCells 1 (min m n) src).run P w = .ok (u8s ys).toArray w) (hfit : off + ys.length ≤ l.length) :
    ∃ w', (Builtin.copy_ #[t, tx] ty #[.slice (some ⟨g, off, none⟩) n c, src]).run P w = .ok (.int .i64 (min m n : Nat)) w' ∧ Blk w' g e (blk8 (over l off ys)) ∧ Turns (· = g) w w' := by
  have hst := run_storeCells_at P g off e (u8s ys) 0 (blk8 l) w hb (by rw [u8s_length, blk8_size]; omega) (oneCell_u8s ys)
  refine ⟨w.setRow g (((blk8 l).toList.take (off + 0) ++ u8s ys ++ (blk8 l).toList.drop (off + 0 + (u8s ys).length)).toArray), ?_, ?_, ?_⟩
  rotate_left
  · have h := setRow_heap w g (blk8 l) (((blk8 l).toList.take (off + 0) ++ u8s ys ++ (blk8 l).toList.drop (off + 0 + (u8s ys).length)).toArray) e _ hb
    refine Eq.trans h ?_
    congr 2
    apply Array.ext'
    simp [blk8, over, u8s]
  · exact ⟨rfl, rfl, rfl, by simp [World.setRow], fun k _ hk => setRow_other w g k _ hk⟩
  · have hmin : Nat.min m n = min m n := rfl
    rw [← hmin] at hfirst ⊢
    simp [Builtin.copy_, run_underlying ht, sizeOf, typeInfo, hi, hs1, hlen, hfirst, hst, goInt]
theorem run_lenOf_string (s : ByteArray) : (Builtin.lenOf (.string s)).run P w = .ok s.size w := by simp [Builtin.lenOf]
theorem run_firstCells_str (s : ByteArray) (n : Nat) : (Builtin.firstCells 1 n (.string s)).run P w = .ok (u8s (s.data.toList.take n)).toArray w := by
  have : ((s.extract 0 n).data.map fun b => Value.int .u8 b.toNat) = (u8s (s.data.toList.take n)).toArray := by
    apply Array.ext'
    simp [u8s, ByteArray.data_extract]
  simp only [Builtin.firstCells, this]; rfl
theorem run_firstCells_rd {A : Option Addr} {n c k : Nat} {xs : List Value} (h : Rd w (.slice A n c) xs) (hk : k ≤ n) : (Builtin.firstCells 1 k (.slice A n c)).run P w = .ok (xs.take k).toArray w := by
  obtain ⟨A', c', e, hc, hr⟩ := h
  injection e with e1 e2 e3
  subst e1 e3
  rcases A with _ | a
  · have h0 : xs = [] := by
      rcases Nat.eq_zero_or_pos xs.length with h | h
      · exact List.eq_nil_of_length_eq_zero h
      · obtain ⟨_, _, h, _⟩ := hr h; cases h
    subst h0
    simp [Builtin.firstCells]
  · refine run_firstCells_some (P := P) w 1 k a n c (xs.take k) (by simp; omega) fun j v hj => ?_
    have hjx : xs[j]? = some v := by
      rw [List.getElem?_take] at hj
      split at hj
      · exact hj
      · cases hj
    have hpos : 0 < xs.length := by have := (List.getElem?_eq_some_iff.1 hjx).1; omega
    obtain ⟨b, o, e, _, hcell⟩ := hr hpos
    injection e with e
    subst e
    rw [addr_add]
    exact hcell j v hjx
theorem run_lenOf_slice (A : Option Addr) (n c : Nat) : (Builtin.lenOf (.slice A n c)).run P w = .ok n w := by simp [Builtin.lenOf]
/-- copy(b[off:], s), b a block of one's own. -/
theorem run_copy_str (t tx ty e : TypeId) (i : TypeInfo) (ht : P.underlying t = some (.slice e)) (hi : P.info? e = some i) (hs1 : i.size = 1) {g off n c : Nat} {l : List UInt8} (hb : Blk w g e (blk8 l)) (s : ByteArray) (hn : s.size ≤ n) (hfit : off + s.size ≤ l.length) :
    ∃ w', (Builtin.copy_ #[t, tx] ty #[.slice (some ⟨g, off, none⟩) n c, .string s]).run P w = .ok (.int .i64 (s.size : Nat)) w' ∧ Blk w' g e (blk8 (over l off s.data.toList)) ∧ Turns (· = g) w w' := by
  have hsz : s.data.toList.length = s.size := Array.length_toList
  have hm : min s.size n = s.size := by omega
  obtain ⟨w', h1, h2, h3⟩ := run_copy_into (P := P) t tx ty e i ht hi hs1 (n := n) (c := c) (off := off) hb (.string s) s.size s.data.toList (run_lenOf_string s) (by omega) (by rw [hm, run_firstCells_str, ← hsz, List.take_length]) (by omega)
  rw [hm] at h1
  exact ⟨w', h1, h2, h3⟩
/-- copy(b[off:], x), b a block of one's own, x any slice that reads as a list. -/
theorem run_copy_rd (t tx ty e : TypeId) (i : TypeInfo) (ht : P.underlying t = some (.slice e)) (hi : P.info? e = some i) (hs1 : i.size = 1) {g off n c : Nat} {l : List UInt8} (hb : Blk w g e (blk8 l)) {A : Option Addr} {m cx : Nat} {xs : List UInt8} (hx : Rd w (.slice A m cx) (u8s xs)) (hm : xs.length = m) (hfit : off + min m n ≤ l.length) :
    ∃ w', (Builtin.copy_ #[t, tx] ty #[.slice (some ⟨g, off, none⟩) n c, .slice A m cx]).run P w = .ok (.int .i64 (min m n : Nat)) w' ∧ Blk w' g e (blk8 (over l off (xs.take (min m n)))) ∧ Turns (· = g) w w' := by
  refine run_copy_into (P := P) t tx ty e i ht hi hs1 (n := n) (c := c) (off := off) hb (.slice A m cx) m (xs.take (min m n)) (run_lenOf_slice A m cx) (by simp; omega) ?_ (by simp; omega)
  rw [u8s_take]
  exact run_firstCells_rd hx (Nat.min_le_left _ _)
theorem wp_copy_run {o : Oper} {a : Act} {K : Act → World → Prop} {Q : Exit → Act → World → Prop} (s x : Operand) (t tn : TypeId)
    (ho : o.op = .call { callee := .builtin .copy, args := #[s, x], argTypes := #[t, tn] }) (vs vx : Value) (hs : a.eval s = vs) (hx : a.eval x = vx)
    (v' : Value) (w' : World) (hr : (Builtin.copy_ #[t, tn] o.type #[vs, vx]).run P w = .ok v' w') (h : K (a.put o.dst v') w') : o.wp P a w K Q := by
  unfold Oper.wp execOp
  simp only [ho, resolve, invoke, builtin, Sem.run_bind, Sem.run_pure, Result.andThen_ok, List.map_toArray, List.map_cons, List.map_nil, hs, hx, hr]
  exact h
/-- The operation, for a walk. -/
theorem wpList_copy_run {ops : Array Oper} {rest : List Oper} {o : Oper} {a : Act} {Q : Exit → Act → World → Prop} (hgd : o.guard = none) (s x : Operand) (t tn : TypeId)
    (ho : o.op = .call { callee := .builtin .copy, args := #[s, x], argTypes := #[t, tn] }) (vs vx : Value) (hs : a.eval s = vs) (hx : a.eval x = vx)
    (v' : Value) (w' : World) (hr : (Builtin.copy_ #[t, tn] o.type #[vs, vx]).run P w = .ok v' w') (h : wpList P ops Q rest (a.put o.dst v') w') : wpList P ops Q (o :: rest) a w :=
  wpList_plain hgd fun _ hK => wp_copy_run s x t tn ho vs vx hs hx v' w' hr (hK _ _ h)
theorem wpList_copy_str {ops : Array Oper} {rest : List Oper} {o : Oper} {a : Act} {Q : Exit → Act → World → Prop} (hgd : o.guard = none) (d x : Operand) (t tn e : TypeId) (i : TypeInfo)
    (ho : o.op = .call { callee := .builtin .copy, args := #[d, x], argTypes := #[t, tn] }) (ht : P.underlying t = some (.slice e)) (hi : P.info? e = some i) (hs1 : i.size = 1)
    {g off n c : Nat} {l : List UInt8} (hd : a.eval d = .slice (some ⟨g, off, none⟩) n c) (hb : Blk w g e (blk8 l)) (s : ByteArray) (hx : a.eval x = .string s) (hn : s.size ≤ n) (hfit : off + s.size ≤ l.length)
    (h : ∀ w', Blk w' g e (blk8 (over l off s.data.toList)) → Turns (· = g) w w' → wpList P ops Q rest (a.put o.dst (.int .i64 (s.size : Nat))) w') : wpList P ops Q (o :: rest) a w := by
  obtain ⟨w', hr, h2, h3⟩ := run_copy_str (P := P) t tn o.type e i ht hi hs1 (n := n) (c := c) (off := off) hb s hn hfit
  exact wpList_copy_run hgd d x t tn ho _ _ hd hx _ w' hr (h w' h2 h3)
theorem wpList_copy_rd {ops : Array Oper} {rest : List Oper} {o : Oper} {a : Act} {Q : Exit → Act → World → Prop} (hgd : o.guard = none) (d x : Operand) (t tn e : TypeId) (i : TypeInfo)
    (ho : o.op = .call { callee := .builtin .copy, args := #[d, x], argTypes := #[t, tn] }) (ht : P.underlying t = some (.slice e)) (hi : P.info? e = some i) (hs1 : i.size = 1)
    {g off n c : Nat} {l : List UInt8} (hd : a.eval d = .slice (some ⟨g, off, none⟩) n c) (hb : Blk w g e (blk8 l)) {A : Option Addr} {m cx : Nat} {xs : List UInt8} (hx : a.eval x = .slice A m cx) (hr : Rd w (.slice A m cx) (u8s xs)) (hm : xs.length = m) (hfit : off + min m n ≤ l.length)
    (h : ∀ w', Blk w' g e (blk8 (over l off (xs.take (min m n)))) → Turns (· = g) w w' → wpList P ops Q rest (a.put o.dst (.int .i64 (min m n : Nat))) w') : wpList P ops Q (o :: rest) a w := by
  obtain ⟨w', hr, h2, h3⟩ := run_copy_rd (P := P) t tn o.type e i ht hi hs1 (n := n) (c := c) (off := off) hb hr hm hfit
  exact wpList_copy_run hgd d x t tn ho _ _ hd hx _ w' hr (h w' h2 h3)
end
end
section
/- Contract of what the statements of stage 6 make of a byte: cell; copy of numbers. -/
open Go.RowKit
set_option maxRecDepth 20000

set_option linter.unusedSimpArgs false
set_option linter.unusedVariables false

theorem conv_blk {w : World} {g : Nat} {t : TypeId} {l : List UInt8} (n : Nat) (hn : l.length = n) (h : Blk w g t (blk8 l)) : (convert 31 9 (.slice (some ⟨g, 0, none⟩) n n)).run Try.prog w = .ok (.string ⟨l.toArray⟩) w := by
  subst hn
  exact conv_rd (h.rd8 rfl (Nat.le_refl _))
def z40 : List UInt8 := List.replicate 40 0
def z256 : List UInt8 := List.replicate 256 0
theorem z40_length : z40.length = 40 := List.length_replicate
theorem z256_length : z256.length = 256 := List.length_replicate
theorem run_make40 (W : World) : (Instr.makeSlice 31 (.int .i64 40) (.int .i64 40)).run Try.prog W = .ok (.slice (some ⟨W.heap.size, 0, none⟩) 40 40) (W.alloc (.cells (blk8 z40) 5)) :=
  run_make8 (P := Try.prog) 31 5 Try.underlying31 info8 40 (by omega) W
theorem run_make256 (W : World) : (Instr.makeSlice 31 (.int .i64 256) (.int .i64 256)).run Try.prog W = .ok (.slice (some ⟨W.heap.size, 0, none⟩) 256 256) (W.alloc (.cells (blk8 z256) 5)) :=
  run_make8 (P := Try.prog) 31 5 Try.underlying31 info8 256 (by omega) W
/-- A slot's bytes of a byte. -/
def cellL (x : UInt8) : List UInt8 := (z40.set 0 1).set 7 x
theorem cellL_length (x : UInt8) : (cellL x).length = 40 := by rw [cellL, List.length_set, List.length_set, z40_length]
def cellB (x : UInt8) : ByteArray := if x = 0 then ⟨#[]⟩ else ⟨(cellL x).toArray⟩
theorem cellB_size (x : UInt8) : (cellB x).size = 0 ∨ (cellB x).size = 40 := by
  unfold cellB
  split
  · exact .inl rfl
  · exact .inr (by show (cellL x).toArray.size = 40; simp [cellL_length])
/-- An image's bytes of a byte. -/
def imgL (x : UInt8) : List UInt8 := (z256.set 3 x).set 200 x
theorem imgL_length (x : UInt8) : (imgL x).length = 256 := by rw [imgL, List.length_set, List.length_set, z256_length]
def imgB (x : UInt8) : ByteArray := if x = 0 then ⟨#[]⟩ else ⟨(imgL x).toArray⟩
theorem imgB_size (x : UInt8) : (imgB x).size = 0 ∨ (imgB x).size = 256 := by
  unfold imgB
  split
  · exact .inl rfl
  · exact .inr (by show (imgL x).toArray.size = 256; simp [imgL_length])
theorem zero_byte {x : UInt8} (h : ¬ x = 0) : ((x.toNat : Int) == 0) = false ∧ 0 < x.toNat := by
  have : x.toNat ≠ 0 := fun e => h (UInt8.toNat_inj.1 (by rw [e]; rfl))
  exact ⟨by rw [beq_eq_false_iff_ne]; omega, by omega⟩
theorem oneCell_u64s (l : List Nat) : ∀ u ∈ u64s l, u.oneCell' = true := by
  intro u hu
  simp only [u64s, List.mem_map] at hu
  obtain ⟨x, _, rfl⟩ := hu
  rfl
def z6 : List Nat := List.replicate 6 0
theorem z6_length : z6.length = 6 := rfl
end
section
/- A region whose order is drawn, whose operations turn nothing that was there, with one block of its own: 'x, e := f(..)' where x is boxed: an allocation, and a store into it. Each other operation's value is told, or nothing is said of it. -/
open Go.RowKit
set_option maxRecDepth 20000

set_option linter.unusedSimpArgs false
set_option linter.unusedVariables false

/-- A word on a value alone. -/
def saidV (l : List (Option Value)) (j : Nat) (v : Value) : Prop := ∀ u, l[j]? = some (some u) → v = u
section
variable {P : Program} {ops : Array Oper} {Q : Exit → Act → World → Prop}
/-- One operation's duty. -/
def DutyB (P : Program) (ops : Array Oper) (Q : Exit → Act → World → Prop) (l : List (Option Value)) (ia : Nat) (a0 : Act) (W : World) (i : Nat) (o : Oper) : Prop :=
  ∀ (a : Act) (w : World), Below W.heap.size W w → a.tmps.size = a0.tmps.size → (∀ t, oldB ops i t = true → a.tmps.getD t undef = a0.tmps.getD t undef) →
    (∀ j oj d, behind ops i j = true → ops[j]? = some oj → oj.dst = some d → j ≠ ia → saidV l j (a.tmps.getD d undef)) →
    if Region.wanted o (yielded ops a.tmps) = true then o.wp P a w (fun a' w' => ∃ v, a' = a.put o.dst v ∧ saidV l i v ∧ Below w.heap.size w w') Q
    else saidV l i undef
/-- The store's duty. -/
def StoreB (P : Program) (ops : Array Oper) (Q : Exit → Act → World → Prop) (l : List (Option Value)) (ia da : Nat) (t : TypeId) (c0 c1 : Array Value) (a0 : Act) (W : World) (i : Nat) (o : Oper) : Prop :=
  ∀ (a : Act) (w : World) (g : Nat), Below W.heap.size W w → a.tmps.size = a0.tmps.size →
    (∀ j oj d, behind ops i j = true → ops[j]? = some oj → oj.dst = some d → j ≠ ia → saidV l j (a.tmps.getD d undef)) → a.tmps.getD da undef = .pointer (some ⟨g, 0, none⟩) → Blk w g t c0 →
    o.wp P a w (fun a' w' => a' = a.put o.dst undef ∧ Blk w' g t c1 ∧ Turns (· = g) w w') Q
def boxed (ops : Array Oper) (l : List (Option Value)) (ia is : Nat) (t : TypeId) (c0 c1 : Array Value) (W : World) : Phases := fun L f w => Below W.heap.size W w ∧
  (∀ j, j < ops.size → L j = true → (∃ o d, ops[j]? = some o ∧ o.dst = some d) → j ≠ ia → saidV l j (f j)) ∧
  (L ia = true → ∃ g, f ia = .pointer (some ⟨g, 0, none⟩) ∧ W.heap.size ≤ g ∧ Blk w g t (if L is = true then c1 else c0))
theorem boxed_step {l : List (Option Value)} {ia is : Nat} {t : TypeId} {c0 c1 : Array Value} {W w w' : World} {L : Nat → Bool} {f : Nat → Value} {i : Nat} {v : Value} (h : boxed ops l ia is t c0 c1 W L f w) (hi : i ≠ ia) (hi2 : i ≠ is) (hs : saidV l i v) (hb : Below w.heap.size w w') :
    boxed ops l ia is t c0 c1 W (also L i) (yielding f i v) w' := by
  obtain ⟨h1, h2, h3⟩ := h
  refine ⟨h1.trans (hb.mono h1.size), fun j hj hl hex hja => ?_, fun hl => ?_⟩
  · by_cases e : j = i
    · subst e; simpa [yielding] using hs
    · have := h2 j hj (by simpa [also, e] using hl) hex hja
      simpa [yielding, e] using this
  · have e1 : ¬ ia = i := fun e => hi e.symm
    have e2 : ¬ is = i := fun e => hi2 e.symm
    obtain ⟨g, hg, hgl, hbk⟩ := h3 (by simpa [also, e1] using hl)
    refine ⟨g, by simpa [yielding, e1] using hg, hgl, ?_⟩
    have : also L i is = L is := by simp [also, e2]
    rw [this]
    exact hbk.below hb
theorem region_boxes {id : Nat} {a0 : Act} {W : World} (l : List (Option Value)) (ia is da : Nat) (t : TypeId) (c0 c1 : Array Value) (oa os : Oper) (ha : ops[ia]? = some oa) (hs : ops[is]? = some os) (hda : oa.dst = some da) (hds : os.dst = none) (hga : oa.guard = none) (hgs : os.guard = none)
    (hbs : behind ops is ia = true) (has : ahead ops is ia = true) (hne : ia ≠ is)
    (hm : P.follows .mixedOrders = true) (hB : onceB ops = true) (hR : roomB ops a0.tmps.size = true) (hlow : lowB ops = true)
    (alloc : ∀ (a : Act) (w : World), (execOp a.eval oa).run P w = .ok (.value (.pointer (some ⟨w.heap.size, 0, none⟩))) (w.alloc (.cells c0 t)))
    (store : StoreB P ops Q l ia da t c0 c1 a0 W is os)
    (duty : ∀ i o, ops[i]? = some o → i ≠ ia → i ≠ is → DutyB P ops Q l ia a0 W i o)
    (fin : ∀ a w g, Below W.heap.size W w → W.heap.size ≤ g → Blk w g t c1 → a.tmps.getD da undef = .pointer (some ⟨g, 0, none⟩) → a.tmps.size = a0.tmps.size → a.defers = a0.defers →
      (∀ (j : Nat) (o : Oper) (d : Tmp), ops[j]? = some o → o.dst = some d → j ≠ ia → saidV l j (a.tmps.getD d undef)) →
      (∀ t : Tmp, neverB ops t = true → a.tmps.getD t undef = a0.tmps.getD t undef) → Q .normal a w) :
    (Code.region id ops true).wp P Q a0 W := by
  have hia := (Array.getElem?_eq_some_iff.1 ha).1
  have his := (Array.getElem?_eq_some_iff.1 hs).1
  refine region_phases (fun _ _ => True) (boxed ops l ia is t c0 c1 W) hm hB hR hlow ?_ ?_ ?_ ?_
  · intro L L' f f' w hL hf h
    obtain ⟨h1, h2, h3⟩ := h
    refine ⟨h1, fun j hj hl hex hja => ?_, fun hl => ?_⟩
    · rw [← hf j hj (by rw [hL j hj]; exact hl) hex]
      exact h2 j hj (by rw [hL j hj]; exact hl) hex hja
    · rw [← hL ia hia] at hl
      obtain ⟨g, hg, hgl, hbk⟩ := h3 hl
      refine ⟨g, by rw [← hf ia hia hl ⟨oa, da, ha, hda⟩]; exact hg, hgl, ?_⟩
      rw [← hL is his]
      exact hbk
  · exact ⟨(Below.refl _ _).drew, fun _ _ h => absurd h (by simp), fun h => absurd h (by simp)⟩
  · intro i o ho L a w hph hsz hLi hnot hyes old dep
    have hdep : ∀ j oj d, behind ops i j = true → ops[j]? = some oj → oj.dst = some d → j ≠ ia → saidV l j (a.tmps.getD d undef) := fun j oj d hbd hoj hd hja => by
      have := hph.2.1 j (Array.getElem?_eq_some_iff.1 hoj).1 (hyes j hbd) ⟨oj, d, hoj, hd⟩ hja
      rwa [got_dst hoj hd] at this
    by_cases e1 : i = ia
    · subst e1
      obtain rfl : oa = o := by rw [ha] at ho; exact Option.some.inj ho
      rw [if_pos (wanted_none hga)]
      unfold Oper.wp
      rw [alloc]
      refine ⟨_, rfl, trivial, hph.1.alloc hph.1.size _, fun j hj hl hex hja => ?_, fun _ => ⟨w.heap.size, by simp [yielding], hph.1.size, ?_⟩⟩
      · have := hph.2.1 j hj (by simpa [also, hja] using hl) hex hja
        simpa [yielding, hja] using this
      · have e2 : also L i is = false := by
          have : ¬ is = i := fun e => hne e.symm
          simp [also, this, hnot is has]
        rw [e2, if_neg (by simp)]
        exact heap_new w _
    · by_cases e2 : i = is
      · subst e2
        obtain rfl : os = o := by rw [hs] at ho; exact Option.some.inj ho
        rw [if_pos (wanted_none hgs)]
        obtain ⟨g, hg, hgl, hbk⟩ := hph.2.2 (hyes ia hbs)
        rw [hLi, if_neg (by simp)] at hbk
        rw [got_dst ha hda] at hg
        refine Oper.wp_mono ?_ (store a w g hph.1 hsz hdep hg hbk)
        rintro a' w' ⟨e, hb1, ht⟩
        have hsz' := hbk.lt
        refine ⟨undef, e, trivial, hph.1.trans (ht.below hph.1.size (by rintro k rfl; exact hgl)), fun j hj hl hex hja => ?_, fun _ => ⟨g, ?_, hgl, ?_⟩⟩
        · by_cases e : j = i
          · subst e
            obtain ⟨o', d', ho', hd'⟩ := hex
            rw [hs] at ho'
            obtain rfl := Option.some.inj ho'
            rw [hds] at hd'
            cases hd'
          · have := hph.2.1 j hj (by simpa [also, e] using hl) hex hja
            simpa [yielding, e] using this
        · have e3 : ¬ ia = i := fun e => e1 e.symm
          simp only [yielding, e3, if_false]
          rw [got_dst ha hda]; exact hg
        · have : also L i i = true := by simp [also]
          rw [this, if_pos rfl]
          exact hb1
      · have h1 := duty i o ho e1 e2 a w hph.1 hsz old hdep
        split at h1
        · rename_i hw
          rw [if_pos hw]
          refine Oper.wp_mono ?_ h1
          rintro a' w' ⟨v, e, hv, hb⟩
          exact ⟨v, e, trivial, boxed_step hph e1 e2 hv hb⟩
        · rename_i hw
          rw [if_neg hw]
          exact ⟨trivial, boxed_step hph e1 e2 h1 (Below.refl _ _)⟩
  · intro a w hph hsz hdf _ keep
    obtain ⟨g, hg, hgl, hbk⟩ := hph.2.2 rfl
    rw [if_pos rfl] at hbk
    rw [got_dst ha hda] at hg
    refine fin a w g hph.1 hgl hbk hg hsz hdf (fun j o d ho hd hja => ?_) keep
    have := hph.2.1 j (Array.getElem?_eq_some_iff.1 ho).1 rfl ⟨o, d, ho, hd⟩ hja
    rwa [got_dst ho hd] at this
/-- An operation that yields what was told. -/
theorem box_same {o : Oper} {a : Act} {w : World} {l : List (Option Value)} {i : Nat} (v : Value) (hl : l[i]? = some (some v)) (hrun : (execOp a.eval o).run P w = .ok (.value v) w) :
    o.wp P a w (fun a' w' => ∃ v, a' = a.put o.dst v ∧ saidV l i v ∧ Below w.heap.size w w') Q := by
  unfold Oper.wp
  rw [hrun]
  exact ⟨v, rfl, fun u hu => by rw [hl] at hu; injection hu with hu; injection hu, Below.refl _ _⟩
theorem box_any {o : Oper} {a : Act} {w : World} {l : List (Option Value)} {i : Nat} (v : Value) (hl : l[i]? = some none) (hrun : (execOp a.eval o).run P w = .ok (.value v) w) :
    o.wp P a w (fun a' w' => ∃ v, a' = a.put o.dst v ∧ saidV l i v ∧ Below w.heap.size w w') Q := by
  unfold Oper.wp
  rw [hrun]
  refine ⟨v, rfl, fun u hu => ?_, Below.refl _ _⟩
  rw [hl] at hu
  cases hu
/-- A call. -/
theorem box_enters {o : Oper} {a : Act} {w : World} {f : FuncId} {args : Array Value} {l : List (Option Value)} {i : Nat} (v : Value) (hl : l[i]? = some (some v)) (hrun : (execOp a.eval o).run P w = .ok (.enter f args) w)
    (hc : Calls P f args w fun e w' => e = .returned v ∧ Below w.heap.size w w') :
    o.wp P a w (fun a' w' => ∃ v, a' = a.put o.dst v ∧ saidV l i v ∧ Below w.heap.size w w') Q := by
  unfold Oper.wp
  rw [hrun, Oper.upon_enter]
  refine hc.mono ?_
  rintro e w' ⟨rfl, hb⟩
  exact ⟨v, rfl, fun u hu => by rw [hl] at hu; injection hu with hu; injection hu, hb⟩
end
end
section
/- Contracts: HasPrefix of package bytes; Decode of package record. -/
open Go.RowKit
set_option maxRecDepth 20000

set_option linter.unusedSimpArgs false
set_option linter.unusedVariables false

theorem St.byte_take (b : UInt8) (r : List UInt8) : (⟨b :: r, false⟩ : St).take 1 = ⟨r, false⟩ := by
  have hc : (⟨b :: r, false⟩ : St).can 1 = true := by simp [St.can]; omega
  unfold St.take; rw [if_pos hc]; rfl
theorem St.byte_num (b : UInt8) (r : List UInt8) : (⟨b :: r, false⟩ : St).num 1 = b.toNat ∧ (⟨b :: r, false⟩ : St).numSt 1 = ⟨r, false⟩ := by
  have hc : (⟨b :: r, false⟩ : St).can 1 = true := by simp [St.can]; omega
  refine ⟨?_, ?_⟩
  · unfold St.num St.got; rw [if_pos (by omega), if_pos hc]; simp [val]
  · unfold St.numSt; rw [if_pos (by omega)]; exact St.byte_take b r
theorem St.some_take (a r : List UInt8) (n : Int) (h : (a.length : Int) = n) : (⟨a ++ r, false⟩ : St).take n = ⟨r, false⟩ ∧ (⟨a ++ r, false⟩ : St).got n = a := by
  subst h
  have hc : (⟨a ++ r, false⟩ : St).can (a.length : Int) = true := by simp [St.can]; omega
  exact ⟨by unfold St.take; rw [if_pos hc]; simp, by unfold St.got; rw [if_pos hc]; simp⟩
theorem St.text_of (t r : List UInt8) (h : t.length ≤ 255) : (⟨UInt8.ofNat t.length :: (t ++ r), false⟩ : St).text = t ∧ (⟨UInt8.ofNat t.length :: (t ++ r), false⟩ : St).textSt = ⟨r, false⟩ := by
  have hb : (UInt8.ofNat t.length).toNat = t.length := by rw [UInt8.toNat_ofNat']; omega
  obtain ⟨h1, h2⟩ := St.byte_num (UInt8.ofNat t.length) (t ++ r)
  unfold St.text St.textSt
  rw [h1, h2, hb]
  exact ⟨(St.some_take t r _ rfl).2, (St.some_take t r _ rfl).1⟩
theorem St.be_num (n x : Nat) (r : List UInt8) (h1 : 1 ≤ n) (h8 : n ≤ 8) (hx : x < 256 ^ n) : (⟨be n x ++ r, false⟩ : St).num n = x ∧ (⟨be n x ++ r, false⟩ : St).numSt n = ⟨r, false⟩ := by
  obtain ⟨h2, h3⟩ := St.some_take (be n x) r n (by rw [be_length])
  unfold St.num St.numSt
  rw [if_pos ⟨by omega, by omega⟩, if_pos ⟨by omega, by omega⟩, h3, h2, val_be, Nat.mod_eq_of_lt hx]
  exact ⟨rfl, rfl⟩
theorem St.nums_of (ds : List Nat) (r : List UInt8) (hu : ∀ x ∈ ds, x < 18446744073709551616) : ∀ j, j ≤ ds.length → St.numsSt j ⟨eights ds ++ r, false⟩ = ⟨eights (ds.drop j) ++ r, false⟩ ∧ St.nums j ⟨eights ds ++ r, false⟩ = ds.take j
  | 0, _ => ⟨by simp [St.numsSt], by simp [St.nums]⟩
  | j + 1, hj => by
    obtain ⟨h1, h2⟩ := St.nums_of ds r hu j (by omega)
    have hlt : j < ds.length := by omega
    have hd : ds.drop j = ds[j] :: ds.drop (j + 1) := List.drop_eq_getElem_cons hlt
    have he : eights (ds.drop j) ++ r = be 8 ds[j] ++ (eights (ds.drop (j + 1)) ++ r) := by
      rw [hd]
      show (be 8 ds[j] ++ eights (ds.drop (j + 1))) ++ r = _
      rw [List.append_assoc]
    have hb := St.be_num 8 ds[j] (eights (ds.drop (j + 1)) ++ r) (by omega) (by omega) (hu _ (List.getElem_mem hlt))
    rw [← he] at hb
    constructor
    · rw [St.numsSt, h1]
      exact hb.2
    · rw [St.nums, h1, h2, show (⟨eights (ds.drop j) ++ r, false⟩ : St).num 8 = ds[j] from hb.1]
      exact (List.take_succ_eq_append_getElem hlt).symm
/-- What is read where a frame begins. -/
theorem readR_frame {r : Rc} (h : r.Ok) (more : List UInt8) : readR (r.frame ++ more) = r := by
  obtain ⟨k, t, p, s, b, a, i, ds⟩ := r
  obtain ⟨hk, ht, hp, hs, hb, ha, hi, hd, hu⟩ := h
  dsimp only at hk ht hp hs hb ha hi hd hu
  generalize hn : (⟨k, t, p, s, b, a, i, ds⟩ : Rc).said.length = n
  have e0 : (⟨k, t, p, s, b, a, i, ds⟩ : Rc).frame ++ more = be 2 n ++ (UInt8.ofNat k :: (UInt8.ofNat t :: (UInt8.ofNat p :: (UInt8.ofNat s :: (UInt8.ofNat b.data.toList.length :: (b.data.toList ++ (UInt8.ofNat a.data.toList.length :: (a.data.toList ++ (be 2 i.size ++ (i.data.toList ++ (UInt8.ofNat ds.length :: (eights ds ++ more)))))))))))) := by
    rw [Rc.frame, hn, Rc.said, size_data, size_data]
    simp [txt]
  generalize (⟨k, t, p, s, b, a, i, ds⟩ : Rc).frame ++ more = X at *
  have lb : b.data.toList.length ≤ 255 := by rw [size_data]; omega
  have la : a.data.toList.length ≤ 255 := by rw [size_data]; omega
  have li : i.size < 256 ^ 2 := by show _ < 65536; omega
  have e1 := (congrArg rd1 e0).trans (St.some_take (be 2 n) _ 2 (by rw [be_length]; rfl)).1
  have e2 := (show rd2 X = (rd1 X).numSt 1 from rfl).trans ((congrArg (fun s => St.numSt s 1) e1).trans (St.byte_num _ _).2)
  have e3 := (show rd3 X = (rd2 X).numSt 1 from rfl).trans ((congrArg (fun s => St.numSt s 1) e2).trans (St.byte_num _ _).2)
  have e4 := (show rd4 X = (rd3 X).numSt 1 from rfl).trans ((congrArg (fun s => St.numSt s 1) e3).trans (St.byte_num _ _).2)
  have e5 := (show rd5 X = (rd4 X).numSt 1 from rfl).trans ((congrArg (fun s => St.numSt s 1) e4).trans (St.byte_num _ _).2)
  have e6 := (show rd6 X = (rd5 X).textSt from rfl).trans ((congrArg St.textSt e5).trans (St.text_of _ _ lb).2)
  have e7 := (show rd7 X = (rd6 X).textSt from rfl).trans ((congrArg St.textSt e6).trans (St.text_of _ _ la).2)
  have n7 : (rd7 X).num 2 = i.size := by rw [e7]; exact (St.be_num 2 _ _ (by omega) (by omega) li).1
  have e8 := (show rd8 X = (rd7 X).numSt 2 from rfl).trans ((congrArg (fun s => St.numSt s 2) e7).trans (St.be_num 2 _ _ (by omega) (by omega) li).2)
  have e9 := (show rd9 X = (rd8 X).take ((rd7 X).num 2 : Int) from rfl).trans ((congrArg (fun s => St.take s ((rd7 X).num 2 : Int)) e8).trans (St.some_take _ _ _ (by rw [size_data, n7])).1)
  have eI := (show rcI X = (rd8 X).got ((rd7 X).num 2 : Int) from rfl).trans ((congrArg (fun s => St.got s ((rd7 X).num 2 : Int)) e8).trans (St.some_take _ _ _ (by rw [size_data, n7])).2)
  have n9 : (rd9 X).num 1 = ds.length := by rw [e9, (St.byte_num _ _).1, UInt8.toNat_ofNat']; omega
  have eA := (show rdA X = (rd9 X).numSt 1 from rfl).trans ((congrArg (fun s => St.numSt s 1) e9).trans (St.byte_num _ _).2)
  have nk : (rd1 X).num 1 = k := by rw [e1, (St.byte_num _ _).1, UInt8.toNat_ofNat']; omega
  have nt : (rd2 X).num 1 = t := by rw [e2, (St.byte_num _ _).1, UInt8.toNat_ofNat']; omega
  have np : (rd3 X).num 1 = p := by rw [e3, (St.byte_num _ _).1, UInt8.toNat_ofNat']; omega
  have ns : (rd4 X).num 1 = s := by rw [e4, (St.byte_num _ _).1, UInt8.toNat_ofNat']; omega
  have nb : (rd5 X).text = b.data.toList := by rw [e5]; exact (St.text_of _ _ lb).1
  have na : (rd6 X).text = a.data.toList := by rw [e6]; exact (St.text_of _ _ la).1
  unfold readR
  rw [nk, nt, np, ns, nb, na, eI, n9, eA, (St.nums_of ds more hu ds.length (Nat.le_refl _)).2, List.take_length]
/-- The record whose frame bytes begin with, if there is one. -/
def decB (l : List UInt8) : Bool := (readR (l.take 395)).right && decide ((readR (l.take 395)).frame <+: l)
theorem readR_of {r : Rc} (h : r.Ok) {l : List UInt8} (hp : r.frame <+: l) : readR (l.take 395) = r := by
  have hm := h.most
  obtain ⟨m, rfl⟩ := hp
  have e : (r.frame ++ m).take 395 = r.frame ++ m.take (395 - r.frame.length) := by
    rw [List.take_append, List.take_of_length_le hm]
  rw [e]
  exact readR_frame h _
theorem decB_no {l : List UInt8} (h : decB l = false) : ∀ r : Rc, r.Ok → ¬ r.frame <+: l := by
  intro r hr hp
  have e := readR_of hr hp
  unfold decB at h
  rw [e, (Rc.right_iff r).2 hr, decide_eq_true hp] at h
  cases h
theorem frame_inj {r q : Rc} (hr : r.Ok) (hq : q.Ok) {l m : List UInt8} (h : r.frame ++ l = q.frame ++ m) : r = q := by
  rw [← readR_frame hr l, h, readR_frame hq m]

theorem conv_rdn {w : World} {A : Option Addr} {n c : Nat} {l : List UInt8} (hn : l.length = n) (h : Rd w (.slice A n c) (u8s l)) : (convert 31 9 (.slice A n c)).run Try.prog w = .ok (.string ⟨l.toArray⟩) w := by
  subst hn
  exact conv_rd h
end
section
/- The contract of Decode of package record. -/
open Go.RowKit
set_option maxRecDepth 20000

set_option linter.unusedSimpArgs false
set_option linter.unusedVariables false

section
variable {w w' : World} {g : Nat} {t : TypeId} {x0 x1 x2 x3 x4 x5 x6 x7 y0 y1 y2 y3 y4 y5 y6 y7 : Value}
theorem set8_below {B : Nat} (h : Below B w' w) (hg : B ≤ g) : Below B w' ((((((((w.setCell ⟨g, 0, none⟩ x0).setCell ⟨g, 1, none⟩ x1).setCell ⟨g, 2, none⟩ x2).setCell ⟨g, 3, none⟩ x3).setCell ⟨g, 4, none⟩ x4).setCell ⟨g, 5, none⟩ x5).setCell ⟨g, 6, none⟩ x6).setCell ⟨g, 7, none⟩ x7) :=
  (((((((h.setCell hg x0).setCell hg x1).setCell hg x2).setCell hg x3).setCell hg x4).setCell hg x5).setCell hg x6).setCell hg x7
theorem set8_btw {lo hi : Nat} {v : Value} {xs : List Value} (h : Btw w lo hi v xs) (hk : g < lo ∨ hi ≤ g) : Btw ((((((((w.setCell ⟨g, 0, none⟩ x0).setCell ⟨g, 1, none⟩ x1).setCell ⟨g, 2, none⟩ x2).setCell ⟨g, 3, none⟩ x3).setCell ⟨g, 4, none⟩ x4).setCell ⟨g, 5, none⟩ x5).setCell ⟨g, 6, none⟩ x6).setCell ⟨g, 7, none⟩ x7) lo hi v xs :=
  (((((((h.set (p := ⟨g, 0, none⟩) hk x0).set (p := ⟨g, 1, none⟩) hk x1).set (p := ⟨g, 2, none⟩) hk x2).set (p := ⟨g, 3, none⟩) hk x3).set (p := ⟨g, 4, none⟩) hk x4).set (p := ⟨g, 5, none⟩) hk x5).set (p := ⟨g, 6, none⟩) hk x6).set (p := ⟨g, 7, none⟩) hk x7
theorem set8_size : ((((((((w.setCell ⟨g, 0, none⟩ x0).setCell ⟨g, 1, none⟩ x1).setCell ⟨g, 2, none⟩ x2).setCell ⟨g, 3, none⟩ x3).setCell ⟨g, 4, none⟩ x4).setCell ⟨g, 5, none⟩ x5).setCell ⟨g, 6, none⟩ x6).setCell ⟨g, 7, none⟩ x7).heap.size = w.heap.size := by simp [World.setCell]
end
section
variable {w0 w w' : World} {gr : Nat} {r : Rc} {A : Option Addr} {c : Nat}
end
theorem take_min (l : List UInt8) (k : Nat) (hk : k = min l.length 395) : l.take 395 = l.take k := by
  subst hk
  rcases Nat.le_total l.length 395 with h | h
  · rw [Nat.min_eq_left h, List.take_of_length_le h, List.take_length]
  · rw [Nat.min_eq_right h]
theorem readR_u (l : List UInt8) : ∀ x ∈ (readR l).ds, x < 18446744073709551616 := by
  have : ∀ n (s : St), ∀ x ∈ St.nums n s, x < 18446744073709551616 := by
    intro n
    induction n with
    | zero => intro s x hx; cases hx
    | succ n ih =>
      intro s x hx
      rw [St.nums, List.mem_append] at hx
      rcases hx with hx | hx
      · exact ih s x hx
      · rw [List.mem_singleton] at hx
        rw [hx]
        exact St.num_lt _ _
  exact this _ _
end
section
/- Contract of what the statements of stage 6 make of a seed: Record. -/
open Go.RowKit
set_option maxRecDepth 20000

set_option linter.unusedSimpArgs false
set_option linter.unusedVariables false

/-- What a seed's numbers become. -/
def sK (z : Int) : Nat := (Int.tmod (Int.tmod z 7 + 7) 7 + 1).toNat
def sT (z : Int) : Nat := (BitVec.ofInt 64 z &&& BitVec.ofInt 64 255).toNat
def sP (z : Int) : Nat := (Int.tmod (Int.tmod z 6 + 6) 6).toNat
def sS (z : Int) : Nat := (Int.tmod (Int.tmod z 5 + 5) 5).toNat
theorem mod_ok (z m : Int) (h : 0 < m) (h1 : m ≤ 7) : -m < Int.tmod z m ∧ Int.tmod z m < m ∧ 0 ≤ Int.tmod (Int.tmod z m + m) m ∧ Int.tmod (Int.tmod z m + m) m < m := by
  have a1 : Int.tmod z m < m := Int.tmod_lt_of_pos z h
  have a2 : -m < Int.tmod z m := by
    rw [tmod_eq_if]
    have b1 := Int.emod_nonneg z (show m ≠ 0 by omega)
    have b2 := Int.emod_lt_of_pos (-z) h
    split <;> omega
  have a3 : 0 ≤ Int.tmod z m + m := by omega
  exact ⟨a2, a1, Int.tmod_nonneg _ a3, Int.tmod_lt_of_pos _ h⟩
theorem sK_ok (z : Int) : 1 ≤ sK z ∧ sK z ≤ 7 ∧ Int.tmod (Int.tmod z 7 + 7) 7 + 1 = (sK z : Int) ∧ -7 < Int.tmod z 7 ∧ Int.tmod z 7 < 7 := by
  obtain ⟨h1, h2, h3, h4⟩ := mod_ok z 7 (by omega) (by omega)
  unfold sK
  omega
theorem sP_ok (z : Int) : sP z ≤ 5 ∧ Int.tmod (Int.tmod z 6 + 6) 6 = (sP z : Int) ∧ -6 < Int.tmod z 6 ∧ Int.tmod z 6 < 6 := by
  obtain ⟨h1, h2, h3, h4⟩ := mod_ok z 6 (by omega) (by omega)
  unfold sP
  omega
theorem sS_ok (z : Int) : sS z ≤ 4 ∧ Int.tmod (Int.tmod z 5 + 5) 5 = (sS z : Int) ∧ -5 < Int.tmod z 5 ∧ Int.tmod z 5 < 5 := by
  obtain ⟨h1, h2, h3, h4⟩ := mod_ok z 5 (by omega) (by omega)
  unfold sS
  omega
theorem sT_ok (z : Int) : sT z ≤ 255 ∧ bits .and .i64 z 255 = (sT z : Int) := by
  have h1 : bits .and .i64 z 255 = IntKind.i64.wrap (((BitVec.ofInt 64 z &&& BitVec.ofInt 64 255).toNat : Int)) := rfl
  have h2 : (BitVec.ofInt 64 z &&& BitVec.ofInt 64 255).toNat < 256 := by
    rw [BitVec.toNat_and]
    have : (BitVec.ofInt 64 255).toNat = 255 := by decide
    rw [this]
    exact Nat.lt_of_le_of_lt Nat.and_le_right (by omega)
  unfold sT
  refine ⟨by omega, ?_⟩
  rw [h1, IntKind.wrap_i64]
  omega
/-- The record of a seed. -/
def seedR (x : SeedD) : Rc := ⟨sK x.k, sT x.t, sP x.p, sS x.s, cellB x.b, cellB x.a, imgB x.i, if sK x.k = 7 ∧ 0 < x.ds.length then (x.ds ++ List.replicate 6 0).take 6 else []⟩
section
variable {w0 w w' : World} {cs rc : Array Value} {g : Nat}
end
theorem seed8_far {w : World} {g k : Nat} {t : TypeId} {cs : Array Value} {x0 x1 x2 x3 x4 x5 x6 x7 : Value} (h : Blk w k t cs) (hk : k ≠ g) : Blk ((((((((w.setCell ⟨g, 0, none⟩ x0).setCell ⟨g, 1, none⟩ x1).setCell ⟨g, 2, none⟩ x2).setCell ⟨g, 3, none⟩ x3).setCell ⟨g, 4, none⟩ x4).setCell ⟨g, 5, none⟩ x5).setCell ⟨g, 6, none⟩ x6).setCell ⟨g, 7, none⟩ x7) k t cs :=
  (((((((h.far (p := ⟨g, 0, none⟩) hk x0).far (p := ⟨g, 1, none⟩) hk x1).far (p := ⟨g, 2, none⟩) hk x2).far (p := ⟨g, 3, none⟩) hk x3).far (p := ⟨g, 4, none⟩) hk x4).far (p := ⟨g, 5, none⟩) hk x5).far (p := ⟨g, 6, none⟩) hk x6).far (p := ⟨g, 7, none⟩) hk x7
theorem blk_btw {w : World} {k lo : Nat} {t : TypeId} {xs : List Value} (h : Blk w k t xs.toArray) (hl : lo ≤ k) : Btw w lo w.heap.size (.slice (some ⟨k, 0, none⟩) xs.length xs.length) xs :=
  ⟨_, xs.length, rfl, Nat.le_refl _, fun _ => ⟨k, 0, rfl, hl, h.lt, fun j u hu => by rw [Nat.zero_add]; exact h.cell j u (by simpa using hu)⟩⟩
theorem seed8_btw {w : World} {g k lo : Nat} {l : List Nat} {x0 x1 x2 x3 x4 x5 x6 x7 : Value} (h : Blk w k 26 (u64s l).toArray) (hk : k ≠ g) (hl : l.length = 6) (hlo : lo ≤ k) : Btw ((((((((w.setCell ⟨g, 0, none⟩ x0).setCell ⟨g, 1, none⟩ x1).setCell ⟨g, 2, none⟩ x2).setCell ⟨g, 3, none⟩ x3).setCell ⟨g, 4, none⟩ x4).setCell ⟨g, 5, none⟩ x5).setCell ⟨g, 6, none⟩ x6).setCell ⟨g, 7, none⟩ x7) lo ((((((((w.setCell ⟨g, 0, none⟩ x0).setCell ⟨g, 1, none⟩ x1).setCell ⟨g, 2, none⟩ x2).setCell ⟨g, 3, none⟩ x3).setCell ⟨g, 4, none⟩ x4).setCell ⟨g, 5, none⟩ x5).setCell ⟨g, 6, none⟩ x6).setCell ⟨g, 7, none⟩ x7).heap.size (.slice (some ⟨k, 0, none⟩) 6 6) (u64s l) := by
  have h8 := blk_btw (seed8_far (x0 := x0) (x1 := x1) (x2 := x2) (x3 := x3) (x4 := x4) (x5 := x5) (x6 := x6) (x7 := x7) h hk) hlo
  rw [u64s_length, hl] at h8
  exact h8
theorem lt_of2 {a g : Nat} (h : a + 1 + 1 ≤ g) : a + 1 < g := h
theorem filled_img (x : UInt8) : filled [(7, 3, .int .u8 (x.toNat : Int)), (9, 200, .int .u8 (x.toNat : Int))] (fun _ => true) (blk8 z256) = blk8 (imgL x) := by
  unfold filled imgL
  generalize z256 = z
  rw [← blk8_set, ← blk8_set]
  rfl
end
section
/- Contracts: Equal of package slices, on numbers; Same of package record. -/
open Go.RowKit
set_option maxRecDepth 20000

set_option linter.unusedSimpArgs false
set_option linter.unusedVariables false

theorem rd_num {w : World} {A : Option Addr} {n c : Nat} {l : List Nat} (hv : Rd w (.slice A n c) (u64s l)) (j : Nat) (hj : j < l.length) : ∃ b o, A = some ⟨b, o, none⟩ ∧ w.cell? ⟨b, o + j, none⟩ = some (.int .u64 (l[j] : Int)) := by
  obtain ⟨A', c', e, hc, hr⟩ := hv
  injection e with e1 e2 e3
  subst e1
  obtain ⟨b, o, e, hb, hcell⟩ := hr (by rw [u64s_length]; omega)
  exact ⟨b, o, e, hcell j _ (u64s_get _ j hj)⟩
/-- Are they the same? -/
def sameB (r q : Rc) : Bool := ((r.k : Int) == (q.k : Int)) && ((r.t : Int) == (q.t : Int)) && ((r.p : Int) == (q.p : Int)) && ((r.s : Int) == (q.s : Int)) && (r.b.toList == q.b.toList) && (r.a.toList == q.a.toList) && (r.i.toList == q.i.toList) && decide (r.ds = q.ds)
theorem same_ways (r q : Rc) : (((r.k : Int) == (q.k : Int)) = false ∧ sameB r q = false) ∨
    (((r.k : Int) == (q.k : Int)) = true ∧ ((r.t : Int) == (q.t : Int)) = false ∧ sameB r q = false) ∨
    (((r.k : Int) == (q.k : Int)) = true ∧ ((r.t : Int) == (q.t : Int)) = true ∧ ((r.p : Int) == (q.p : Int)) = false ∧ sameB r q = false) ∨
    (((r.k : Int) == (q.k : Int)) = true ∧ ((r.t : Int) == (q.t : Int)) = true ∧ ((r.p : Int) == (q.p : Int)) = true ∧ ((r.s : Int) == (q.s : Int)) = false ∧ sameB r q = false) ∨
    (((r.k : Int) == (q.k : Int)) = true ∧ ((r.t : Int) == (q.t : Int)) = true ∧ ((r.p : Int) == (q.p : Int)) = true ∧ ((r.s : Int) == (q.s : Int)) = true ∧ (r.b.toList == q.b.toList) = false ∧ sameB r q = false) ∨
    (((r.k : Int) == (q.k : Int)) = true ∧ ((r.t : Int) == (q.t : Int)) = true ∧ ((r.p : Int) == (q.p : Int)) = true ∧ ((r.s : Int) == (q.s : Int)) = true ∧ (r.b.toList == q.b.toList) = true ∧ (r.a.toList == q.a.toList) = false ∧ sameB r q = false) ∨
    (((r.k : Int) == (q.k : Int)) = true ∧ ((r.t : Int) == (q.t : Int)) = true ∧ ((r.p : Int) == (q.p : Int)) = true ∧ ((r.s : Int) == (q.s : Int)) = true ∧ (r.b.toList == q.b.toList) = true ∧ (r.a.toList == q.a.toList) = true ∧ (r.i.toList == q.i.toList) = false ∧ sameB r q = false) ∨
    (((r.k : Int) == (q.k : Int)) = true ∧ ((r.t : Int) == (q.t : Int)) = true ∧ ((r.p : Int) == (q.p : Int)) = true ∧ ((r.s : Int) == (q.s : Int)) = true ∧ (r.b.toList == q.b.toList) = true ∧ (r.a.toList == q.a.toList) = true ∧ (r.i.toList == q.i.toList) = true ∧ decide (r.ds = q.ds) = sameB r q) := by
  unfold sameB
  cases ((r.k : Int) == (q.k : Int)) <;> simp only [Bool.true_and, Bool.false_and, Bool.and_true, Bool.and_false, true_and, false_and, or_false, false_or, true_or, or_true, reduceCtorEq, and_self, and_false, false_and]
  cases ((r.t : Int) == (q.t : Int)) <;> simp only [Bool.true_and, Bool.false_and, Bool.and_true, Bool.and_false, true_and, false_and, or_false, false_or, true_or, or_true, reduceCtorEq, and_self, and_false, false_and]
  cases ((r.p : Int) == (q.p : Int)) <;> simp only [Bool.true_and, Bool.false_and, Bool.and_true, Bool.and_false, true_and, false_and, or_false, false_or, true_or, or_true, reduceCtorEq, and_self, and_false, false_and]
  cases ((r.s : Int) == (q.s : Int)) <;> simp only [Bool.true_and, Bool.false_and, Bool.and_true, Bool.and_false, true_and, false_and, or_false, false_or, true_or, or_true, reduceCtorEq, and_self, and_false, false_and]
  cases (r.b.toList == q.b.toList) <;> simp only [Bool.true_and, Bool.false_and, Bool.and_true, Bool.and_false, true_and, false_and, or_false, false_or, true_or, or_true, reduceCtorEq, and_self, and_false, false_and]
  cases (r.a.toList == q.a.toList) <;> simp only [Bool.true_and, Bool.false_and, Bool.and_true, Bool.and_false, true_and, false_and, or_false, false_or, true_or, or_true, reduceCtorEq, and_self, and_false, false_and]
  cases (r.i.toList == q.i.toList) <;> simp only [Bool.true_and, Bool.false_and, Bool.and_true, Bool.and_false, true_and, false_and, or_false, false_or, true_or, or_true, reduceCtorEq, and_self, and_false, false_and]
theorem toList_inj {x y : ByteArray} (h : x.toList = y.toList) : x = y := by
  rw [ByteArray.toList_eq, ByteArray.toList_eq] at h
  exact ByteArray.ext (Array.toList_inj.1 h)
theorem sameB_iff (r q : Rc) : sameB r q = true ↔ r = q := by
  obtain ⟨k, t, p, s, b, a, i, ds⟩ := r
  obtain ⟨k', t', p', s', b', a', i', ds'⟩ := q
  unfold sameB
  simp only [Bool.and_eq_true, beq_iff_eq, decide_eq_true_eq, Rc.mk.injEq]
  constructor
  · rintro ⟨⟨⟨⟨⟨⟨⟨h1, h2⟩, h3⟩, h4⟩, h5⟩, h6⟩, h7⟩, h8⟩
    exact ⟨by omega, by omega, by omega, by omega, toList_inj h5, toList_inj h6, toList_inj h7, h8⟩
  · rintro ⟨rfl, rfl, rfl, rfl, rfl, rfl, rfl, rfl⟩
    exact ⟨⟨⟨⟨⟨⟨⟨rfl, rfl⟩, rfl⟩, rfl⟩, rfl⟩, rfl⟩, rfl⟩, rfl⟩
end
section
/- What the statements of stage 6 walk over: a seed's record in a block; the contracts on it. -/
open Go.RowKit
set_option maxRecDepth 20000

set_option linter.unusedSimpArgs false
set_option linter.unusedVariables false

theorem seedR_ok (x : SeedD) (hu : ∀ y ∈ x.ds, y < 18446744073709551616) : (seedR x).Ok := by
  have hk := sK_ok x.k
  have ht := sT_ok x.t
  have hp := sP_ok x.p
  have hs := sS_ok x.s
  refine ⟨⟨hk.1, hk.2.1⟩, ht.1, hp.1, hs.1, cellB_size _, cellB_size _, imgB_size _, ?_, ?_⟩
  · unfold seedR
    dsimp only
    split
    · rename_i h
      exact .inr ⟨h.1, by rw [List.length_take, List.length_append, List.length_replicate]; omega⟩
    · exact .inl rfl
  · unfold seedR
    dsimp only
    split
    · intro y hy
      have := List.mem_of_mem_take hy
      rw [List.mem_append] at this
      rcases this with h | h
      · exact hu y h
      · rw [List.mem_replicate] at h
        omega
    · intro y hy; cases hy
section
variable {w0 w w' : World} {g : Nat} {r : Rc} {A : Option Addr} {c : Nat}
end
section
variable {w0 w w' : World} {x : SeedD} {A : Option Addr} {n c : Nat}
end
theorem same_self (r : Rc) : sameB r r = true := (sameB_iff r r).2 rfl
theorem below_nil {w w' : World} {n c : Nat} (h : w.grownBy w' (Value.slice none n c).ownBlock) : Below w.heap.size w w' := (Below.refl _ _).grown h (Nat.le_refl _) (fun k hk => by cases hk)
theorem mine_nil {w' : World} {base : Nat} {v' : Value} {m : List UInt8} (h : w'.ownsRow base 5 1 v' (0 + (u8s m).length) ([] ++ u8s m)) : Mine w' base v' m := by
  unfold Mine
  rw [Nat.zero_add, u8s_length, List.nil_append] at h
  exact h
theorem own_new {v : Value} {n c B : Nat} (h : v.ownBlock = (Value.slice none n c).ownBlock ∨ v.ownBlock = some B) : ∀ k, v.ownBlock = some k → B ≤ k := by
  intro k hk
  rcases h with h | h
  · rw [h] at hk; cases hk
  · rw [h] at hk; injection hk with hk; omega
/-- Where a row of one's own lies. -/
theorem mine_at {w : World} {base n c : Nat} {A : Option Addr} {l : List UInt8} (h : Mine w base (.slice A n c) l) (hn : 0 < n) : ∃ g, A = some ⟨g, 0, none⟩ ∧ base ≤ g ∧ g < w.heap.size ∧ l.length = n ∧ n ≤ c ∧ ∀ j x, l[j]? = some x → w.cell? ⟨g, j, none⟩ = some (.int .u8 (x.toNat : Int)) := by
  rcases id h.2 with ⟨e, _⟩ | ⟨g, cap, cur, e, hbg, hg, hnc, hcm, hcs, htake⟩
  · injection e with e1 e2 e3
    omega
  · injection e with e1 e2 e3
    refine ⟨g, e1, hbg, Blk.lt hg, e2.symm, by omega, fun j x hx => ?_⟩
    have hj := (List.getElem?_eq_some_iff.1 hx).1
    have hu := u8s_get l j hj
    rw [Nat.mul_one] at htake
    rw [← htake, List.getElem?_take, if_pos hj] at hu
    have hx2 := (List.getElem?_eq_some_iff.1 hx).2
    rw [hx2] at hu
    unfold World.cell?
    simp only [hg]
    simpa using hu
theorem frame_head (r : Rc) : r.frame = UInt8.ofNat (r.said.length / 256) :: UInt8.ofNat r.said.length :: r.said := by
  rw [Rc.frame]
  simp [be]
theorem or_bytes (a b : Nat) (hb : b < 256) (ha : a < 256) : bits .or .i64 ((a : Int) * 256) (b : Int) = ((a * 256 + b : Nat) : Int) := by
  have h2 : bits .or .i64 ((a : Int) * 256) (b : Int) = IntKind.i64.wrap (((BitVec.ofInt 64 ((a : Int) * 256) ||| BitVec.ofInt 64 (b : Int)).toNat : Int)) := rfl
  have h3 : (BitVec.ofInt 64 ((a : Int) * 256)).toNat = a * 256 := by rw [BitVec.toNat_ofInt]; omega
  have h4 : (BitVec.ofInt 64 (b : Int)).toNat = b := by rw [BitVec.toNat_ofInt]; omega
  have h5 : a * 256 ||| b = a * 256 + b := by
    have := Nat.shiftLeft_add_eq_or_of_lt (i := 8) (b := b) (by omega) a
    rw [Nat.shiftLeft_eq] at this
    exact this.symm
  rw [h2, BitVec.toNat_or, h3, h4, h5, IntKind.wrap_i64]
  omega
end
section
/- A disk as plain data: sectors, writes that wait, what a crash leaves. (Nothing of the program.) -/
open Go.RowKit
set_option maxRecDepth 20000

/-- A sector's bytes (64 of them). -/
abbrev Sec := List UInt8
def zsec : Sec := List.replicate 64 0
/-- Bytes, then zeros. -/
def pad (l : List UInt8) : Sec := l ++ List.replicate (64 - l.length) 0
theorem pad_length (l : List UInt8) (h : l.length ≤ 64) : (pad l).length = 64 := by simp [pad]; omega
theorem pad_nil : pad [] = zsec := rfl
structure Chg where
  place : Nat
  before : Sec
  after : Sec
/-- What writes make of sectors. -/
def put (l : List Sec) (ws : List (Nat × Sec)) : List Sec := ws.foldl (fun l x => l.set x.1 x.2) l
/-- What is kept of writes, to take them back. -/
def chain : List Sec → List (Nat × Sec) → List Chg
  | _, [] => []
  | l, x :: ws => ⟨x.1, l.getD x.1 zsec, x.2⟩ :: chain (l.set x.1 x.2) ws
/-- All taken back, the last one first. -/
def undo (cs : List Chg) (l : List Sec) : List Sec := cs.foldr (fun c l => l.set c.place c.before) l
/-- Those writes that m keeps. -/
def kept (m : Nat → Bool) (ws : List (Nat × Sec)) : List (Nat × Sec) := (ws.zipIdx.filter fun x => m x.2).map (·.1)

theorem put_nil (l : List Sec) : put l [] = l := rfl
theorem put_cons (l : List Sec) (x : Nat × Sec) (ws : List (Nat × Sec)) : put l (x :: ws) = put (l.set x.1 x.2) ws := rfl
theorem put_append (l : List Sec) (a b : List (Nat × Sec)) : put l (a ++ b) = put (put l a) b := List.foldl_append ..
theorem put_snoc (l : List Sec) (a : List (Nat × Sec)) (x : Nat × Sec) : put l (a ++ [x]) = (put l a).set x.1 x.2 := by rw [put_append]; rfl
theorem put_length (ws : List (Nat × Sec)) : ∀ l : List Sec, (put l ws).length = l.length := by
  induction ws with
  | nil => intro l; rfl
  | cons x ws ih => intro l; rw [put_cons, ih, List.length_set]
theorem put_all {p : Sec → Prop} (ws : List (Nat × Sec)) : ∀ l : List Sec, (∀ s ∈ l, p s) → (∀ x ∈ ws, p x.2) → ∀ s ∈ put l ws, p s := by
  induction ws with
  | nil => intro l h _ s hs; exact h s hs
  | cons x ws ih =>
    intro l h hw
    rw [put_cons]
    refine ih _ (fun s hs => ?_) (fun y hy => hw y (List.mem_cons_of_mem _ hy))
    rcases List.mem_or_eq_of_mem_set hs with h1 | rfl
    · exact h s h1
    · exact hw x (List.mem_cons_self ..)
theorem chain_length (ws : List (Nat × Sec)) : ∀ l : List Sec, (chain l ws).length = ws.length := by
  induction ws with
  | nil => intro l; rfl
  | cons x ws ih => intro l; simp [chain, ih]
theorem chain_snoc (ws : List (Nat × Sec)) (x : Nat × Sec) : ∀ l : List Sec, chain l (ws ++ [x]) = chain l ws ++ [⟨x.1, (put l ws).getD x.1 zsec, x.2⟩] := by
  induction ws with
  | nil => intro l; rfl
  | cons y ws ih => intro l; simp only [List.cons_append, chain, ih, put_cons]
theorem undo_chain (ws : List (Nat × Sec)) : ∀ l : List Sec, (∀ x ∈ ws, x.1 < l.length) → undo (chain l ws) (put l ws) = l := by
  induction ws with
  | nil => intro l _; rfl
  | cons x ws ih =>
    intro l h
    have hx := h x (List.mem_cons_self ..)
    have h1 := ih (l.set x.1 x.2) (fun y hy => by rw [List.length_set]; exact h y (List.mem_cons_of_mem _ hy))
    show (undo (chain (l.set x.1 x.2) ws) (put (l.set x.1 x.2) ws)).set x.1 (l.getD x.1 zsec) = l
    rw [h1, List.set_set, List.getD_eq_getElem?_getD, List.getElem?_eq_getElem hx, Option.getD_some]
    exact List.set_getElem_self hx
theorem undo_length (cs : List Chg) (l : List Sec) : (undo cs l).length = l.length := by
  induction cs with
  | nil => rfl
  | cons c cs ih => show (List.set _ _ _).length = _; rw [List.length_set]; exact ih
theorem undo_drop (cs : List Chg) (l : List Sec) (k : Nat) (h : k < cs.length) : undo (cs.drop k) l = (undo (cs.drop (k + 1)) l).set cs[k].place cs[k].before := by
  rw [List.drop_eq_getElem_cons h]; rfl
theorem chain_get (ws : List (Nat × Sec)) : ∀ (l : List Sec) (k : Nat) (h : k < (chain l ws).length) (h2 : k < ws.length), (chain l ws)[k].place = ws[k].1 ∧ (chain l ws)[k].after = ws[k].2 := by
  induction ws with
  | nil => intro l k h h2; exact absurd h2 (by simp)
  | cons x ws ih =>
    intro l k h h2
    cases k with
    | zero => exact ⟨rfl, rfl⟩
    | succ k =>
      have := ih (l.set x.1 x.2) k (by simpa [chain] using h) (by simpa using h2)
      simpa [chain] using this
theorem chain_before (ws : List (Nat × Sec)) : ∀ (l : List Sec), (∀ s ∈ l, s.length = 64) → (∀ x ∈ ws, x.2.length = 64) → ∀ c ∈ chain l ws, c.before.length = 64 ∧ c.after.length = 64 := by
  induction ws with
  | nil => intro l _ _ c hc; cases hc
  | cons x ws ih =>
    intro l hl hw c hc
    rcases List.mem_cons.1 hc with rfl | hc
    · refine ⟨?_, hw x (List.mem_cons_self ..)⟩
      show (l.getD x.1 zsec).length = 64
      rw [List.getD_eq_getElem?_getD]
      cases h : l[x.1]? with
      | none => rfl
      | some s => exact hl s (List.mem_of_getElem? h)
    · refine ih _ (fun s hs => ?_) (fun y hy => hw y (List.mem_cons_of_mem _ hy)) c hc
      rcases List.mem_or_eq_of_mem_set hs with h1 | rfl
      · exact hl s h1
      · exact hw x (List.mem_cons_self ..)
theorem kept_nil (m : Nat → Bool) : kept m [] = [] := rfl
theorem kept_snoc (m : Nat → Bool) (ws : List (Nat × Sec)) (x : Nat × Sec) : kept m (ws ++ [x]) = kept m ws ++ (if m ws.length then [x] else []) := by
  unfold kept
  rw [List.zipIdx_append]
  simp only [List.filter_append, List.map_append, Nat.zero_add]
  congr 1
  by_cases h : m ws.length <;> simp [h]
theorem kept_mem (m : Nat → Bool) (ws : List (Nat × Sec)) : ∀ x ∈ kept m ws, x ∈ ws := by
  intro x hx
  unfold kept at hx
  obtain ⟨y, hy, rfl⟩ := List.mem_map.1 hx
  exact (List.mem_zipIdx' (List.mem_filter.1 hy).1).2 ▸ List.getElem_mem _

/-- A region: what is sure, the writes that wait, whether it is armed, and how many writes it still takes. -/
structure Rg where
  base : List Sec
  ws : List (Nat × Sec)
  armed : Bool
  left : Nat
def Rg.secs (r : Rg) : List Sec := put r.base r.ws
def Rg.pend (r : Rg) : List Chg := chain r.base r.ws
def Rg.down (r : Rg) : Bool := r.armed && r.left == 0
def Rg.write (r : Rg) (s : Nat) (b : Sec) : Rg := ⟨r.base, r.ws ++ [(s, b)], r.armed, if r.armed then r.left - 1 else r.left⟩
def Rg.barrier (r : Rg) : Rg := ⟨r.secs, [], r.armed, r.left⟩
def Rg.arm (r : Rg) (n : Int) : Rg := ⟨r.base, r.ws, true, n.toNat⟩
def Rg.crash (m : Nat → Bool) (r : Rg) : Rg := ⟨put r.base (kept m r.ws), [], false, 0⟩
structure Rg.Fit (n : Nat) (r : Rg) : Prop where
  size : r.base.length = n
  full : ∀ s ∈ r.base, s.length = 64
  wfull : ∀ x ∈ r.ws, x.1 < n ∧ x.2.length = 64
theorem Rg.Fit.secs_length {n : Nat} {r : Rg} (h : r.Fit n) : r.secs.length = n := (put_length _ _).trans h.size
theorem Rg.Fit.secs_full {n : Nat} {r : Rg} (h : r.Fit n) : ∀ s ∈ r.secs, s.length = 64 := put_all _ _ h.full (fun x hx => (h.wfull x hx).2)
theorem Rg.Fit.write {n : Nat} {r : Rg} (h : r.Fit n) {s : Nat} {b : Sec} (hs : s < n) (hb : b.length = 64) : (r.write s b).Fit n :=
  ⟨h.size, h.full, fun x hx => by
    rcases List.mem_append.1 hx with h1 | h1
    · exact h.wfull x h1
    · obtain rfl := List.mem_singleton.1 h1; exact ⟨hs, hb⟩⟩
theorem Rg.Fit.barrier {n : Nat} {r : Rg} (h : r.Fit n) : r.barrier.Fit n := ⟨h.secs_length, h.secs_full, fun _ hx => by cases hx⟩
theorem Rg.Fit.arm {n : Nat} {r : Rg} (h : r.Fit n) (k : Int) : (r.arm k).Fit n := ⟨h.size, h.full, h.wfull⟩
theorem Rg.Fit.crash {n : Nat} {r : Rg} (h : r.Fit n) (m : Nat → Bool) : (r.crash m).Fit n :=
  ⟨(put_length _ _).trans h.size, put_all _ _ h.full (fun x hx => (h.wfull x (kept_mem m _ x hx)).2), fun _ hx => by cases hx⟩
theorem Rg.secs_write (r : Rg) (s : Nat) (b : Sec) : (r.write s b).secs = r.secs.set s b := put_snoc _ _ _
theorem Rg.pend_write (r : Rg) (s : Nat) (b : Sec) : (r.write s b).pend = r.pend ++ [⟨s, r.secs.getD s zsec, b⟩] := chain_snoc _ _ _

/-- A new region. -/
def Rg.new (n : Nat) : Rg := ⟨List.replicate n zsec, [], false, 0⟩
theorem Rg.new_fit (n : Nat) : (Rg.new n).Fit n := ⟨by simp [Rg.new], fun s hs => by rw [(List.mem_replicate.1 hs).2]; rfl, fun _ hx => by cases hx⟩

/-! ### Sectors one behind the other, as bytes. -/
theorem flat_length (l : List Sec) (h : ∀ s ∈ l, s.length = 64) : l.flatten.length = 64 * l.length := by
  induction l with
  | nil => rfl
  | cons x l ih =>
    rw [List.flatten_cons, List.length_append, ih (fun s hs => h s (List.mem_cons_of_mem _ hs)), h x (List.mem_cons_self ..), List.length_cons]
    omega
theorem flat_get (l : List Sec) (h : ∀ s ∈ l, s.length = 64) : ∀ (s j : Nat) (hs : s < l.length), j < 64 → l.flatten[s * 64 + j]? = l[s][j]? := by
  induction l with
  | nil => intro s j hs; exact absurd hs (by simp)
  | cons x l ih =>
    intro s j hs hj
    have hx := h x (List.mem_cons_self ..)
    rw [List.flatten_cons]
    cases s with
    | zero => rw [Nat.zero_mul, Nat.zero_add, List.getElem?_append_left (by omega)]; rfl
    | succ s =>
      rw [List.getElem?_append_right (by omega), hx, show (s + 1) * 64 + j - 64 = s * 64 + j by omega]
      exact ih (fun s hs => h s (List.mem_cons_of_mem _ hs)) s j (by simpa using hs) hj
theorem flat_set (l : List Sec) (h : ∀ s ∈ l, s.length = 64) (b : Sec) : ∀ (s : Nat), s < l.length → (l.set s b).flatten = l.flatten.take (s * 64) ++ (b ++ l.flatten.drop (s * 64 + 64)) := by
  induction l with
  | nil => intro s hs; exact absurd hs (by simp)
  | cons x l ih =>
    intro s hs
    have hx := h x (List.mem_cons_self ..)
    cases s with
    | zero =>
      rw [List.set_cons_zero, List.flatten_cons, List.flatten_cons, Nat.zero_mul, Nat.zero_add, List.take_zero, List.nil_append, ← hx, List.drop_left]
    | succ s =>
      rw [List.set_cons_succ, List.flatten_cons, List.flatten_cons, ih (fun s hs => h s (List.mem_cons_of_mem _ hs)) s (by simpa using hs)]
      rw [List.take_append, List.drop_append, hx, List.take_of_length_le (l := x) (by omega), @List.drop_eq_nil_of_le _ x _ (by omega), List.nil_append, List.append_assoc]
      rw [show (s + 1) * 64 - 64 = s * 64 by omega, show (s + 1) * 64 + 64 - 64 = s * 64 + 64 by omega]
theorem zeros_flat (n : Nat) : (List.replicate n zsec).flatten = List.replicate (n * 64) 0 := by
  induction n with
  | zero => rfl
  | succ n ih => rw [List.replicate_succ, List.flatten_cons, ih, zsec, List.replicate_append_replicate]; congr 1; omega

/-- A change's cells. -/
def ccells (c : Chg) : List Value := .int .i64 (c.place : Int) :: (u8s c.before ++ u8s c.after)
def pcells (l : List Chg) : List Value := l.flatMap ccells
theorem pcells_nil : pcells [] = [] := rfl
theorem pcells_append (a b : List Chg) : pcells (a ++ b) = pcells a ++ pcells b := List.flatMap_append
theorem pcells_one (c : Chg) : pcells [c] = ccells c := by simp [pcells]
theorem ccells_length (c : Chg) (h1 : c.before.length = 64) (h2 : c.after.length = 64) : (ccells c).length = 129 := by simp [ccells, u8s_length, h1, h2]
theorem pcells_get (l : List Chg) (h : ∀ c ∈ l, c.before.length = 64 ∧ c.after.length = 64) : ∀ (k j : Nat) (hk : k < l.length), j < 129 → (pcells l)[k * 129 + j]? = (ccells l[k])[j]? := by
  induction l with
  | nil => intro k j hk; exact absurd hk (by simp)
  | cons x l ih =>
    intro k j hk hj
    have hx := ccells_length x (h x (List.mem_cons_self ..)).1 (h x (List.mem_cons_self ..)).2
    show (ccells x ++ pcells l)[_]? = _
    cases k with
    | zero => rw [Nat.zero_mul, Nat.zero_add, List.getElem?_append_left (by omega)]; rfl
    | succ k =>
      rw [List.getElem?_append_right (by omega), hx, show (k + 1) * 129 + j - 129 = k * 129 + j by omega]
      exact ih (fun s hs => h s (List.mem_cons_of_mem _ hs)) k j (by simpa using hk) hj
end
section
/- A disk in memory: which blocks it owns, what they hold; what a call may turn. -/
open Go.RowKit
set_option maxRecDepth 20000

/-- Of the blocks that were there only those of S may have turned. -/
structure Kept (S : Nat → Prop) (w w' : World) : Prop where
  os : w'.os = w.os
  tape : w'.tape = w.tape
  output : w'.output = w.output
  size : w.heap.size ≤ w'.heap.size
  block : ∀ k, k < w.heap.size → ¬ S k → w'.heap[k]? = w.heap[k]?
theorem Kept.refl (S : Nat → Prop) (w : World) : Kept S w w := ⟨rfl, rfl, rfl, Nat.le_refl _, fun _ _ _ => rfl⟩
theorem Kept.trans {S S' : Nat → Prop} {a b c : World} (h : Kept S a b) (k : Kept S' b c) (hs : ∀ i, S' i → S i ∨ a.heap.size ≤ i) : Kept S a c :=
  ⟨k.os.trans h.os, k.tape.trans h.tape, k.output.trans h.output, Nat.le_trans h.size k.size, fun i hi hn => (k.block i (Nat.lt_of_lt_of_le hi h.size) (fun hc => by rcases hs i hc with h1 | h1; exact hn h1; omega)).trans (h.block i hi hn)⟩
theorem Kept.trans_same {S : Nat → Prop} {a b c : World} (h : Kept S a b) (k : Kept S b c) : Kept S a c := h.trans k (fun _ h => .inl h)
theorem Kept.mono {S S' : Nat → Prop} {a b : World} (h : Kept S a b) (hs : ∀ i, S i → S' i ∨ a.heap.size ≤ i) : Kept S' a b :=
  ⟨h.os, h.tape, h.output, h.size, fun i hi hn => h.block i hi (fun hc => by rcases hs i hc with h1 | h1; exact hn h1; omega)⟩
theorem Kept.of_below {S : Nat → Prop} {a b : World} (h : Below a.heap.size a b) : Kept S a b := ⟨h.os, h.tape, h.output, h.size, fun i hi _ => h.block i hi⟩
theorem Kept.of_grown {a b : World} {row : Option Nat} (h : a.grownBy b row) : Kept (fun k => row = some k) a b := ⟨h.os, h.tape, h.output, h.size, fun i hi hn => h.block i hi (fun e => hn e.symm)⟩
theorem Kept.alloc (S : Nat → Prop) (w : World) (o : Obj) : Kept S w (w.alloc o) := .of_below ((Below.refl _ w).alloc (Nat.le_refl _) o)
theorem Kept.drew {S : Nat → Prop} {a b : World} (h : Kept S a b) : Kept S a b.drew := ⟨h.os, h.tape, h.output, h.size, h.block⟩
theorem Kept.setCell (w : World) (p : Addr) (u : Value) : Kept (fun k => k = p.block) w (w.setCell p u) :=
  ⟨rfl, rfl, rfl, by simp [World.setCell], fun k _ hn => Below.heap_setCell _ _ _ _ hn⟩
theorem Kept.below {S : Nat → Prop} {a b : World} {B : Nat} (h : Kept S a b) (hB : B ≤ a.heap.size) (hs : ∀ k, S k → B ≤ k) : Below B a b :=
  ⟨h.os, h.tape, h.output, h.size, fun k hk => h.block k (by omega) (fun hc => by have := hs k hc; omega)⟩
theorem Kept.blk {S : Nat → Prop} {a b : World} (h : Kept S a b) {g : Nat} {t : TypeId} {cs : Array Value} (hb : Blk a g t cs) (hn : ¬ S g) : Blk b g t cs := (h.block g hb.lt hn).trans hb
theorem Kept.cell {S : Nat → Prop} {a b : World} (h : Kept S a b) {p : Addr} (hlt : p.block < a.heap.size) (hn : ¬ S p.block) : b.cell? p = a.cell? p := World.cell?_of_block (h.block _ hlt hn)
theorem Kept.own {S : Nat → Prop} {a b : World} (h : Kept S a b) {base : Nat} {e : TypeId} {size : Nat} {v : Value} {n : Nat} {xs : List Value} (ho : a.ownsRow base e size v n xs) (hn : ∀ k, v.ownBlock = some k → ¬ S k) : b.ownsRow base e size v n xs := by
  obtain ⟨h1, h2⟩ := ho
  refine ⟨h1, ?_⟩
  rcases h2 with h2 | ⟨g, cap, cur, rfl, hb, hh, hr⟩
  · exact .inl h2
  · exact .inr ⟨g, cap, cur, rfl, hb, (h.block g (Blk.lt hh) (hn g rfl)).trans hh, hr⟩
/-- A row whose array S doesn't hold. -/
theorem Kept.row {S : Nat → Prop} {a b : World} (h : Kept S a b) {B : Nat} {v : Value} {xs : List Value} (hr : Row a B v xs) (hB : B ≤ a.heap.size) (hn : ∀ k, k < B → ¬ S k) : Row b B v xs :=
  hr.keep fun p hp => h.cell (by omega) (hn _ hp)

theorem setCells_tape (g : Nat) : ∀ (vs : List Value) (o : Nat) (w : World), (w.setCells g o vs).tape = w.tape
  | [], _, _ => rfl
  | _ :: r, o, _ => by rw [World.setCells, setCells_tape g r (o + 1)]; rfl
theorem setCells_size (g : Nat) : ∀ (vs : List Value) (o : Nat) (w : World), (w.setCells g o vs).heap.size = w.heap.size
  | [], _, _ => rfl
  | _ :: r, o, _ => by rw [World.setCells, setCells_size g r (o + 1)]; simp [World.setCell]
theorem Kept.setCells (w : World) (g o : Nat) (vs : List Value) : Kept (fun k => k = g) w (w.setCells g o vs) :=
  ⟨World.os_setCells w g o vs, setCells_tape g vs o w, World.output_setCells w g o vs, Nat.le_of_eq (setCells_size g vs o w).symm, fun _ hk hn => World.heap_setCells_other w g o vs hk hn⟩
theorem Blk.setCells {g : Nat} {t : TypeId} : ∀ (vs : List Value) (o : Nat) (w : World) (cur : Array Value), Blk w g t cur → o + vs.length ≤ cur.size → Blk (w.setCells g o vs) g t (cur.toList.take o ++ (vs ++ cur.toList.drop (o + vs.length))).toArray
  | [], o, w, cur, h, _ => by simpa [World.setCells] using h
  | v :: r, o, w, cur, h, hle => by
    simp only [List.length_cons] at hle
    have h1 := Blk.setCells r (o + 1) (w.setCell ⟨g, o, none⟩ v) (cur.setIfInBounds o v) (h.set_ o v) (by simp; omega)
    have hlt : o < cur.toList.length := by simpa using (by omega : o < cur.size)
    have e1 : (cur.setIfInBounds o v).toList.take (o + 1) = cur.toList.take o ++ [v] := by
      rw [Array.toList_setIfInBounds, List.take_succ_eq_append_getElem (by simpa using hlt), List.take_set_of_le (Nat.le_refl _)]
      simp
    have e2 : (cur.setIfInBounds o v).toList.drop (o + 1 + r.length) = cur.toList.drop (o + (r.length + 1)) := by
      rw [Array.toList_setIfInBounds, List.drop_set_of_lt (by omega)]
      congr 1; omega
    rw [e1, e2] at h1
    rw [World.setCells]
    simpa using h1

/-- Region i of the row of regions cs. -/
def RgAt (w : World) (lab : Nat → Nat) (cs : Array Value) (i n : Nat) (r : Rg) : Prop :=
  ∃ (sb : Nat) (pv : Value), cs[i * 4]? = some (.slice (some ⟨sb, 0, none⟩) n n) ∧ cs[i * 4 + 1]? = some pv ∧ cs[i * 4 + 2]? = some (.bool r.armed) ∧ cs[i * 4 + 3]? = some (.int .i64 (r.left : Int)) ∧
    lab sb = 3 + i * 2 ∧ Blk w sb 60 (blk8 r.secs.flatten) ∧ w.ownsRow 0 68 129 pv r.ws.length (pcells r.pend) ∧ (∀ k, pv.ownBlock = some k → lab k = 4 + i * 2) ∧ r.Fit n
structure Ds where
  size : Nat
  regs : List Rg
  writes : Nat
/-- Block g is a disk; its blocks are those that are labelled. -/
def DkAt (w : World) (lab : Nat → Nat) (g : Nat) (d : Ds) : Prop :=
  (∀ k, lab k ≠ 0 → k < w.heap.size) ∧ lab g = 1 ∧ (1 ≤ d.size ∧ d.size ≤ 65536 ∧ 1 ≤ d.regs.length ∧ d.regs.length ≤ 64) ∧
  ∃ (g2 : Nat) (cs : Array Value), lab g2 = 2 ∧ Blk w g 51 #[.slice (some ⟨g2, 0, none⟩) d.regs.length d.regs.length, .int .i64 (d.writes : Int)] ∧ Blk w g2 55 cs ∧ cs.size = d.regs.length * 4 ∧
    ∀ i r, d.regs[i]? = some r → RgAt w lab cs i d.size r
theorem RgAt.keep {w w' : World} {lab : Nat → Nat} {cs : Array Value} {i n : Nat} {r : Rg} {S : Nat → Prop} (h : RgAt w lab cs i n r) (hk : Kept S w w') (hs : ∀ k, S k → lab k ≠ 3 + i * 2 ∧ lab k ≠ 4 + i * 2) : RgAt w' lab cs i n r := by
  obtain ⟨sb, pv, h0, h1, h2, h3, hl, hb, ho, hp, hf⟩ := h
  exact ⟨sb, pv, h0, h1, h2, h3, hl, hk.blk hb (fun hc => (hs _ hc).1 hl), hk.own ho (fun k hk' hc => (hs _ hc).2 (hp k hk')), hp, hf⟩
/-- Nothing of it has turned. -/
theorem DkAt.keep {w w' : World} {lab : Nat → Nat} {g : Nat} {d : Ds} {S : Nat → Prop} (h : DkAt w lab g d) (hk : Kept S w w') (hs : ∀ k, S k → lab k = 0) : DkAt w' lab g d := by
  obtain ⟨hl, hg, hz, g2, cs, hg2, hb, hb2, hcs, hr⟩ := h
  refine ⟨fun k hk' => Nat.lt_of_lt_of_le (hl k hk') hk.size, hg, hz, g2, cs, hg2, hk.blk hb (fun hc => by rw [hs _ hc] at hg; cases hg), hk.blk hb2 (fun hc => by rw [hs _ hc] at hg2; cases hg2), hcs, fun i r hi => (hr i r hi).keep hk (fun k hc => ?_)⟩
  rw [hs k hc]; omega
theorem DkAt.below {w w' : World} {lab : Nat → Nat} {g : Nat} {d : Ds} (h : DkAt w lab g d) (hb : Below w.heap.size w w') : DkAt w' lab g d := h.keep (Kept.of_below (S := fun _ => False) hb) (fun _ hc => hc.elim)
theorem DkAt.lt {w : World} {lab : Nat → Nat} {g : Nat} {d : Ds} (h : DkAt w lab g d) : g < w.heap.size := h.1 g (by rw [h.2.1]; decide)
end
section
/- Contracts: a disk's region, is there a sector, is it down. -/
open Go.RowKit
set_option maxRecDepth 20000

section
variable {w : World} {g g2 n : Nat} {wv : Value}
theorem region_some (hb : Blk w g 51 #[.slice (some ⟨g2, 0, none⟩) n n, wv]) (i : Nat) (hi : i < n) :
    Calls Try.prog 17 #[ptr g, .int .i64 (i : Int)] w fun e w' => e = .returned (.pointer (some ⟨g2, i * 4, none⟩)) ∧ w = w' := by
  have hc := hb.cell 0 _ rfl
  unfold ptr
  clear hb
  have h0 : (0 : Int) ≤ (i : Int) := by omega
  have h1 : (i : Int) < (n : Int) := by omega
  go_enter Try.func17, Try.ntmps17
  go_wp2
  go_ret
  exact ⟨rfl, rfl⟩
theorem region_out (hb : Blk w g 51 #[.slice (some ⟨g2, 0, none⟩) n n, wv]) (i : Int) (hi : i < 0 ∨ (n : Int) ≤ i) :
    Calls Try.prog 17 #[ptr g, .int .i64 i] w fun e w' => e = .returned (.pointer none) ∧ w = w' := by
  have hc := hb.cell 0 _ rfl
  unfold ptr
  clear hb
  by_cases h0 : i < 0
  · clear hi
    go_enter Try.func17, Try.ntmps17
    go_wp2
    go_ret
    exact ⟨rfl, rfl⟩
  · have h1 : (n : Int) ≤ i := by omega
    clear hi
    go_enter Try.func17, Try.ntmps17
    go_wp2
    go_ret
    exact ⟨rfl, rfl⟩
theorem region_nil (i : Int) (w : World) :
    Calls Try.prog 17 #[.pointer none, .int .i64 i] w fun e w' => e = .returned (.pointer none) ∧ w = w' := by
  go_enter Try.func17, Try.ntmps17
  go_wp2
  go_ret
  exact ⟨rfl, rfl⟩
end

section
variable {w : World} {g o sb n : Nat}
theorem has_nil (s : Int) (w : World) : Calls Try.prog 18 #[.pointer none, .int .i64 s] w fun e w' => e = .returned (.bool false) ∧ w = w' := by
  go_enter Try.func18, Try.ntmps18
  go_wp2
  go_ret
  exact ⟨rfl, rfl⟩
theorem has_yes (hc : w.cell? ⟨g, o, none⟩ = some (.slice (some ⟨sb, 0, none⟩) n n)) (s : Nat) (hs : s < n) : Calls Try.prog 18 #[.pointer (some ⟨g, o, none⟩), .int .i64 (s : Int)] w fun e w' => e = .returned (.bool true) ∧ w = w' := by
  have h0 : (0 : Int) ≤ (s : Int) := by omega
  have h1 : (s : Int) < (n : Int) := by omega
  go_enter Try.func18, Try.ntmps18
  go_wp2
  go_ret
  exact ⟨rfl, rfl⟩
theorem has_no (hc : w.cell? ⟨g, o, none⟩ = some (.slice (some ⟨sb, 0, none⟩) n n)) (s : Int) (hs : s < 0 ∨ (n : Int) ≤ s) : Calls Try.prog 18 #[.pointer (some ⟨g, o, none⟩), .int .i64 s] w fun e w' => e = .returned (.bool false) ∧ w = w' := by
  by_cases h0 : s < 0
  · clear hs
    go_enter Try.func18, Try.ntmps18
    go_wp2
    go_ret
    exact ⟨rfl, rfl⟩
  · have h1 : (n : Int) ≤ s := by omega
    clear hs
    have h0' : 0 ≤ s := by omega
    have hd : decide (s < (n : Int)) = false := by simpa using h1
    go_enter Try.func18, Try.ntmps18
    go_wp2
    go_ret
    exact ⟨rfl, rfl⟩
/-- down, answer by answer. -/
theorem down_any (armed : Bool) (left : Nat) (hc2 : w.cell? ⟨g, o + 2, none⟩ = some (.bool armed)) (hc3 : w.cell? ⟨g, o + 3, none⟩ = some (.int .i64 (left : Int))) :
    Calls Try.prog 19 #[.pointer (some ⟨g, o, none⟩)] w fun e w' => e = .returned (.bool (armed && left == 0)) ∧ w = w' := by
  cases armed
  · rw [Bool.false_and]
    go_enter Try.func19, Try.ntmps19
    go_wp2
    go_ret
    exact ⟨rfl, rfl⟩
  · rw [Bool.true_and]
    cases left with
    | zero =>
      go_enter Try.func19, Try.ntmps19
      go_wp2
      go_ret
      exact ⟨rfl, rfl⟩
    | succ k =>
      have h : (((k + 1 : Nat) : Int) == 0) = false := by simp; omega
      have h2 : ((k + 1 : Nat) == 0) = false := by simp
      rw [h2]
      generalize ((k + 1 : Nat) : Int) = z at *
      go_enter Try.func19, Try.ntmps19
      go_wp2
      go_ret
      exact ⟨rfl, rfl⟩
end
end
section
/- Contract: a new disk. -/
open Go.RowKit
set_option maxRecDepth 20000

theorem infoRg : (Try.prog.info? 55).map (fun i => (i.zero, i.size, i.bytes)) = some (some (.agg #[.slice none 0 0, .slice none 0 0, .bool false, .int .i64 0]), 4, 64) := by kernel_rfl
theorem infoSc : (Try.prog.info? 60).map (fun i => (i.zero, i.size, i.bytes)) = some (some (.agg (blk8 zsec)), 64, 64) := by kernel_rfl
theorem infoCh : (Try.prog.info? 68).map (fun i => (i.zero, i.size, i.bytes)) = some (some (.agg (ccells ⟨0, zsec, zsec⟩).toArray), 129, 136) := by kernel_rfl

/-- make([]T, n), T of any number of cells. -/
theorem run_make_many {P : Program} (t e : TypeId) (cells : Array Value) (size bytes : Nat) (ht : P.underlying t = some (.slice e)) (hinfo : (P.info? e).map (fun i => (i.zero, i.size, i.bytes)) = some (some (.agg cells), size, bytes))
    (n : Nat) (hbytes : bytes * n ≤ 281474976710656) (h63 : n ≤ 281474976710656) (w : World) :
    (Instr.makeSlice t (.int .i64 (n : Int)) (.int .i64 (n : Int))).run P w = .ok (.slice (some ⟨w.heap.size, 0, none⟩) n n) (w.alloc (.cells (madeCells cells (n * size)) e)) := by
  obtain ⟨i, hi, hz, hs, hb⟩ := info_parts hinfo
  have hb' : (i.bytes : Int) * (n : Int) ≤ 281474976710656 := by
    have h : ((i.bytes * n : Nat) : Int) ≤ 281474976710656 := by rw [hb]; omega
    rwa [Int.natCast_mul] at h
  have hr := run_make (P := P) w t e i (.agg cells) ht hi hz .i64 .i64 n n (by omega) (Int.le_refl _) hb' (by omega)
  simp only [Int.toNat_natCast, hs] at hr
  exact hr
/-- The row of regions, k of them given their sectors, which lie from block B on. -/
def newCell (B size k j : Nat) : Value :=
  if j % 4 = 0 then (if j / 4 < k then .slice (some ⟨B + j / 4, 0, none⟩) size size else .slice none 0 0) else if j % 4 = 1 then .slice none 0 0 else if j % 4 = 2 then .bool false else .int .i64 0
def newRow (B n size k : Nat) : Array Value := (Array.range (n * 4)).map (newCell B size k)
theorem newRow_get (B n size k j : Nat) (h : j < n * 4) : (newRow B n size k)[j]? = some (newCell B size k j) := by simp [newRow, h]
theorem newRow_size (B n size k : Nat) : (newRow B n size k).size = n * 4 := by simp [newRow]
theorem newRow_made (B n size : Nat) : madeCells #[.slice none 0 0, .slice none 0 0, .bool false, .int .i64 0] (n * 4) = newRow B n size 0 := by
  apply Array.ext
  · simp [madeCells, newRow]
  · intro j h1 h2
    have hj : j % 4 = 0 ∨ j % 4 = 1 ∨ j % 4 = 2 ∨ j % 4 = 3 := by omega
    rcases hj with e | e | e | e <;> simp [madeCells, newRow, newCell, e]
theorem newRow_set (B n size k : Nat) (hk : k < n) : (newRow B n size k).setIfInBounds (k * 4) (.slice (some ⟨B + k, 0, none⟩) size size) = newRow B n size (k + 1) := by
  apply Array.ext_getElem?
  intro j
  rw [Array.getElem?_setIfInBounds, newRow_size]
  by_cases hj : j < n * 4
  · rw [newRow_get _ _ _ _ _ hj, newRow_get _ _ _ _ _ hj]
    by_cases e : k * 4 = j
    · subst e
      rw [if_pos rfl, if_pos hj]
      simp [newCell]
    · rw [if_neg e]
      unfold newCell
      by_cases e0 : j % 4 = 0
      · have h1 : j / 4 < k ↔ j / 4 < k + 1 := by omega
        simp only [e0, if_true, h1]
      · simp only [e0, if_false]
  · rw [Array.getElem?_eq_none (by rw [newRow_size]; omega), Array.getElem?_eq_none (by rw [newRow_size]; omega), if_neg (by omega)]
theorem made_zeros (n : Nat) : madeCells (blk8 zsec) (n * 64) = blk8 (List.replicate (n * 64) 0) := by
  apply Array.ext
  · simp [madeCells, blk8_size]
  · intro j h1 h2
    have e1 : (blk8 zsec)[j % 64]? = some (.int .u8 0) := by
      have hz : ∀ i (h : i < zsec.length), zsec[i] = 0 := fun i h => List.getElem_replicate ..
      rw [blk8_get _ _ (by simp [zsec]; omega), hz]
      rfl
    have e2 : (blk8 (List.replicate (n * 64) 0))[j]? = some (.int .u8 0) := by
      have hj : j < n * 64 := by simpa [madeCells] using h1
      rw [blk8_get _ _ (by simpa using hj)]
      simp
    rw [Array.getElem?_eq_getElem h2] at e2
    injection e2 with e2
    rw [e2]
    have hs : (blk8 zsec).size = 64 := by rw [blk8_size]; rfl
    simp only [madeCells, Array.getElem_map, Array.getElem_range, hs]
    rw [Array.getElem!_eq_getD, Array.getD_eq_getD_getElem?, e1]
    rfl
/-- A new disk's label. -/
def newLab (B n k : Nat) : Nat := if k = B + 1 then 1 else if k = B then 2 else if B + 2 ≤ k ∧ k < B + 2 + n then 3 + (k - (B + 2)) * 2 else 0

set_option maxHeartbeats 2000000 in
theorem new_yes (n size : Nat) (w : World) (h1 : 1 ≤ n) (h2 : n ≤ 64) (h3 : 1 ≤ size) (h4 : size ≤ 65536) :
    Calls Try.prog 7 #[.int .i64 (n : Int), .int .i64 (size : Int)] w fun e w' => ∃ g lab, e = .returned (ptr g) ∧ DkAt w' lab g ⟨size, List.replicate n (Rg.new size), 0⟩ ∧ (∀ k, lab k ≠ 0 → w.heap.size ≤ k) ∧ Below w.heap.size w w' := by
  have hm1 := fun w => run_make_many (P := Try.prog) 49 55 _ 4 64 Try.underlying49 infoRg n (by omega) (by omega) w
  have hm2 := fun w => run_make_many (P := Try.prog) 52 60 _ 64 64 Try.underlying52 infoSc size (by omega) (by omega) w
  have d1 : decide ((n : Int) < 1) = false := by simp; omega
  have d2 : decide ((64 : Int) < (n : Int)) = false := by simp; omega
  have d3 : decide ((size : Int) < 1) = false := by simp; omega
  have d4 : decide ((65536 : Int) < (size : Int)) = false := by simp; omega
  rw [newRow_made (w.heap.size + 2) n size] at hm1
  simp only [made_zeros] at hm2
  go_enter Try.func7, Try.ntmps7
  go_wp2
  go_loopw [30] (fun i wr => ∃ k : Nat, k ≤ n ∧ i = .int .i64 k ∧ wr.heap.size = w.heap.size + 2 + k ∧ Blk wr (w.heap.size + 1) 51 #[.slice (some ⟨w.heap.size, 0, none⟩) n n, .int .i64 0] ∧ Blk wr w.heap.size 55 (newRow (w.heap.size + 2) n size k) ∧
      (∀ j, j < k → Blk wr (w.heap.size + 2 + j) 60 (blk8 (List.replicate (size * 64) 0))) ∧ Below w.heap.size w wr) (fun i _ => n - (intOf i).toNat)
  case atStart =>
    refine ⟨0, by omega, rfl, by simp, ?_, ?_, fun j hj => absurd hj (by omega), ((Below.refl _ w).alloc (Nat.le_refl _) _).alloc (by simp) _⟩
    · exact Blk.new_ _ _ _ (by simp)
    · exact (Blk.new_ w _ _ rfl).alloc _
  case round =>
    obtain ⟨k, hk, rfl, hsz, hb1, hb2, hbs, hbe⟩ := hrel
    by_cases hlt : k < n
    · have hc0 := hb1.cell 0 _ rfl
      have hc1 := hb2.cell (k * 4) _ (newRow_get _ _ _ _ _ (by omega))
      have hf1 := hb2.frozen (k * 4)
      have hk1 : (k : Int) < (n : Int) := by omega
      have ha0 := (hb1.alloc (.cells (blk8 (List.replicate (size * 64) 0)) 60)).cell 0 _ rfl
      have ha1 := (hb2.alloc (.cells (blk8 (List.replicate (size * 64) 0)) 60)).cell (k * 4) _ (newRow_get _ _ _ _ _ (by omega))
      have haf := (hb2.alloc (.cells (blk8 (List.replicate (size * 64) 0)) 60)).frozen (k * 4)
      have HB1 := hide hb1
      have HB2 := hide hb2
      have HBS := hide hbs
      have HBE := hide hbe
      have HSZ := hide hsz
      clear hb1 hb2 hbs hbe hsz
      go_wp2
      go_region
      all_goals
        go_wp2
        go_round
        case rel =>
          have hB := HB2.out.alloc (.cells (blk8 (List.replicate (size * 64) 0)) 60)
          refine ⟨k + 1, by omega, by go_num, ?_, ?_, ?_, ?_, ?_⟩
          · have := HSZ.out; simp [World.setCell]; omega
          · exact ((HB1.out.alloc _).far (p := ⟨w.heap.size, k * 4, none⟩) (by simp) _).drew
          · have h2 := hB.set_ (k * 4) (.slice (some ⟨w.heap.size + 2 + k, 0, none⟩) size size)
            rw [newRow_set _ _ _ _ hlt, ← HSZ.out] at h2
            exact h2.drew
          · intro j hj
            by_cases e : j = k
            · subst e
              rw [← HSZ.out]
              exact (Blk.far (p := ⟨w.heap.size, j * 4, none⟩) (Blk.new_ wr _ _ rfl) (by have := HSZ.out; simp; omega) _).drew
            · exact (((HBS.out j (by omega)).alloc _).far (p := ⟨w.heap.size, k * 4, none⟩) (by simp; omega) _).drew
          · exact ((HBE.out.alloc HBE.out.size _).setCell (p := ⟨w.heap.size, k * 4, none⟩) (Nat.le_refl _) _).drew
        case measure => simp [intOf]; omega
    · obtain rfl : k = n := by omega
      go_wp2
      go_ret
      refine ⟨w.heap.size + 1, newLab w.heap.size k, rfl, ?_, ?_, hbe⟩
      · refine ⟨fun i hi => ?_, by simp [newLab], ⟨h3, h4, by simpa using h1, by simpa using h2⟩, w.heap.size, _, by simp [newLab], by simpa using hb1, hb2, by simp [newRow_size], fun i r hi => ?_⟩
        · rw [hsz]
          unfold newLab at hi
          split at hi
          · omega
          · split at hi
            · omega
            · split at hi
              · omega
              · exact absurd rfl hi
        · have hik : i < k := by simpa using (List.getElem?_eq_some_iff.1 hi).1
          obtain rfl : Rg.new size = r := by
            rw [List.getElem?_replicate, if_pos hik] at hi
            exact Option.some.inj hi
          refine ⟨w.heap.size + 2 + i, .slice none 0 0, ?_, ?_, ?_, ?_, ?_, ?_, ⟨rfl, .inl ⟨rfl, rfl⟩⟩, (fun _ h => by cases h), Rg.new_fit size⟩
          · rw [newRow_get _ _ _ _ _ (by omega)]
            simp [newCell, hik]
          · rw [newRow_get _ _ _ _ _ (by omega)]
            simp [newCell, show (i * 4 + 1) % 4 = 1 by omega]
          · rw [newRow_get _ _ _ _ _ (by omega)]
            simp [newCell, show (i * 4 + 2) % 4 = 2 by omega, Rg.new]
          · rw [newRow_get _ _ _ _ _ (by omega)]
            simp [newCell, show (i * 4 + 3) % 4 = 3 by omega, Rg.new]
          · unfold newLab
            rw [if_neg (by omega), if_neg (by omega), if_pos (by omega)]
            omega
          · have := hbs i hik
            rw [← zeros_flat] at this
            exact this
      · intro i hi
        unfold newLab at hi
        split at hi
        · omega
        · split at hi
          · omega
          · split at hi
            · omega
            · exact absurd rfl hi
/-- A disk that there can't be. -/
theorem new_no (n size : Int) (w : World) (h : n < 1 ∨ 64 < n ∨ size < 1 ∨ 65536 < size) :
    Calls Try.prog 7 #[.int .i64 n, .int .i64 size] w fun e w' => e = .returned (.pointer none) ∧ w = w' := by
  by_cases h1 : n < 1
  · clear h
    go_enter Try.func7, Try.ntmps7
    go_wp2
    go_ret
    exact ⟨rfl, rfl⟩
  by_cases h2 : 64 < n
  · clear h
    go_enter Try.func7, Try.ntmps7
    go_wp2
    go_ret
    exact ⟨rfl, rfl⟩
  by_cases h3 : size < 1
  · clear h
    go_enter Try.func7, Try.ntmps7
    go_wp2
    go_ret
    exact ⟨rfl, rfl⟩
  have h4 : 65536 < size := by omega
  clear h
  go_enter Try.func7, Try.ntmps7
  go_wp2
  go_ret
  exact ⟨rfl, rfl⟩
end
section
/- What 'build' and 'buildSlice' make of parts of many cells: laid one over the other, no cell reckoned by itself. -/
open Go.RowKit
set_option maxRecDepth 20000

/-- cs laid over L from place off on. -/
def lay (L : List Value) (off : Nat) (cs : List Value) : List Value := L.take off ++ (cs ++ L.drop (off + cs.length))
theorem lay_length (L : List Value) (off : Nat) (cs : List Value) (h : off + cs.length ≤ L.length) : (lay L off cs).length = L.length := by simp [lay]; omega
theorem lay_whole (L cs : List Value) (h : cs.length = L.length) : lay L 0 cs = cs := by simp [lay, h]
theorem lay_at (A B C : List Value) : lay (A ++ B) A.length C = A ++ (C ++ B.drop C.length) := by
  unfold lay
  rw [List.take_left, List.drop_append, List.drop_eq_nil_of_le (by omega), List.nil_append]
  congr 3; omega
theorem fold_lay (off : Nat) : ∀ (vs : List Value) (k : Nat) (cs : Array Value), off + k + vs.length ≤ cs.size →
    (((vs.zipIdx k).foldl (fun cs x => cs.setIfInBounds (off + x.2) x.1) cs)).toList = cs.toList.take (off + k) ++ (vs ++ cs.toList.drop (off + k + vs.length))
  | [], k, cs, _ => by simp
  | v :: r, k, cs, h => by
    simp only [List.length_cons] at h
    rw [List.zipIdx_cons, List.foldl_cons, fold_lay off r (k + 1) _ (by simp; omega)]
    have hlt : off + k < cs.toList.length := by simpa using (by omega : off + k < cs.size)
    rw [Array.toList_setIfInBounds]
    have e1 : (cs.toList.set (off + k) v).take (off + (k + 1)) = cs.toList.take (off + k) ++ [v] := by
      rw [show off + (k + 1) = (off + k) + 1 by omega, List.take_succ_eq_append_getElem (by simpa using hlt), List.take_set_of_le (Nat.le_refl _)]
      simp
    have e2 : (cs.toList.set (off + k) v).drop (off + (k + 1) + r.length) = cs.toList.drop (off + k + (r.length + 1)) := by
      rw [List.drop_set_of_lt (by omega)]
      congr 1; omega
    rw [e1, e2]
    simp
theorem fill_step {place : Nat → Option (Nat × Nat)} {cells : Array Value} {i off size : Nat} {v : Value} {rest : List (Nat × Value)} (hp : place i = some (off, size)) (hs : v.cells.size = size) (hle : off + size ≤ cells.size) :
    Instr.fill place cells ((i, v) :: rest) = Instr.fill place (lay cells.toList off v.cells.toList).toArray rest := by
  have h1 : (v.cells.zipIdx.foldl (fun cs x => cs.setIfInBounds (off + x.2) x.1) cells) = (lay cells.toList off v.cells.toList).toArray := by
    apply Array.toList_inj.1
    rw [← Array.foldl_toList, Array.toList_zipIdx]
    have := fold_lay off v.cells.toList 0 cells (by simp; omega)
    rw [Nat.add_zero] at this
    rw [this]
    simp [lay]
  simp only [Instr.fill, hp]
  rw [if_neg (by simp; omega)]
  exact congrArg (fun c => Instr.fill place c rest) h1
theorem fill_done {place : Nat → Option (Nat × Nat)} {cells : Array Value} : Instr.fill place cells [] = some cells := rfl
/-- A slice of one element, whole. -/
theorem run_slice_one {P : Program} (w : World) (t e : TypeId) (cells z : Array Value) (size bytes : Nat) (hu : P.underlying t = some (.slice e)) (hinfo : (P.info? e).map (fun i => (i.zero, i.size, i.bytes)) = some (some (.agg z), size, bytes))
    (hc : cells.size = size) (hsmall : size ≤ 16777216) (hpos : 0 < size) :
    (Instr.buildSlice t 1 #[(0, .agg cells)]).run P w = .ok (.slice (some ⟨w.heap.size, 0, none⟩) 1 1) (w.alloc (.cells cells e)) := by
  cases hq : P.info? e with
  | none => simp [hq] at hinfo
  | some i =>
    simp only [hq, Option.map_some, Option.some.injEq, Prod.mk.injEq] at hinfo
    obtain ⟨hz, hs, _⟩ := hinfo
    refine run_buildSlice w t e 1 _ cells i (.agg z) hu hq hz (by rw [hs]; omega) (by rw [hs]; omega) ?_
    show Instr.fill _ _ [(0, .agg cells)] = _
    have hv : (Value.agg cells).cells = cells := rfl
    refine (fill_step (v := .agg cells) (off := 0) (size := size) (by simp [hs]) hc (by simp [hs])).trans ?_
    rw [fill_done, lay_whole _ _ (by simp [hs, hc, hv]), hv]
/-- A struct of three parts, each whole, side by side. -/
theorem run_build3 {P : Program} (w : World) (t : TypeId) (fields : Array Field) (z : Array Value) (size bytes s0 s1 s2 : Nat) (v0 v1 v2 : Value) (hu : P.underlying t = some (.struct fields))
    (hinfo : (P.info? t).map (fun i => (i.zero, i.size, i.bytes)) = some (some (.agg z), size, bytes)) (hz : z.size = s0 + s1 + s2)
    (hf : fields.toList.mapM (fun f => (P.info? f.type).map fun i => (f.offset, i.size)) = some [(0, s0), (s0, s1), (s0 + s1, s2)])
    (h0 : v0.cells.size = s0) (h1 : v1.cells.size = s1) (h2 : v2.cells.size = s2) :
    (Instr.build t #[(0, v0), (1, v1), (2, v2)]).run P w = .ok (.agg (v0.cells.toList ++ (v1.cells.toList ++ v2.cells.toList)).toArray) w := by
  refine run_build w t _ _ ?_
  cases hq : P.info? t with
  | none => simp [hq] at hinfo
  | some i =>
    simp only [hq, Option.map_some, Option.some.injEq, Prod.mk.injEq] at hinfo
    unfold Program.built
    simp only [hq, hu, hinfo.1, hf]
    show Instr.fill _ (Value.agg z).cells [(0, v0), (1, v1), (2, v2)] = _
    have hzl : (Value.agg z).cells.toList.length = s0 + s1 + s2 := by rw [Array.length_toList]; exact hz
    rw [← Array.length_toList] at h0 h1 h2
    rw [fill_step (off := 0) (size := s0) rfl (by rw [← Array.length_toList]; exact h0) (by rw [← Array.length_toList]; omega)]
    rw [fill_step (off := s0) (size := s1) rfl (by rw [← Array.length_toList]; exact h1) (by rw [List.size_toArray, lay_length _ _ _ (by omega)]; omega)]
    rw [fill_step (off := s0 + s1) (size := s2) rfl (by rw [← Array.length_toList]; exact h2) (by rw [List.size_toArray, List.toList_toArray, lay_length _ _ _ (by rw [lay_length _ _ _ (by omega)]; omega), lay_length _ _ _ (by omega)]; omega), fill_done]
    rw [List.toList_toArray, List.toList_toArray]
    generalize (Value.agg z).cells.toList = Z at *
    generalize v0.cells.toList = a at *
    generalize v1.cells.toList = b at *
    generalize v2.cells.toList = c at *
    subst h0 h1 h2
    have e0 : lay Z 0 a = a ++ Z.drop a.length := by simp [lay]
    rw [e0, lay_at, ← List.append_assoc, ← List.length_append, lay_at]
    rw [List.drop_eq_nil_of_le (by simp; omega), List.append_nil, List.append_assoc]
/-- The two as operations anywhere. -/
theorem wp_build_run {P : Program} {o : Oper} {a : Act} {w w' : World} {K : Act → World → Prop} {Q : Exit → Act → World → Prop} (t : TypeId) (parts : Array (Nat × Operand)) (ho : o.op = .build t parts) {v : Value}
    (hr : (Instr.build t (parts.map fun (i, x) => (i, a.eval x))).run P w = .ok v w') (h : K (a.put o.dst v) w') : o.wp P a w K Q := by
  unfold Oper.wp execOp
  simp only [ho, Sem.run_bind, hr, Result.andThen_ok]
  exact h
theorem wp_slice_run {P : Program} {o : Oper} {a : Act} {w w' : World} {K : Act → World → Prop} {Q : Exit → Act → World → Prop} (t : TypeId) (len : Nat) (parts : Array (Nat × Operand)) (ho : o.op = .buildSlice t len parts) {v : Value}
    (hr : (Instr.buildSlice t len (parts.map fun (i, x) => (i, a.eval x))).run P w = .ok v w') (h : K (a.put o.dst v) w') : o.wp P a w K Q := by
  unfold Oper.wp execOp
  simp only [ho, Sem.run_bind, hr, Result.andThen_ok]
  exact h
end

end Go.Proofs.Ytlplibgcfhamgaa
