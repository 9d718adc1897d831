/-
  A region whose order is drawn, with stores into blocks of the call's own: the world moves by a relation G; each operation's value is said by a word that stays said along G; what has been stored is told by which operations have come up.
-/
import Derived.Test.YtofnldmbokdkbaaGrow
namespace Go.Proofs.Ytofnldmbokdkbaa
open Go.RowKit

/-- A word that stays said along G. -/
structure Word (G : World → World → Prop) where
  p : World → Value → Prop
  st : ∀ w w' v, p w v → G w w' → p w' v
def Word.any (G : World → World → Prop) : Word G := ⟨fun _ _ => True, fun _ _ _ _ _ => trivial⟩
def Word.is (G : World → World → Prop) (u : Value) : Word G := ⟨fun _ v => v = u, fun _ _ _ h _ => h⟩
/-- Blocks of X may turn; all others stay; memory grows. -/
def Turns (X : Nat → Prop) (w w' : World) : Prop := w'.os = w.os ∧ w'.tape = w.tape ∧ w'.output = w.output ∧ w.heap.size ≤ w'.heap.size ∧ ∀ k, k < w.heap.size → ¬ X k → w'.heap[k]? = w.heap[k]?
/-- It is a slice that reads as these bytes, its array in no block of X. -/
def Away (X : Nat → Prop) (w : World) (v : Value) (xs : List Value) : Prop :=
  ∃ A c, v = .slice A xs.length c ∧ xs.length ≤ c ∧ (0 < xs.length → ∃ b o, A = some ⟨b, o, none⟩ ∧ b < w.heap.size ∧ ¬ X b ∧ ∀ j u, xs[j]? = some u → w.cell? ⟨b, o + j, none⟩ = some u)
theorem Away.rd {X : Nat → Prop} {w : World} {v : Value} {xs : List Value} (h : Away X w v xs) : Rd w v xs := by
  obtain ⟨A, c, e, hc, h⟩ := h
  exact ⟨A, c, e, hc, fun hn => by obtain ⟨b, o, e, hb, _, hr⟩ := h hn; exact ⟨b, o, e, hb, hr⟩⟩
section
variable {X : Nat → Prop} {w w' w'' : World}
theorem Turns.refl (X : Nat → Prop) (w : World) : Turns X w w := ⟨rfl, rfl, rfl, Nat.le_refl _, fun _ _ _ => rfl⟩
theorem Turns.size (h : Turns X w w') : w.heap.size ≤ w'.heap.size := h.2.2.2.1
theorem Turns.block (h : Turns X w w') {k : Nat} (hk : k < w.heap.size) (hx : ¬ X k) : w'.heap[k]? = w.heap[k]? := h.2.2.2.2 k hk hx
theorem Turns.trans (h : Turns X w w') (h' : Turns X w' w'') : Turns X w w'' :=
  ⟨h'.1.trans h.1, h'.2.1.trans h.2.1, h'.2.2.1.trans h.2.2.1, Nat.le_trans h.size h'.size, fun _ hk hx => (h'.block (Nat.lt_of_lt_of_le hk h.size) hx).trans (h.block hk hx)⟩
theorem Turns.drew (X : Nat → Prop) (w : World) : Turns X w w.drew := ⟨rfl, rfl, rfl, Nat.le_refl _, fun _ _ _ => rfl⟩
theorem Turns.of_below (h : Below w.heap.size w w') : Turns X w w' := ⟨h.os, h.tape, h.output, h.size, fun k hk _ => h.block k hk⟩
theorem Turns.of_grown {row : Option Nat} (h : w.grownBy w' row) (hx : ∀ k, row = some k → X k ∨ w.heap.size ≤ k) : Turns X w w' :=
  ⟨h.os, h.tape, h.output, h.size, fun k hk hn => h.block k hk (fun e => by rcases hx k e.symm with h1 | h1; exact hn h1; omega)⟩
theorem Turns.set (w : World) {q : Addr} (hq : X q.block) (u : Value) : Turns X w (w.setCell q u) :=
  ⟨rfl, rfl, rfl, by simp [World.setCell], fun _ _ hx => Below.heap_setCell _ _ _ _ (fun e => hx (by subst e; exact hq))⟩
theorem Turns.own (w : World) (g a : Nat) (u : Value) : Turns (· = g) w (w.setCell ⟨g, a, none⟩ u) := Turns.set w (X := (· = g)) (q := ⟨g, a, none⟩) rfl u
theorem Turns.cell (h : Turns X w w') {q : Addr} (hk : q.block < w.heap.size) (hx : ¬ X q.block) : w'.cell? q = w.cell? q := World.cell?_of_block (h.block hk hx)
theorem Turns.blk (h : Turns X w w') {k : Nat} {t : TypeId} {cs : Array Value} (hb : Blk w k t cs) (hx : ¬ X k) : Blk w' k t cs := (h.block hb.lt hx).trans hb
theorem Turns.below {B : Nat} (h : Turns X w w') (hB : B ≤ w.heap.size) (hx : ∀ k, X k → B ≤ k) : Below B w w' := ⟨h.1, h.2.1, h.2.2.1, h.size, fun k hk => h.block (by omega) (fun e => by have := hx k e; omega)⟩
theorem Away.turns {v : Value} {xs : List Value} (h : Away X w v xs) (ht : Turns X w w') : Away X w' v xs := by
  obtain ⟨A, c, e, hc, h⟩ := h
  refine ⟨A, c, e, hc, fun hn => ?_⟩
  obtain ⟨b, o, e, hb, hx, hr⟩ := h hn
  exact ⟨b, o, e, Nat.lt_of_lt_of_le hb ht.size, hx, fun j u hu => (ht.cell (q := ⟨b, o + j, none⟩) hb hx).trans (hr j u hu)⟩
theorem Away.of_row {B : Nat} {v : Value} {xs : List Value} (h : Row w B v xs) (hB : B ≤ w.heap.size) (hx : ∀ k, X k → B ≤ k) : Away X w v xs := by
  obtain ⟨A, c, e, hc, h⟩ := h
  refine ⟨A, c, e, hc, fun hn => ?_⟩
  obtain ⟨b, o, e, hb, hr⟩ := h hn
  exact ⟨b, o, e, by omega, fun hh => by have := hx b hh; omega, hr⟩
end
def Word.away (X : Nat → Prop) (n : Nat) (l : List UInt8) : Word (Turns X) := ⟨fun w v => ∃ A c, v = .slice A n c ∧ Away X w (.slice A n c) (u8s l), fun _ _ _ ⟨A, c, e, h⟩ ht => ⟨A, c, e, h.turns ht⟩⟩
def words {G : World → World → Prop} (l : List (Word G)) (j : Nat) : Word G := (l[j]?).getD (Word.any G)

/-- What a block holds, by which stores have come up: (operation, cell, value). -/
def filled (st : List (Nat × Nat × Value)) (L : Nat → Bool) (cs : Array Value) : Array Value := st.foldl (fun cs x => if L x.1 then cs.setIfInBounds x.2.1 x.2.2 else cs) cs
/-- Unlike operations, unlike cells. -/
def apartB (st : List (Nat × Nat × Value)) : Bool := (List.range st.length).all fun i => (List.range st.length).all fun j => i == j || (match st[i]?, st[j]? with | some x, some y => x.1 != y.1 && x.2.1 != y.2.1 | _, _ => true)
theorem set_comm (cs : Array Value) (a b : Nat) (u v : Value) (h : a ≠ b) : (cs.setIfInBounds a u).setIfInBounds b v = (cs.setIfInBounds b v).setIfInBounds a u := by
  apply Array.ext'
  simp only [Array.toList_setIfInBounds]
  exact List.set_comm _ _ h
theorem filled_swap {L : Nat → Bool} {a : Nat} {v : Value} : ∀ (st : List (Nat × Nat × Value)) (cs : Array Value), (∀ x ∈ st, x.2.1 ≠ a) → filled st L (cs.setIfInBounds a v) = (filled st L cs).setIfInBounds a v
  | [], _, _ => rfl
  | x :: st, cs, h => by
    unfold filled
    rw [List.foldl_cons, List.foldl_cons]
    have ih := fun cs => filled_swap (L := L) (a := a) (v := v) st cs (fun y hy => h y (List.mem_cons_of_mem _ hy))
    unfold filled at ih
    split
    · rw [← ih, set_comm _ _ _ _ _ (fun e => h x (List.mem_cons_self ..) e.symm)]
    · exact ih cs
theorem filled_same {L : Nat → Bool} {i : Nat} : ∀ (st : List (Nat × Nat × Value)) (cs : Array Value), (∀ x ∈ st, x.1 ≠ i) → filled st (also L i) cs = filled st L cs
  | [], _, _ => rfl
  | x :: st, cs, h => by
    have hx : also L i x.1 = L x.1 := by simp [also, h x (List.mem_cons_self ..)]
    have ih := fun cs => filled_same (L := L) (i := i) st cs (fun y hy => h y (List.mem_cons_of_mem _ hy))
    unfold filled at ih ⊢
    rw [List.foldl_cons, List.foldl_cons, hx, ih]
theorem filled_set {L : Nat → Bool} {i a : Nat} {v : Value} (hL : L i = false) : ∀ (st : List (Nat × Nat × Value)) (cs : Array Value) (j : Nat), st[j]? = some (i, a, v) → (∀ k x, st[k]? = some x → k ≠ j → x.1 ≠ i ∧ x.2.1 ≠ a) →
    (filled st L cs).setIfInBounds a v = filled st (also L i) cs
  | [], _, _, h, _ => by simp at h
  | x :: st, cs, 0, h, hd => by
    simp only [List.getElem?_cons_zero, Option.some.injEq] at h
    subst h
    have h1 : ∀ y ∈ st, y.1 ≠ i ∧ y.2.1 ≠ a := by
      intro y hy
      obtain ⟨k, hk⟩ := List.mem_iff_getElem?.1 hy
      exact hd (k + 1) y (by simpa using hk) (by omega)
    have e1 := filled_swap (L := L) (a := a) (v := v) st cs (fun y hy => (h1 y hy).2)
    have e2 := filled_same (L := L) (i := i) st (cs.setIfInBounds a v) (fun y hy => (h1 y hy).1)
    unfold filled at e1 e2 ⊢
    rw [List.foldl_cons, List.foldl_cons]
    simp only [hL, Bool.false_eq_true, if_false]
    rw [if_pos (by simp [also]), e2, e1]
  | x :: st, cs, j + 1, h, hd => by
    have hx := hd 0 x (by simp) (by omega)
    have hal : also L i x.1 = L x.1 := by simp [also, hx.1]
    have ih := fun cs => filled_set hL st cs j (by simpa using h) (fun k y hk hne => hd (k + 1) y (by simpa using hk) (by omega))
    unfold filled at ih ⊢
    rw [List.foldl_cons, List.foldl_cons, hal, ih]
theorem filled_at {st : List (Nat × Nat × Value)} {L : Nat → Bool} {cs : Array Value} {i a : Nat} {v : Value} (j : Nat) (hap : apartB st = true) (h : st[j]? = some (i, a, v)) (hL : L i = false) : (filled st L cs).setIfInBounds a v = filled st (also L i) cs := by
  refine filled_set hL st cs j h fun k x hk hne => ?_
  unfold apartB at hap
  rw [List.all_eq_true] at hap
  have hkl := (List.getElem?_eq_some_iff.1 hk).1
  have hjl := (List.getElem?_eq_some_iff.1 h).1
  have h1 := hap k (List.mem_range.2 hkl)
  rw [List.all_eq_true] at h1
  have h2 := h1 j (List.mem_range.2 hjl)
  rw [hk, h] at h2
  simpa [hne] using h2
theorem filled_other {st : List (Nat × Nat × Value)} {L : Nat → Bool} {cs : Array Value} {i : Nat} (h : (st.all fun x => x.1 != i) = true) : filled st (also L i) cs = filled st L cs :=
  filled_same st cs fun x hx => by
    rw [List.all_eq_true] at h
    simpa using h x hx
theorem filled_ext {ops : Array Oper} {st : List (Nat × Nat × Value)} {L L' : Nat → Bool} (hb : (st.all fun x => decide (x.1 < ops.size)) = true) (h : ∀ j, j < ops.size → L j = L' j) (cs : Array Value) : filled st L cs = filled st L' cs := by
  induction st generalizing cs with
  | nil => rfl
  | cons x st ih =>
    simp only [List.all_cons, Bool.and_eq_true, decide_eq_true_eq] at hb
    have ih' := fun cs => ih hb.2 cs
    unfold filled at ih' ⊢
    rw [List.foldl_cons, List.foldl_cons, h _ hb.1, ih']

theorem filled_size (st : List (Nat × Nat × Value)) (L : Nat → Bool) (cs : Array Value) : (filled st L cs).size = cs.size := by
  induction st generalizing cs with
  | nil => rfl
  | cons x st ih =>
    unfold filled at ih ⊢
    rw [List.foldl_cons, ih]
    split <;> simp
/-- Block g holds what the stores that have come up left of cs. -/
def Stored (g : Nat) (t : TypeId) (st : List (Nat × Nat × Value)) (cs : Array Value) (L : Nat → Bool) (w : World) : Prop := Blk w g t (filled st L cs)
theorem Stored.start {w : World} {g : Nat} {t : TypeId} (st : List (Nat × Nat × Value)) {cs : Array Value} (h : Blk w g t cs) : Stored g t st cs (fun _ => false) w.drew := by
  have : filled st (fun _ => false) cs = cs := by
    induction st generalizing cs with
    | nil => rfl
    | cons x st ih => exact ih h
  unfold Stored
  rw [this]
  exact h
theorem Stored.start0 {w : World} {g : Nat} {t : TypeId} (st : List (Nat × Nat × Value)) {cs : Array Value} (h : Blk w g t cs) : Stored g t st cs (fun _ => false) w := Stored.start st h
theorem Stored.other {w : World} {g : Nat} {t : TypeId} {st : List (Nat × Nat × Value)} {cs : Array Value} {L : Nat → Bool} {i : Nat} (h : Stored g t st cs L w) (hn : (st.all fun x => x.1 != i) = true) : Stored g t st cs (also L i) w := by
  unfold Stored
  rw [filled_other hn]
  exact h
theorem Stored.at_ {w : World} {g : Nat} {t : TypeId} {st : List (Nat × Nat × Value)} {cs : Array Value} {L : Nat → Bool} {i a : Nat} {v : Value} (h : Stored g t st cs L w) (j : Nat) (hap : apartB st = true) (hj : st[j]? = some (i, a, v)) (hL : L i = false) : Stored g t st cs (also L i) (w.setCell ⟨g, a, none⟩ v) := by
  unfold Stored
  rw [← filled_at j hap hj hL]
  exact Blk.set_ h a v
theorem Stored.ext {ops : Array Oper} {w : World} {g : Nat} {t : TypeId} {st : List (Nat × Nat × Value)} {cs : Array Value} {L L' : Nat → Bool} (hb : (st.all fun x => decide (x.1 < ops.size)) = true) (h : ∀ j, j < ops.size → L j = L' j) (hS : Stored g t st cs L w) : Stored g t st cs L' w := by
  unfold Stored
  rw [← filled_ext hb h]
  exact hS
theorem Stored.cell {w : World} {g : Nat} {t : TypeId} {st : List (Nat × Nat × Value)} {cs : Array Value} {L : Nat → Bool} (h : Stored g t st cs L w) (a : Nat) (ha : a < cs.size) : (∃ u, w.cell? ⟨g, a, none⟩ = some u) ∧ w.frozen? ⟨g, a, none⟩ = false := by
  have hs : a < (filled st L cs).size := by rw [filled_size]; exact ha
  exact ⟨⟨_, Blk.cell h a _ (Array.getElem?_eq_getElem hs)⟩, Blk.frozen h a⟩

section
variable {P : Program} {ops : Array Oper} {Q : Exit → Act → World → Prop} {G : World → World → Prop}
def DutyT (P : Program) (ops : Array Oper) (Q : Exit → Act → World → Prop) (l : List (Word G)) (S : (Nat → Bool) → World → Prop) (a0 : Act) (W : World) (i : Nat) (o : Oper) : Prop :=
  ∀ (L : Nat → Bool) (a : Act) (w : World), G W w → S L w → L i = false → (∀ j, ahead ops j i = true → L j = false) → (∀ j, behind ops i j = true → L j = true) → a.tmps.size = a0.tmps.size → (∀ t, oldB ops i t = true → a.tmps.getD t undef = a0.tmps.getD t undef) →
    (∀ j oj d, behind ops i j = true → ops[j]? = some oj → oj.dst = some d → (words l j).p w (a.tmps.getD d undef)) →
    if Region.wanted o (yielded ops a.tmps) = true then o.wp P a w (fun a' w' => ∃ v, a' = a.put o.dst v ∧ (words l i).p w' v ∧ S (also L i) w' ∧ G w w') Q
    else (words l i).p w undef ∧ S (also L i) w
def turned (ops : Array Oper) (l : List (Word G)) (S : (Nat → Bool) → World → Prop) (W : World) : Phases := fun L f w => G W w ∧ S L w ∧ ∀ j, j < ops.size → L j = true → (∃ o d, ops[j]? = some o ∧ o.dst = some d) → (words l j).p w (f j)
theorem turned_step {l : List (Word G)} {S : (Nat → Bool) → World → Prop} {W w w' : World} {L : Nat → Bool} {f : Nat → Value} {i : Nat} {v : Value} (ht : ∀ {a b c}, G a b → G b c → G a c) (h : turned ops l S W L f w) (hs : (words l i).p w' v) (hS : S (also L i) w') (hb : G w w') : turned ops l S W (also L i) (yielding f i v) w' := by
  refine ⟨ht h.1 hb, hS, fun j hj hl hex => ?_⟩
  by_cases e : j = i
  · subst e
    simpa [yielding] using hs
  · have h1 := h.2.2 j hj (by simpa [also, e] using hl) hex
    have := (words l j).st w w' _ h1 hb
    simpa [yielding, e] using this
theorem region_turns {id : Nat} {a0 : Act} {W : World} (l : List (Word G)) (S : (Nat → Bool) → World → Prop) (hr : ∀ w, G w w) (ht : ∀ {a b c}, G a b → G b c → G a c) (hd : ∀ w, G w w.drew)
    (hm : P.follows .mixedOrders = true) (hB : onceB ops = true) (hR : roomB ops a0.tmps.size = true) (hlow : lowB ops = true)
    (hSx : ∀ L L' w, (∀ j, j < ops.size → L j = L' j) → S L w → S L' w) (hS0 : S (fun _ => false) W.drew)
    (duty : ∀ i o, ops[i]? = some o → DutyT P ops Q l S a0 W i o)
    (fin : ∀ a w, G W w → S (fun _ => true) w → a.tmps.size = a0.tmps.size → a.defers = a0.defers → (∀ (j : Nat) (o : Oper) (d : Tmp), ops[j]? = some o → o.dst = some d → (words l j).p w (a.tmps.getD d undef)) →
      (∀ t : Tmp, neverB ops t = true → a.tmps.getD t undef = a0.tmps.getD t undef) → Q .normal a w) :
    (Code.region id ops true).wp P Q a0 W := by
  refine region_phases (fun _ _ => True) (turned ops l S W) hm hB hR hlow ?_ ?_ ?_ ?_
  · intro L L' f f' w hL hf h
    exact ⟨h.1, hSx _ _ _ hL h.2.1, fun j hj hl hex => by rw [← hf j hj (by rw [hL j hj]; exact hl) hex]; exact h.2.2 j hj (by rw [hL j hj]; exact hl) hex⟩
  · exact ⟨hd W, hS0, fun _ _ h => by cases h⟩
  · intro i o ho L a w hph hsz hLi hnot hyes old dep
    have h1 := duty i o ho L a w hph.1 hph.2.1 hLi hnot hyes hsz old (fun j oj d hbd hoj hd => by
      have := hph.2.2 j (Array.getElem?_eq_some_iff.1 hoj).1 (hyes j hbd) ⟨oj, d, hoj, hd⟩
      rwa [got_dst hoj hd] at this)
    split at h1
    · rename_i hw
      rw [if_pos hw]
      refine Oper.wp_mono ?_ h1
      rintro a' w' ⟨v, e, hs, hS, hb⟩
      exact ⟨v, e, trivial, turned_step ht hph hs hS hb⟩
    · rename_i hw
      rw [if_neg hw]
      exact ⟨trivial, turned_step ht hph h1.1 h1.2 (hr w)⟩
  · intro a w hph hsz hdf _ keep
    refine fin a w hph.1 hph.2.1 hsz hdf (fun j o d ho hd => ?_) keep
    have := hph.2.2 j (Array.getElem?_eq_some_iff.1 ho).1 rfl ⟨o, d, ho, hd⟩
    rwa [got_dst ho hd] at this
theorem turn_same {o : Oper} {a : Act} {w : World} {v : Value} {s : Word G} {S : World → Prop} (hr : ∀ w, G w w) (hrun : (execOp a.eval o).run P w = .ok (.value v) w) (hs : s.p w v) (hS : S w) :
    o.wp P a w (fun a' w' => ∃ v, a' = a.put o.dst v ∧ s.p w' v ∧ S w' ∧ G w w') Q := by
  unfold Oper.wp
  rw [hrun]
  exact ⟨v, rfl, hs, hS, hr w⟩
theorem turn_skips {o : Oper} {a : Act} {w w' : World} {s : Word G} {S : World → Prop} (hrun : (execOp a.eval o).run P w = .ok .skip w') (hs : s.p w' undef) (hS : S w') (hb : G w w') :
    o.wp P a w (fun a' w' => ∃ v, a' = a.put o.dst v ∧ s.p w' v ∧ S w' ∧ G w w') Q := by
  unfold Oper.wp
  rw [hrun]
  exact ⟨undef, rfl, hs, hS, hb⟩
theorem turn_yields {o : Oper} {a : Act} {w w' : World} {v : Value} {s : Word G} {S : World → Prop} (hrun : (execOp a.eval o).run P w = .ok (.value v) w') (hs : s.p w' v) (hS : S w') (hb : G w w') :
    o.wp P a w (fun a' w' => ∃ v, a' = a.put o.dst v ∧ s.p w' v ∧ S w' ∧ G w w') Q := by
  unfold Oper.wp
  rw [hrun]
  exact ⟨v, rfl, hs, hS, hb⟩
theorem turn_enters {o : Oper} {a : Act} {w : World} {f : FuncId} {args : Array Value} {s : Word G} {S : World → Prop} (hrun : (execOp a.eval o).run P w = .ok (.enter f args) w)
    (hc : Calls P f args w fun e w' => ∃ v, e = .returned v ∧ s.p w' v ∧ S w' ∧ G w w') :
    o.wp P a w (fun a' w' => ∃ v, a' = a.put o.dst v ∧ s.p w' v ∧ S w' ∧ G w w') Q := by
  unfold Oper.wp
  rw [hrun, Oper.upon_enter]
  refine hc.mono ?_
  rintro e w' ⟨v, rfl, hr⟩
  exact ⟨v, rfl, hr⟩
end
end Go.Proofs.Ytofnldmbokdkbaa
