/-
  'a, b := s.Record(), t.Record()' where both are boxed: a region whose order is drawn, two calls, two allocations, two stores.
-/
import Derived.Test.YtofnldmbokdkbaaHas
namespace Go.Proofs.Ytofnldmbokdkbaa
open Go.RowKit

set_option linter.unusedSimpArgs false
set_option linter.unusedVariables false

/-- The blocks that are stored into. -/
def twoX (L : Nat → Bool) (f : Nat → Value) (k : Nat) : Prop := (L 4 = true ∧ f 4 = .pointer (some ⟨k, 0, none⟩)) ∨ (L 5 = true ∧ f 5 = .pointer (some ⟨k, 0, none⟩))
/-- One call's record. -/
def twoC (r : Rc) (X : Nat → Prop) (w : World) (v : Value) : Prop := ∃ A c, v = .agg #[.int .i64 (r.k : Int), .int .i64 (r.t : Int), .int .i64 (r.p : Int), .int .i64 (r.s : Int), .string r.b, .string r.a, .string r.i, .slice A r.ds.length c] ∧ Away X w (.slice A r.ds.length c) (u64s r.ds)
/-- One block. -/
def twoB (W w : World) (r : Rc) (X : Nat → Prop) (done : Bool) (p : Value) : Prop :=
  ∃ g, p = .pointer (some ⟨g, 0, none⟩) ∧ W.heap.size ≤ g ∧ g < w.heap.size ∧ (done = true → ∃ A c, Blk w g 28 #[.int .i64 (r.k : Int), .int .i64 (r.t : Int), .int .i64 (r.p : Int), .int .i64 (r.s : Int), .string r.b, .string r.a, .string r.i, .slice A r.ds.length c] ∧ Away X w (.slice A r.ds.length c) (u64s r.ds)) ∧ (done = false → Blk w g 28 #[.int .i64 0, .int .i64 0, .int .i64 0, .int .i64 0, .string ⟨#[]⟩, .string ⟨#[]⟩, .string ⟨#[]⟩, .slice none 0 0])
/-- What holds on the way: operations 1, 3 are the calls, 4, 5 the allocations, 6, 7 the stores. -/
structure TwoM (W : World) (r q : Rc) (L : Nat → Bool) (f : Nat → Value) (w : World) : Prop where
  bel : Below W.heap.size W w
  c1 : L 1 = true → twoC r (twoX L f) w (f 1)
  c3 : L 3 = true → twoC q (twoX L f) w (f 3)
  b4 : L 4 = true → twoB W w r (twoX L f) (L 6) (f 4)
  b5 : L 5 = true → twoB W w q (twoX L f) (L 7) (f 5)
  ne : L 4 = true → L 5 = true → f 4 ≠ f 5
theorem twoX_ext {L L' : Nat → Bool} {f f' : Nat → Value} (h4 : L 4 = L' 4) (h5 : L 5 = L' 5) (e4 : L 4 = true → f 4 = f' 4) (e5 : L 5 = true → f 5 = f' 5) : twoX L f = twoX L' f' := by
  funext k
  unfold twoX
  apply propext
  constructor
  · rintro (⟨a, b⟩ | ⟨a, b⟩)
    · exact .inl ⟨by rw [← h4]; exact a, by rw [← e4 a]; exact b⟩
    · exact .inr ⟨by rw [← h5]; exact a, by rw [← e5 a]; exact b⟩
  · rintro (⟨a, b⟩ | ⟨a, b⟩)
    · exact .inl ⟨by rw [h4]; exact a, by rw [e4 (by rw [h4]; exact a)]; exact b⟩
    · exact .inr ⟨by rw [h5]; exact a, by rw [e5 (by rw [h5]; exact a)]; exact b⟩
section
variable {X Y : Nat → Prop} {W w w' : World} {v p : Value} {xs : List Value} {r q : Rc} {L L' : Nat → Bool} {f f' : Nat → Value} {d : Bool}
theorem Away.below (h : Away X w v xs) (hb : Below w.heap.size w w') : Away X w' v xs := h.turns (Turns.of_below hb)
theorem Away.sub (h : Away X w v xs) (hy : ∀ k, k < w.heap.size → Y k → X k) : Away Y w v xs := by
  obtain ⟨A, c, e, hc, h⟩ := h
  exact ⟨A, c, e, hc, fun hn => by obtain ⟨b, o, e, hb, hx, hr⟩ := h hn; exact ⟨b, o, e, hb, fun hyb => hx (hy b hb hyb), hr⟩⟩
theorem Away.one {g : Nat} (h : Away X w v xs) (hb : Turns (· = g) w w') (hg : X g) : Away X w' v xs := by
  obtain ⟨A, c, e, hc, h⟩ := h
  refine ⟨A, c, e, hc, fun hn => ?_⟩
  obtain ⟨b, o, e, hlt, hx, hr⟩ := h hn
  have hne : b ≠ g := fun e => hx (by rw [e]; exact hg)
  exact ⟨b, o, e, Nat.lt_of_lt_of_le hlt hb.size, hx, fun j u hu => (hb.cell (q := ⟨b, o + j, none⟩) hlt hne).trans (hr j u hu)⟩
theorem Away.of_btw {lo hi : Nat} (h : Btw w lo hi v xs) (hh : hi ≤ w.heap.size) (hx : ∀ k, X k → k < lo) : Away X w v xs := by
  obtain ⟨A, c, e, hc, h⟩ := h
  exact ⟨A, c, e, hc, fun hn => by obtain ⟨b, o, e, hl, hb, hr⟩ := h hn; exact ⟨b, o, e, Nat.lt_of_lt_of_le hb hh, fun hxb => by have := hx b hxb; omega, hr⟩⟩
theorem twoC.below (h : twoC r X w v) (hb : Below w.heap.size w w') : twoC r X w' v := by
  obtain ⟨A, c, e, h⟩ := h
  exact ⟨A, c, e, h.below hb⟩
theorem twoC.sub (h : twoC r X w v) (hy : ∀ k, k < w.heap.size → Y k → X k) : twoC r Y w v := by
  obtain ⟨A, c, e, h⟩ := h
  exact ⟨A, c, e, h.sub hy⟩
theorem twoC.one {g : Nat} (h : twoC r X w v) (hb : Turns (· = g) w w') (hg : X g) : twoC r X w' v := by
  obtain ⟨A, c, e, h⟩ := h
  exact ⟨A, c, e, h.one hb hg⟩
theorem twoB.below (h : twoB W w r X d p) (hb : Below w.heap.size w w') : twoB W w' r X d p := by
  obtain ⟨g, e, hg, hl, h1, h2⟩ := h
  exact ⟨g, e, hg, Nat.lt_of_lt_of_le hl hb.size, fun e => by obtain ⟨A, c, h3, h4⟩ := h1 e; exact ⟨A, c, h3.below hb, h4.below hb⟩, fun e => (h2 e).below hb⟩
theorem twoB.sub (h : twoB W w r X d p) (hy : ∀ k, k < w.heap.size → Y k → X k) : twoB W w r Y d p := by
  obtain ⟨g, e, hg, hl, h1, h2⟩ := h
  exact ⟨g, e, hg, hl, fun e => by obtain ⟨A, c, h3, h4⟩ := h1 e; exact ⟨A, c, h3, h4.sub hy⟩, h2⟩
theorem twoB.one {k : Nat} (h : twoB W w r X d p) (hb : Turns (· = k) w w') (hk : X k) (hp : p ≠ .pointer (some ⟨k, 0, none⟩)) : twoB W w' r X d p := by
  obtain ⟨g, e, hg, hl, h1, h2⟩ := h
  have hne : g ≠ k := fun e2 => hp (by rw [e, e2])
  exact ⟨g, e, hg, Nat.lt_of_lt_of_le hl hb.size, fun e => by obtain ⟨A, c, h3, h4⟩ := h1 e; exact ⟨A, c, hb.blk h3 hne, h4.one hb hk⟩, fun e => hb.blk (h2 e) hne⟩
theorem twoB.lt {k : Nat} (h : twoB W w r X d (.pointer (some ⟨k, 0, none⟩))) : k < w.heap.size := by
  obtain ⟨g, e, hg, h, _⟩ := h
  injection e with e
  injection e with e
  injection e with e
  subst e
  exact h
theorem TwoM.lt (h : TwoM W r q L f w) {k : Nat} (hk : twoX L f k) : k < w.heap.size := by
  rcases hk with ⟨a, b⟩ | ⟨a, b⟩
  · have := h.b4 a; rw [b] at this; exact this.lt
  · have := h.b5 a; rw [b] at this; exact this.lt
theorem TwoM.same (h : TwoM W r q L f w) (h1 : L 1 = L' 1) (h3 : L 3 = L' 3) (h4 : L 4 = L' 4) (h5 : L 5 = L' 5) (h6 : L 6 = L' 6) (h7 : L 7 = L' 7)
    (e1 : L 1 = true → f 1 = f' 1) (e3 : L 3 = true → f 3 = f' 3) (e4 : L 4 = true → f 4 = f' 4) (e5 : L 5 = true → f 5 = f' 5) : TwoM W r q L' f' w := by
  have eX := twoX_ext h4 h5 e4 e5
  refine ⟨h.bel, fun a => ?_, fun a => ?_, fun a => ?_, fun a => ?_, fun a b => ?_⟩
  · rw [← h1] at a; rw [← eX, ← e1 a]; exact h.c1 a
  · rw [← h3] at a; rw [← eX, ← e3 a]; exact h.c3 a
  · rw [← h4] at a; rw [← eX, ← e4 a, ← h6]; exact h.b4 a
  · rw [← h5] at a; rw [← eX, ← e5 a, ← h7]; exact h.b5 a
  · rw [← h4] at a; rw [← h5] at b; rw [← e4 a, ← e5 b]; exact h.ne a b
theorem TwoM.ext {ops : Array Oper} (hd : ∀ j, (j = 1 ∨ j = 3 ∨ j = 4 ∨ j = 5) → j < ops.size ∧ ∃ o d, ops[j]? = some o ∧ o.dst = some d) (hs : 7 < ops.size) (L L' : Nat → Bool) (f f' : Nat → Value) (w : World) (hL : ∀ j, j < ops.size → L j = L' j)
    (hf : ∀ j, j < ops.size → L j = true → (∃ o d, ops[j]? = some o ∧ o.dst = some d) → f j = f' j) (h : TwoM W r q L f w) : TwoM W r q L' f' w := by
  obtain ⟨s1, d1⟩ := hd 1 (by omega)
  obtain ⟨s3, d3⟩ := hd 3 (by omega)
  obtain ⟨s4, d4⟩ := hd 4 (by omega)
  obtain ⟨s5, d5⟩ := hd 5 (by omega)
  exact h.same (hL 1 s1) (hL 3 s3) (hL 4 s4) (hL 5 s5) (hL 6 (by omega)) (hL 7 hs) (fun a => hf 1 s1 a d1) (fun a => hf 3 s3 a d3) (fun a => hf 4 s4 a d4) (fun a => hf 5 s5 a d5)
theorem TwoM.start (hb : Below W.heap.size W w) : TwoM W r q (fun _ => false) f w := ⟨hb, fun h => (by cases h), fun h => (by cases h), fun h => (by cases h), fun h => (by cases h), fun h => (by cases h)⟩
/-- An operation that only reads. -/
theorem TwoM.quiet {i : Nat} (h : TwoM W r q L f w) (h1 : 1 ≠ i) (h3 : 3 ≠ i) (h4 : 4 ≠ i) (h5 : 5 ≠ i) (h6 : 6 ≠ i) (h7 : 7 ≠ i) : TwoM W r q (also L i) (yielding f i v) w :=
  h.same (by simp [also, h1]) (by simp [also, h3]) (by simp [also, h4]) (by simp [also, h5]) (by simp [also, h6]) (by simp [also, h7]) (fun _ => by simp [yielding, h1]) (fun _ => by simp [yielding, h3]) (fun _ => by simp [yielding, h4]) (fun _ => by simp [yielding, h5])
/-- Call 1. -/
theorem TwoM.call1 (h : TwoM W r q L f w) (hb : Below w.heap.size w w') {A : Option Addr} {c : Nat} (hv : v = .agg #[.int .i64 (r.k : Int), .int .i64 (r.t : Int), .int .i64 (r.p : Int), .int .i64 (r.s : Int), .string r.b, .string r.a, .string r.i, .slice A r.ds.length c]) (hd : Btw w' w.heap.size w'.heap.size (.slice A r.ds.length c) (u64s r.ds)) : TwoM W r q (also L 1) (yielding f 1 v) w' := by
  have eX : twoX (also L 1) (yielding f 1 v) = twoX L f := twoX_ext (by simp [also]) (by simp [also]) (fun _ => by simp [yielding]) (fun _ => by simp [yielding])
  have k3 : also L 1 3 = L 3 := by simp [also]
  have k4 : also L 1 4 = L 4 := by simp [also]
  have k5 : also L 1 5 = L 5 := by simp [also]
  have k6 : also L 1 6 = L 6 := by simp [also]
  have k7 : also L 1 7 = L 7 := by simp [also]
  refine { bel := h.bel.trans (hb.mono h.bel.size), c1 := ?h1, c3 := ?h3, b4 := ?h4, b5 := ?h5, ne := ?h6 }
  case h1 =>
    intro _
    rw [eX]
    exact ⟨A, c, by simpa [yielding] using hv, Away.of_btw hd (Nat.le_refl _) (fun k hk => h.lt hk)⟩
  case h3 => intro a; rw [k3] at a; rw [eX]; simpa [yielding] using (h.c3 a).below hb
  case h4 => intro a; rw [k4] at a; rw [eX, k6]; simpa [yielding] using (h.b4 a).below hb
  case h5 => intro a; rw [k5] at a; rw [eX, k7]; simpa [yielding] using (h.b5 a).below hb
  case h6 => intro a b; rw [k4] at a; rw [k5] at b; simpa [yielding] using h.ne a b
/-- Allocation 4. -/
theorem TwoM.alloc4 (h : TwoM W r q L f w) (h6 : L 6 = false) : TwoM W r q (also L 4) (yielding f 4 (.pointer (some ⟨w.heap.size, 0, none⟩))) (w.alloc (.cells #[.int .i64 0, .int .i64 0, .int .i64 0, .int .i64 0, .string ⟨#[]⟩, .string ⟨#[]⟩, .string ⟨#[]⟩, .slice none 0 0] 28)) := by
  have hb : Below w.heap.size w (w.alloc (.cells #[.int .i64 0, .int .i64 0, .int .i64 0, .int .i64 0, .string ⟨#[]⟩, .string ⟨#[]⟩, .string ⟨#[]⟩, .slice none 0 0] 28)) := (Below.refl _ _).alloc (Nat.le_refl _) _
  have k1 : also L 4 1 = L 1 := by simp [also]
  have k3 : also L 4 3 = L 3 := by simp [also]
  have k5 : also L 4 5 = L 5 := by simp [also]
  have k6 : also L 4 6 = L 6 := by simp [also]
  have k7 : also L 4 7 = L 7 := by simp [also]
  have hy : ∀ k, k < w.heap.size → twoX (also L 4) (yielding f 4 (.pointer (some ⟨w.heap.size, 0, none⟩))) k → twoX L f k := by
    intro k hk hx
    unfold twoX at hx ⊢
    rcases hx with ⟨a, b⟩ | ⟨a, b⟩
    · first
        | (exfalso; simp [yielding] at b <;> omega)
        | (rw [show also L 4 4 = L 4 by simp [also]] at a; exact .inl ⟨a, by simpa [yielding] using b⟩)
    · first
        | (exfalso; simp [yielding] at b <;> omega)
        | (rw [show also L 4 5 = L 5 by simp [also]] at a; exact .inr ⟨a, by simpa [yielding] using b⟩)
  refine { bel := h.bel.trans (hb.mono h.bel.size), c1 := ?h1, c3 := ?h3, b4 := ?h4, b5 := ?h5, ne := ?h6 }
  case h1 => intro a; rw [k1] at a; simpa [yielding] using ((h.c1 a).sub hy).below hb
  case h3 => intro a; rw [k3] at a; simpa [yielding] using ((h.c3 a).sub hy).below hb
  case h4 =>
    intro a
    rw [k6, h6]
    exact ⟨w.heap.size, by simp [yielding], h.bel.size, by simp, fun e => (by cases e), fun _ => heap_new w _⟩
  case h5 => intro a; rw [k5] at a; rw [k7]; simpa [yielding] using ((h.b5 a).sub hy).below hb
  case h6 =>
    intro a b e
    first
      | (rw [show also L 4 5 = L 5 by simp [also]] at b
         have h5 := h.b5 b
         have e2 : f 5 = .pointer (some ⟨w.heap.size, 0, none⟩) := by simpa [yielding] using e.symm
         rw [e2] at h5
         have := h5.lt
         omega)
      | (rw [show also L 4 4 = L 4 by simp [also]] at a
         have h4 := h.b4 a
         have e2 : f 4 = .pointer (some ⟨w.heap.size, 0, none⟩) := by simpa [yielding] using e
         rw [e2] at h4
         have := h4.lt
         omega)
/-- Store 6. -/
theorem TwoM.store6 {g : Nat} (h : TwoM W r q L f w) (hL1 : L 1 = true) (hL4 : L 4 = true) (h6 : L 6 = false) (hg : f 4 = .pointer (some ⟨g, 0, none⟩)) {A : Option Addr} {c : Nat} (hv : f 1 = .agg #[.int .i64 (r.k : Int), .int .i64 (r.t : Int), .int .i64 (r.p : Int), .int .i64 (r.s : Int), .string r.b, .string r.a, .string r.i, .slice A r.ds.length c]) (hB : Blk w' g 28 #[.int .i64 (r.k : Int), .int .i64 (r.t : Int), .int .i64 (r.p : Int), .int .i64 (r.s : Int), .string r.b, .string r.a, .string r.i, .slice A r.ds.length c]) (ht : Turns (· = g) w w') : TwoM W r q (also L 6) (yielding f 6 undef) w' := by
  have eX : twoX (also L 6) (yielding f 6 undef) = twoX L f := twoX_ext (by simp [also]) (by simp [also]) (fun _ => by simp [yielding]) (fun _ => by simp [yielding])
  have k1 : also L 6 1 = L 1 := by simp [also]
  have k3 : also L 6 3 = L 3 := by simp [also]
  have k4 : also L 6 4 = L 4 := by simp [also]
  have k5 : also L 6 5 = L 5 := by simp [also]
  have k7 : also L 6 7 = L 7 := by simp [also]
  have k6 : also L 6 6 = true := by simp [also]
  have hX : twoX L f g := by unfold twoX; first | exact .inl ⟨hL4, hg⟩ | exact .inr ⟨hL4, hg⟩
  have hgW : W.heap.size ≤ g ∧ g < w.heap.size := by
    obtain ⟨g', e, h1, h2, _⟩ := h.b4 hL4
    rw [hg] at e
    injection e with e
    injection e with e
    injection e with e
    subst e
    exact ⟨h1, h2⟩
  refine { bel := h.bel.trans (ht.below h.bel.size (by rintro k rfl; exact hgW.1)), c1 := ?h1, c3 := ?h3, b4 := ?h4, b5 := ?h5, ne := ?h6 }
  case h1 => intro a; rw [k1] at a; rw [eX]; simpa [yielding] using (h.c1 a).one ht hX
  case h3 => intro a; rw [k3] at a; rw [eX]; simpa [yielding] using (h.c3 a).one ht hX
  case h4 =>
    intro a
    rw [eX, k6]
    obtain ⟨A', c', e, hA⟩ := h.c1 hL1
    rw [hv] at e
    injection e with e
    have e7 := congrArg (fun (a : Array Value) => a.toList[7]?) e
    simp at e7
    obtain ⟨rfl, rfl⟩ := e7
    exact ⟨g, by simpa [yielding] using hg, hgW.1, Nat.lt_of_lt_of_le hgW.2 ht.size, fun _ => ⟨A, c, hB, hA.one ht hX⟩, fun e => (by cases e)⟩
  case h5 =>
    intro a
    rw [k5] at a; rw [eX, k7]
    have := (h.b5 a).one ht hX (fun e => by
      first
        | exact h.ne hL4 a (hg.trans e.symm)
        | exact h.ne a hL4 (e.trans hg.symm))
    simpa [yielding] using this
  case h6 => intro a b; rw [k4] at a; rw [k5] at b; simpa [yielding] using h.ne a b
/-- Call 3. -/
theorem TwoM.call3 (h : TwoM W r q L f w) (hb : Below w.heap.size w w') {A : Option Addr} {c : Nat} (hv : v = .agg #[.int .i64 (q.k : Int), .int .i64 (q.t : Int), .int .i64 (q.p : Int), .int .i64 (q.s : Int), .string q.b, .string q.a, .string q.i, .slice A q.ds.length c]) (hd : Btw w' w.heap.size w'.heap.size (.slice A q.ds.length c) (u64s q.ds)) : TwoM W r q (also L 3) (yielding f 3 v) w' := by
  have eX : twoX (also L 3) (yielding f 3 v) = twoX L f := twoX_ext (by simp [also]) (by simp [also]) (fun _ => by simp [yielding]) (fun _ => by simp [yielding])
  have k3 : also L 3 1 = L 1 := by simp [also]
  have k4 : also L 3 4 = L 4 := by simp [also]
  have k5 : also L 3 5 = L 5 := by simp [also]
  have k6 : also L 3 6 = L 6 := by simp [also]
  have k7 : also L 3 7 = L 7 := by simp [also]
  refine { bel := h.bel.trans (hb.mono h.bel.size), c1 := ?h1, c3 := ?h3, b4 := ?h4, b5 := ?h5, ne := ?h6 }
  case h3 =>
    intro _
    rw [eX]
    exact ⟨A, c, by simpa [yielding] using hv, Away.of_btw hd (Nat.le_refl _) (fun k hk => h.lt hk)⟩
  case h1 => intro a; rw [k3] at a; rw [eX]; simpa [yielding] using (h.c1 a).below hb
  case h4 => intro a; rw [k4] at a; rw [eX, k6]; simpa [yielding] using (h.b4 a).below hb
  case h5 => intro a; rw [k5] at a; rw [eX, k7]; simpa [yielding] using (h.b5 a).below hb
  case h6 => intro a b; rw [k4] at a; rw [k5] at b; simpa [yielding] using h.ne a b
/-- Allocation 5. -/
theorem TwoM.alloc5 (h : TwoM W r q L f w) (h6 : L 7 = false) : TwoM W r q (also L 5) (yielding f 5 (.pointer (some ⟨w.heap.size, 0, none⟩))) (w.alloc (.cells #[.int .i64 0, .int .i64 0, .int .i64 0, .int .i64 0, .string ⟨#[]⟩, .string ⟨#[]⟩, .string ⟨#[]⟩, .slice none 0 0] 28)) := by
  have hb : Below w.heap.size w (w.alloc (.cells #[.int .i64 0, .int .i64 0, .int .i64 0, .int .i64 0, .string ⟨#[]⟩, .string ⟨#[]⟩, .string ⟨#[]⟩, .slice none 0 0] 28)) := (Below.refl _ _).alloc (Nat.le_refl _) _
  have k1 : also L 5 1 = L 1 := by simp [also]
  have k3 : also L 5 3 = L 3 := by simp [also]
  have k5 : also L 5 4 = L 4 := by simp [also]
  have k6 : also L 5 7 = L 7 := by simp [also]
  have k7 : also L 5 6 = L 6 := by simp [also]
  have hy : ∀ k, k < w.heap.size → twoX (also L 5) (yielding f 5 (.pointer (some ⟨w.heap.size, 0, none⟩))) k → twoX L f k := by
    intro k hk hx
    unfold twoX at hx ⊢
    rcases hx with ⟨a, b⟩ | ⟨a, b⟩
    · first
        | (exfalso; simp [yielding] at b <;> omega)
        | (rw [show also L 5 4 = L 4 by simp [also]] at a; exact .inl ⟨a, by simpa [yielding] using b⟩)
    · first
        | (exfalso; simp [yielding] at b <;> omega)
        | (rw [show also L 5 5 = L 5 by simp [also]] at a; exact .inr ⟨a, by simpa [yielding] using b⟩)
  refine { bel := h.bel.trans (hb.mono h.bel.size), c1 := ?h1, c3 := ?h3, b4 := ?h4, b5 := ?h5, ne := ?h6 }
  case h1 => intro a; rw [k1] at a; simpa [yielding] using ((h.c1 a).sub hy).below hb
  case h3 => intro a; rw [k3] at a; simpa [yielding] using ((h.c3 a).sub hy).below hb
  case h5 =>
    intro a
    rw [k6, h6]
    exact ⟨w.heap.size, by simp [yielding], h.bel.size, by simp, fun e => (by cases e), fun _ => heap_new w _⟩
  case h4 => intro a; rw [k5] at a; rw [k7]; simpa [yielding] using ((h.b4 a).sub hy).below hb
  case h6 =>
    intro a b e
    first
      | (rw [show also L 5 5 = L 5 by simp [also]] at b
         have h5 := h.b5 b
         have e2 : f 5 = .pointer (some ⟨w.heap.size, 0, none⟩) := by simpa [yielding] using e.symm
         rw [e2] at h5
         have := h5.lt
         omega)
      | (rw [show also L 5 4 = L 4 by simp [also]] at a
         have h4 := h.b4 a
         have e2 : f 4 = .pointer (some ⟨w.heap.size, 0, none⟩) := by simpa [yielding] using e
         rw [e2] at h4
         have := h4.lt
         omega)
/-- Store 7. -/
theorem TwoM.store7 {g : Nat} (h : TwoM W r q L f w) (hL1 : L 3 = true) (hL4 : L 5 = true) (h6 : L 7 = false) (hg : f 5 = .pointer (some ⟨g, 0, none⟩)) {A : Option Addr} {c : Nat} (hv : f 3 = .agg #[.int .i64 (q.k : Int), .int .i64 (q.t : Int), .int .i64 (q.p : Int), .int .i64 (q.s : Int), .string q.b, .string q.a, .string q.i, .slice A q.ds.length c]) (hB : Blk w' g 28 #[.int .i64 (q.k : Int), .int .i64 (q.t : Int), .int .i64 (q.p : Int), .int .i64 (q.s : Int), .string q.b, .string q.a, .string q.i, .slice A q.ds.length c]) (ht : Turns (· = g) w w') : TwoM W r q (also L 7) (yielding f 7 undef) w' := by
  have eX : twoX (also L 7) (yielding f 7 undef) = twoX L f := twoX_ext (by simp [also]) (by simp [also]) (fun _ => by simp [yielding]) (fun _ => by simp [yielding])
  have k1 : also L 7 1 = L 1 := by simp [also]
  have k3 : also L 7 3 = L 3 := by simp [also]
  have k4 : also L 7 4 = L 4 := by simp [also]
  have k5 : also L 7 5 = L 5 := by simp [also]
  have k7 : also L 7 6 = L 6 := by simp [also]
  have k6 : also L 7 7 = true := by simp [also]
  have hX : twoX L f g := by unfold twoX; first | exact .inl ⟨hL4, hg⟩ | exact .inr ⟨hL4, hg⟩
  have hgW : W.heap.size ≤ g ∧ g < w.heap.size := by
    obtain ⟨g', e, h1, h2, _⟩ := h.b5 hL4
    rw [hg] at e
    injection e with e
    injection e with e
    injection e with e
    subst e
    exact ⟨h1, h2⟩
  refine { bel := h.bel.trans (ht.below h.bel.size (by rintro k rfl; exact hgW.1)), c1 := ?h1, c3 := ?h3, b4 := ?h4, b5 := ?h5, ne := ?h6 }
  case h1 => intro a; rw [k1] at a; rw [eX]; simpa [yielding] using (h.c1 a).one ht hX
  case h3 => intro a; rw [k3] at a; rw [eX]; simpa [yielding] using (h.c3 a).one ht hX
  case h5 =>
    intro a
    rw [eX, k6]
    obtain ⟨A', c', e, hA⟩ := h.c3 hL1
    rw [hv] at e
    injection e with e
    have e7 := congrArg (fun (a : Array Value) => a.toList[7]?) e
    simp at e7
    obtain ⟨rfl, rfl⟩ := e7
    exact ⟨g, by simpa [yielding] using hg, hgW.1, Nat.lt_of_lt_of_le hgW.2 ht.size, fun _ => ⟨A, c, hB, hA.one ht hX⟩, fun e => (by cases e)⟩
  case h4 =>
    intro a
    rw [k4] at a; rw [eX, k7]
    have := (h.b4 a).one ht hX (fun e => by
      first
        | exact h.ne hL4 a (hg.trans e.symm)
        | exact h.ne a hL4 (e.trans hg.symm))
    simpa [yielding] using this
  case h6 => intro a b; rw [k4] at a; rw [k5] at b; simpa [yielding] using h.ne a b
end
/-- Two seeds in boxes, the first blocks of the walk's own. -/
structure Sb2 (w0 w : World) (x y : SeedD) (A : Option Addr) (n c : Nat) (B : Option Addr) (m d : Nat) : Prop where
  bel : Below w0.heap.size w0 w
  bx : Blk w w0.heap.size 24 #[.int .i64 x.k, .int .i64 x.t, .int .i64 x.p, .int .i64 x.s, .int .u8 (x.b.toNat : Int), .int .u8 (x.a.toNat : Int), .int .u8 (x.i.toNat : Int), .slice A n c]
  by_ : Blk w (w0.heap.size + 1) 24 #[.int .i64 y.k, .int .i64 y.t, .int .i64 y.p, .int .i64 y.s, .int .u8 (y.b.toNat : Int), .int .u8 (y.a.toNat : Int), .int .u8 (y.i.toNat : Int), .slice B m d]
  rx : Row w w0.heap.size (.slice A n c) (u64s x.ds)
  ry : Row w w0.heap.size (.slice B m d) (u64s y.ds)
section
variable {w0 w w' : World} {x y : SeedD} {A B : Option Addr} {n c m d : Nat}
theorem Sb2.new_ (hx : Row w w.heap.size (.slice A n c) (u64s x.ds)) (hy : Row w w.heap.size (.slice B m d) (u64s y.ds)) : Sb2 w ((w.alloc (.cells #[.int .i64 x.k, .int .i64 x.t, .int .i64 x.p, .int .i64 x.s, .int .u8 (x.b.toNat : Int), .int .u8 (x.a.toNat : Int), .int .u8 (x.i.toNat : Int), .slice A n c] 24)).alloc (.cells #[.int .i64 y.k, .int .i64 y.t, .int .i64 y.p, .int .i64 y.s, .int .u8 (y.b.toNat : Int), .int .u8 (y.a.toNat : Int), .int .u8 (y.i.toNat : Int), .slice B m d] 24)) x y A n c B m d :=
  ⟨((Below.refl _ _).alloc (Nat.le_refl _) _).alloc (by simp) _, Blk.alloc (heap_new w _) _, heap_at _ _ (by simp), (hx.alloc (Nat.le_refl _) _).alloc (by simp) _, (hy.alloc (Nat.le_refl _) _).alloc (by simp) _⟩
theorem Sb2.below (h : Sb2 w0 w x y A n c B m d) (hb : Below w.heap.size w w') : Sb2 w0 w' x y A n c B m d :=
  ⟨h.bel.trans (hb.mono h.bel.size), h.bx.below hb, h.by_.below hb, h.rx.below (hb.mono h.bel.size), h.ry.below (hb.mono h.bel.size)⟩
theorem Sb2.rdx (h : Sb2 w0 w x y A n c B m d) : Rd w (.slice A n c) (u64s x.ds) := h.rx.more h.bel.size
theorem Sb2.rdy (h : Sb2 w0 w x y A n c B m d) : Rd w (.slice B m d) (u64s y.ds) := h.ry.more h.bel.size
theorem blk8c {w : World} {g : Nat} {t : TypeId} {x0 x1 x2 x3 x4 x5 x6 x7 : Value} (h : Blk w g t #[x0, x1, x2, x3, x4, x5, x6, x7]) : w.cell? ⟨g, 0, none⟩ = some x0 ∧ w.cell? ⟨g, 1, none⟩ = some x1 ∧ w.cell? ⟨g, 2, none⟩ = some x2 ∧ w.cell? ⟨g, 3, none⟩ = some x3 ∧
    w.cell? ⟨g, 4, none⟩ = some x4 ∧ w.cell? ⟨g, 5, none⟩ = some x5 ∧ w.cell? ⟨g, 6, none⟩ = some x6 ∧ w.cell? ⟨g, 7, none⟩ = some x7 :=
  ⟨h.cell 0 _ rfl, h.cell 1 _ rfl, h.cell 2 _ rfl, h.cell 3 _ rfl, h.cell 4 _ rfl, h.cell 5 _ rfl, h.cell 6 _ rfl, h.cell 7 _ rfl⟩
end
/-- Frames are the same just if records are. -/
theorem frames_same {r q : Rc} (hr : r.Ok) (hq : q.Ok) : (r.frame == q.frame) = sameB r q := by
  rw [Bool.eq_iff_iff, beq_iff_eq, sameB_iff]
  constructor
  · intro e
    exact frame_inj hr hq (l := []) (m := []) (by rw [e])
  · rintro rfl; rfl
theorem enc_grow {r : Rc} {A : Option Addr} {c : Nat} (w : World) (h : r.Ok) (hv : Rd w (.slice A r.ds.length c) (u64s r.ds)) :
    Calls Try.prog 12 #[.agg #[.int .i64 (r.k : Int), .int .i64 (r.t : Int), .int .i64 (r.p : Int), .int .i64 (r.s : Int), .string r.b, .string r.a, .string r.i, .slice A r.ds.length c]] w fun e w' => ∃ v, e = .returned v ∧ (Say.rd r.frame.length r.frame).p w' v ∧ Below w.heap.size w w' := by
  refine (enc_told r A c w h hv).mono ?_
  rintro e w' ⟨A', c', rfl, hm, hb⟩
  exact ⟨_, rfl, ⟨A', c', rfl, hm.rd⟩, hb⟩
/-- Unlike records: none's frame begins the other's. -/
theorem frames_apart {r q : Rc} (hr : r.Ok) (hq : q.Ok) (h : sameB r q = false) {k : Nat} (hk : k = min r.frame.length q.frame.length) : r.frame.take k ≠ q.frame.take k := by
  intro e
  have hne : r ≠ q := fun e => by rw [(sameB_iff r q).2 e] at h; cases h
  rcases Nat.le_total r.frame.length q.frame.length with hl | hl
  · rw [Nat.min_eq_left hl] at hk
    subst hk
    rw [List.take_length] at e
    refine hne (frame_inj hr hq (l := q.frame.drop r.frame.length) (m := []) ?_)
    rw [List.append_nil]
    have := List.take_append_drop r.frame.length q.frame
    rw [← e] at this
    exact this
  · rw [Nat.min_eq_right hl] at hk
    subst hk
    rw [List.take_length] at e
    refine hne (frame_inj hr hq (l := []) (m := r.frame.drop q.frame.length) ?_)
    rw [List.append_nil]
    have := List.take_append_drop q.frame.length r.frame
    rw [e] at this
    exact this.symm
end Go.Proofs.Ytofnldmbokdkbaa
