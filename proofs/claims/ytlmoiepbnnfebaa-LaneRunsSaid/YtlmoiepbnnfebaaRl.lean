/-
  LaneRuns: what holds between two steps of a round, and what the calls make of it.
-/
import Derived.Test.YtlmoiepbnnfebaaRs
import Derived.Test.YtlmoiepbnnfebaaDeed
namespace Go.Proofs.Ytlmoiepbnnfebaa
open Go.RowKit
set_option maxRecDepth 20000
set_option linter.unusedSimpArgs false
set_option linter.unusedVariables false

/-- Between two steps: the lane lives; 'all' tells its records, s of them sure; the deed lies boxed. -/
structure Rs (wi w : World) (X : Nat → Prop) (dg gx bx q gen : Nat) (allv : Value) (all : List Rc) (s : Nat) (DC : Array Value) : Prop where
  live : Live w X dg gx 0 538 (3000 * q) gen false all s
  gens : gen ≤ q + 1
  few : all.length ≤ q + 8
  recs : RecsAt w X allv all
  box : Blk w bx 39 DC
  has : X bx
  base : ∀ k, k < wi.heap.size → X k
  bel : Below wi.heap.size wi w
/-- Behind the deed: the lane lives, or its region is down (dn), perhaps in an Anew (an). -/
structure Af (wi w : World) (X : Nat → Prop) (dg gx bx q gen : Nat) (allv : Value) (all : List Rc) (s : Nat) (DC : Array Value) (dn an : Bool) (ov : Value) (other : Option (List Rc)) : Prop where
  live : dn = false → Live w X dg gx 0 538 (3000 * q) gen false all s
  brok : dn = true → Brok w X dg gx 0 538 (3000 * q) gen all s other
  oth : an = true → ∃ o, other = some o ∧ o.length ≤ 8 ∧ RecsAt w X ov o
  non : an = false → other = none
  none_ : dn = false → an = false
  xlt : ∀ k, X k → k < w.heap.size
  gens : gen ≤ q + 1
  few : all.length ≤ q + 8
  recs : RecsAt w X allv all
  box : Blk w bx 39 DC
  has : X bx
  base : ∀ k, k < wi.heap.size → X k
  bel : Below wi.heap.size wi w
section
variable {wi w w' : World} {X Y : Nat → Prop} {dg gx gx' bx q gen gen' s s' k k' n : Nat} {allv allv' ov : Value} {all all' : List Rc} {DC : Array Value} {dn an : Bool} {other : Option (List Rc)}
theorem Brok.below (h : Brok w X dg gx 0 n k gen all s other) (hb : Below w.heap.size w w') : Brok w' X dg gx 0 n k gen all s other := by
  obtain ⟨d, l, kv, gr, h1, h2⟩ := h
  exact ⟨d, l, kv, gr, h1.below hb, h2⟩
theorem Brok.upto (h : Brok w X dg gx 0 n k gen all s other) (hk : k ≤ k') : Brok w X dg gx 0 n k' gen all s other := by
  obtain ⟨d, l, kv, gr, h1, h2, h3⟩ := h
  exact ⟨d, l, kv, gr, h1, h2.more hk, h3⟩
theorem Brok.more (h : Brok w X dg gx 0 n k gen all s other) (hb : Below w.heap.size w w') (hY : ∀ k, Y k → X k ∨ (w.heap.size ≤ k ∧ k < w'.heap.size)) : Brok w' Y dg gx 0 n k gen all s other := by
  obtain ⟨d, l, kv, gr, h1, h2⟩ := h
  exact ⟨d, l, kv, gr, h1.more hb hY, h2⟩
theorem Brok.xlt (h : Brok w X dg gx 0 n k gen all s other) : ∀ k, X k → k < w.heap.size := by
  obtain ⟨d, l, kv, gr, h1, _⟩ := h
  exact fun k hk => h1.many.1 k (.inl hk)
theorem Brok.ok (h : Brok w X dg gx 0 n k gen all s other) : ∀ r ∈ all, r.Ok := by
  obtain ⟨_, _, _, _, _, _, _, _, _, _, _, h8, _⟩ := h
  exact h8
theorem Brok.sle (h : Brok w X dg gx 0 n k gen all s other) : s ≤ all.length := by
  obtain ⟨_, _, _, _, _, _, _, _, _, _, _, _, h9, _⟩ := h
  exact h9
theorem bk_len (h : Brok w X dg gx 0 n k gen all s other) : Calls Try.prog 26 #[.pointer (some ⟨gx, 0, none⟩)] w fun e w' => e = .returned (.int .i64 ((frsR all).length : Int)) ∧ Below w.heap.size w w' := by
  obtain ⟨d, l, kv, gr, h1, h2, h3, h4, h5, h6, h7, _⟩ := h
  rw [← h6]
  exact len_ln h1 h7
theorem bk_room (h : Brok w X dg gx 0 n k gen all s other) : Calls Try.prog 27 #[.pointer (some ⟨gx, 0, none⟩)] w fun e w' => e = .returned (.int .i64 ((14336 - (frsR all).length : Nat) : Int)) ∧ Below w.heap.size w w' := by
  obtain ⟨d, l, kv, gr, h1, h2, h3, h4, h5, h6, h7, _⟩ := h
  rw [← h6]
  exact room_ln h1 h7
theorem Brok.most (h : Brok w X dg gx 0 n k gen all s other) : (frsR all).length ≤ 14336 := by
  obtain ⟨d, l, kv, gr, h1, h2, h3, h4, h5, h6, h7, _⟩ := h
  omega
/-- Arm, of a region that is down. -/
theorem bk_arm (h : Brok w X dg gx 0 n k gen all s other) : Calls Try.prog 25 #[.pointer (some ⟨dg, 0, none⟩), .int .i64 0, .int .i64 0] w fun e w' => e = .returned (.tuple #[]) ∧ Brok w' X dg gx 0 n k gen all s other ∧ Out X w w' := by
  obtain ⟨d, l, kv, gr, h1, h2, h4, hr0, h5, h6, h7, h8, h9, h10⟩ := h
  have hr : 0 < d.regs.length := (List.getElem?_eq_some_iff.1 h2.at_).1
  have hat : d.at? 0 = some gr := (at_nat d 0).trans h2.at_
  have har : d.ar 0 0 = ⟨d.size, d.regs.set 0 (gr.arm 0), d.writes⟩ := by
    unfold Ds.ar
    rw [hat]
    rfl
  refine (arm_many (i := 0) h1.many rfl 0 0).mono ?_
  rintro e w' ⟨rfl, hm, ho⟩
  have hd' : DIs (d.ar 0 0) 0 (gr.arm 0) k := by
    have hsm := h2.small.ar 0 0 (by omega)
    rw [har] at hsm ⊢
    exact ⟨by show (d.regs.set 0 _)[0]? = _; rw [List.getElem?_set_self hr], h2.size, h2.fit.arm 0, hsm⟩
  exact ⟨rfl, ⟨_, l, kv, gr.arm 0, h1.turned hm ho, hd', h4, hr0, by rw [har]; exact h5, h6, h7, h8, h9, fun m => h10 m⟩, ho.less (fun _ h => .inl h)⟩
theorem Rs.xlt (h : Rs wi w X dg gx bx q gen allv all s DC) : ∀ k, X k → k < w.heap.size := h.live.xlt
theorem Rs.below (h : Rs wi w X dg gx bx q gen allv all s DC) (hb : Below w.heap.size w w') : Rs wi w' X dg gx bx q gen allv all s DC :=
  ⟨h.live.below hb, h.gens, h.few, h.recs.below hb, h.box.below hb, h.has, h.base, h.bel.trans (hb.mono h.bel.size)⟩
theorem Rs.ext (h : Rs wi w X dg gx bx q gen allv all s DC) (hb : Below w.heap.size w w') : Rs wi w' (Ext X w.heap.size w'.heap.size) dg gx bx q gen allv all s DC :=
  ⟨h.live.more hb (fun _ hk => hk), h.gens, h.few, (h.recs.below hb).sub (fun _ _ hk => .inl hk), h.box.below hb, .inl h.has, fun k hk => .inl (h.base k hk), h.bel.trans (hb.mono h.bel.size)⟩
theorem Rs.out_bel (h : Rs wi w X dg gx bx q gen allv all s DC) (ho : Out X w w') : Below wi.heap.size wi w' := h.bel.trans (ho.below h.bel.size h.base)
/-- A step that leaves a lane. -/
theorem Rs.step (h : Rs wi w X dg gx bx q gen allv all s DC) (ho : Out X w w') (hY : ∀ k, X k → Y k) (hl : Live w' Y dg gx' 0 538 k' gen' false all' s') (hk : k' ≤ 3000 * (q + 1)) (hg : gen' ≤ q + 2) (hf : all'.length ≤ q + 9) (hr : RecsAt w' Y allv' all') : Rs wi w' Y dg gx' bx (q + 1) gen' allv' all' s' DC :=
  ⟨hl.upto hk, hg, hf, hr, ho.blk h.box h.has, hY _ h.has, fun k hk => hY _ (h.base k hk), h.out_bel ho⟩
theorem Rs.af (h : Rs wi w X dg gx bx q gen allv all s DC) (ov : Value) : Af wi w X dg gx bx q gen allv all s DC false false ov none :=
  ⟨fun _ => h.live, (fun e => by cases e), (fun e => by cases e), fun _ => rfl, fun _ => rfl, h.xlt, h.gens, h.few, h.recs, h.box, h.has, h.base, h.bel⟩
theorem Af.rs (h : Af wi w X dg gx bx q gen allv all s DC false an ov other) : Rs wi w X dg gx bx q gen allv all s DC :=
  ⟨h.live rfl, h.gens, h.few, h.recs, h.box, h.has, h.base, h.bel⟩
/-- A step in which the region went down. -/
theorem Rs.fell (h : Rs wi w X dg gx bx q gen allv all s DC) (ho : Out X w w') (hb : Brok w' X dg gx 0 538 k' gen all s other) (hk : k' ≤ 3000 * (q + 1)) (ho2 : an = true → ∃ o, other = some o ∧ o.length ≤ 8 ∧ RecsAt w' X ov o) (hn : an = false → other = none) : Af wi w' X dg gx bx (q + 1) gen allv all s DC true an ov other :=
  ⟨(fun e => by cases e), fun _ => hb.upto hk, ho2, hn, (fun e => by cases e), hb.xlt, by have := h.gens; omega, by have := h.few; omega, h.recs.out ho, ho.blk h.box h.has, h.has, h.base, h.out_bel ho⟩
theorem Af.step (h : Af wi w X dg gx bx q gen allv all s DC dn an ov other) (ho : Out X w w') (hY : ∀ k, X k → Y k) (hl : Live w' Y dg gx' 0 538 k' gen' false all' s') (hk : k' ≤ 3000 * (q + 1)) (hg : gen' ≤ q + 2) (hf : all'.length ≤ q + 9) (hr : RecsAt w' Y allv' all') : Rs wi w' Y dg gx' bx (q + 1) gen' allv' all' s' DC :=
  ⟨hl.upto hk, hg, hf, hr, ho.blk h.box h.has, hY _ h.has, fun k hk => hY _ (h.base k hk), h.bel.trans (ho.below h.bel.size h.base)⟩
theorem Af.below (h : Af wi w X dg gx bx q gen allv all s DC dn an ov other) (hb : Below w.heap.size w w') : Af wi w' X dg gx bx q gen allv all s DC dn an ov other :=
  ⟨fun e => (h.live e).below hb, fun e => (h.brok e).below hb, fun e => by obtain ⟨o, h1, h2, h3⟩ := h.oth e; exact ⟨o, h1, h2, h3.below hb⟩, h.non, h.none_, fun k hk => Nat.lt_of_lt_of_le (h.xlt k hk) hb.size, h.gens, h.few, h.recs.below hb, h.box.below hb, h.has, h.base, h.bel.trans (hb.mono h.bel.size)⟩
theorem af_len (h : Af wi w X dg gx bx q gen allv all s DC dn an ov other) : Calls Try.prog 26 #[.pointer (some ⟨gx, 0, none⟩)] w fun e w' => e = .returned (.int .i64 ((frsR all).length : Int)) ∧ Below w.heap.size w w' := by
  cases dn with
  | false => exact la_len (h.live rfl)
  | true => exact bk_len (h.brok rfl)
theorem af_room (h : Af wi w X dg gx bx q gen allv all s DC dn an ov other) : Calls Try.prog 27 #[.pointer (some ⟨gx, 0, none⟩)] w fun e w' => e = .returned (.int .i64 ((14336 - (frsR all).length : Nat) : Int)) ∧ Below w.heap.size w w' := by
  cases dn with
  | false => exact la_room (h.live rfl)
  | true => exact bk_room (h.brok rfl)
theorem Af.ok (h : Af wi w X dg gx bx q gen allv all s DC dn an ov other) : ∀ r ∈ all, r.Ok := by
  cases dn with
  | false => exact (h.live rfl).ok
  | true => exact (h.brok rfl).ok
theorem Af.most (h : Af wi w X dg gx bx q gen allv all s DC dn an ov other) : (frsR all).length ≤ 14336 := by
  cases dn with
  | false => exact (h.live rfl).len
  | true => exact (h.brok rfl).most
theorem af_size (h : Af wi w X dg gx bx q gen allv all s DC dn an ov other) (hq : q ≤ 130) : Calls Try.prog 18 #[allv] w fun e w' => e = .returned (.int .i64 ((frsR all).length : Int)) ∧ Below w.heap.size w w' :=
  size_any h.recs h.ok (by have := h.few; omega)
end
end Go.Proofs.Ytlmoiepbnnfebaa
