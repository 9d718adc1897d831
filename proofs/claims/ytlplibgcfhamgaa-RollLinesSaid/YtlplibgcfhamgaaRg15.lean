/-
  What Write, Wipe and Settle of package roll make of one region (plain data); other regions are as they were.
-/
import Derived.Test.YtlplibgcfhamgaaSet15
namespace Go.Proofs.Ytlplibgcfhamgaa
open Go.RowKit
set_option maxRecDepth 20000
set_option linter.unusedSimpArgs false
set_option linter.unusedVariables false

structure At (d : Ds) (r : Int) (g : Rg) (n k : Nat) : Prop where
  at_ : d.at? r = some g
  fit : g.Fit n
  size : d.size = n
  small : Small d k
/-- All regions but r are as they were. -/
def Else (r : Int) (d d' : Ds) : Prop := d'.size = d.size ∧ ∀ q, q ≠ r → d'.at? q = d.at? q
theorem Else.refl (r : Int) (d : Ds) : Else r d d := ⟨rfl, fun _ _ => rfl⟩
theorem Else.trans {r : Int} {a b c : Ds} (h : Else r a b) (h' : Else r b c) : Else r a c := ⟨h'.1.trans h.1, fun q hq => (h'.2 q hq).trans (h.2 q hq)⟩
theorem at_set {d : Ds} {r : Int} {g g' : Rg} {wr : Nat} (h : d.at? r = some g) : (⟨d.size, d.regs.set r.toNat g', wr⟩ : Ds).at? r = some g' ∧ Else r d ⟨d.size, d.regs.set r.toNat g', wr⟩ := by
  obtain ⟨i, rfl, hi, hri⟩ := at_some h
  refine ⟨?_, rfl, fun q hq => ?_⟩
  · rw [at_nat]
    show (d.regs.set _ g')[i]? = _
    rw [Int.toNat_natCast, List.getElem?_set_self hi]
  · unfold Ds.at?
    split
    · rfl
    · show (d.regs.set _ g')[q.toNat]? = _
      rw [Int.toNat_natCast, List.getElem?_set_ne (by omega)]
section
variable {d : Ds} {r : Int} {g : Rg} {n k s : Nat}
theorem At.more {k' : Nat} (h : At d r g n k) (hk : k ≤ k') : At d r g n k' := ⟨h.at_, h.fit, h.size, h.small.more hk⟩
theorem At.wr {b : List UInt8} {m : Nat} (h : At d r g n k) (hs : s < n) (hm : b.length = m) (hb : m ≤ 64) (hd : g.down = false) : d.wrCode r (s : Int) m = 0 ∧ At (d.wr r (s : Int) b) r (g.write s (pad b)) n (k + 1) ∧ Else r d (d.wr r (s : Int) b) := by
  subst hm
  have hsm := h.small.wr r (s : Int) b
  obtain ⟨h1, h2⟩ := wr_ok (b := b) h.at_ (s := (s : Int)) (by omega) (by rw [h.size]; omega) hb hd
  rw [h2] at hsm ⊢
  rw [Int.toNat_natCast] at hsm ⊢
  obtain ⟨h3, h4⟩ := at_set (g' := g.write s (pad b)) (wr := d.writes + 1) h.at_
  exact ⟨h1, ⟨h3, h.fit.write hs (pad_length _ hb), h.size, hsm⟩, h4⟩
theorem At.wr_dn {b : List UInt8} {m : Nat} (h : At d r g n k) (hs : s < n) (hm : b.length = m) (hb : m ≤ 64) (hd : g.down = true) : d.wrCode r (s : Int) m = 10 ∧ d.wr r (s : Int) b = d := by
  subst hm
  exact _root_.Go.Proofs.Ytlplibgcfhamgaa.wr_dn (b := b) h.at_ (s := (s : Int)) (by omega) (by rw [h.size]; omega) hb hd
theorem At.br (h : At d r g n k) (hd : g.down = false) : d.brCode r = 0 ∧ At (d.br r) r g.barrier n k ∧ Else r d (d.br r) := by
  have hsm := h.small.br r
  unfold Ds.brCode Ds.br at *
  rw [h.at_] at hsm ⊢
  simp only [hd, Bool.false_eq_true, if_false] at hsm ⊢
  obtain ⟨h3, h4⟩ := at_set (g' := g.barrier) (wr := d.writes) h.at_
  exact ⟨trivial, ⟨h3, h.fit.barrier, h.size, hsm⟩, h4⟩
theorem At.br_dn (h : At d r g n k) (hd : g.down = true) : d.brCode r = 10 ∧ d.br r = d := by
  unfold Ds.brCode Ds.br
  rw [h.at_]
  simp only [hd, if_true]
  exact ⟨trivial, trivial⟩
end
def wipeG (g : Rg) : List Nat → Rg × Int
  | [] => if g.down = true then (g, 10) else (g.barrier, 0)
  | s :: l => if g.down = true then (g, 10) else wipeG (g.write s zsec) l
def writeG (g : Rg) (s c : Nat) : Rg × Int :=
  if g.down = true then (g, 10) else
  if (g.write 0 (pad (lineB s c))).down = true then (g.write 0 (pad (lineB s c)), 10) else ((g.write 0 (pad (lineB s c))).barrier, 0)
def settleG (g : Rg) (b : Sec) (full : List Nat) : (Nat × Nat) × Int × Rg :=
  if staB b = 1 then ((1, cntB b), 0, g) else
  if (wipeG g full).2 = 0 then
    if staB b = 0 then ((0, cntB b), 0, (wipeG g full).1) else
    if (writeG (wipeG g full).1 0 (cntB b)).2 = 0 then ((0, cntB b), 0, (writeG (wipeG g full).1 0 (cntB b)).1) else ((0, 0), (writeG (wipeG g full).1 0 (cntB b)).2, (writeG (wipeG g full).1 0 (cntB b)).1)
  else ((0, 0), (wipeG g full).2, (wipeG g full).1)
section
variable {r : Int} {n : Nat}
theorem wipe_at (l : List Nat) : ∀ {d : Ds} {g : Rg} {k : Nat}, At d r g n k → (∀ s ∈ l, s < n) → (wipeL d r l).2 = (wipeG g l).2 ∧ At (wipeL d r l).1 r (wipeG g l).1 n (k + l.length) ∧ Else r d (wipeL d r l).1 := by
  induction l with
  | nil =>
    intro d g k h _
    unfold wipeL wipeG
    cases hd : g.down
    · obtain ⟨h1, h2, h3⟩ := h.br hd
      simp only [Bool.false_eq_true, if_false]
      exact ⟨h1, h2, h3⟩
    · obtain ⟨h1, h2⟩ := h.br_dn hd
      simp only [if_true]
      rw [h1, h2]
      exact ⟨rfl, h, Else.refl _ _⟩
  | cons s l ih =>
    intro d g k h hl
    have hs := hl s (List.mem_cons_self ..)
    unfold wipeL wipeG
    cases hd : g.down
    · obtain ⟨h1, h2, h3⟩ := h.wr (b := []) (m := 0) hs rfl (by omega) hd
      simp only [Bool.false_eq_true, if_false]
      rw [if_pos h1]
      obtain ⟨e1, e2, e3⟩ := ih h2 (fun x hx => hl x (List.mem_cons_of_mem _ hx))
      rw [pad_nil] at e1 e2
      exact ⟨e1, e2.more (by simp only [List.length_cons]; omega), h3.trans e3⟩
    · obtain ⟨h1, h2⟩ := h.wr_dn (b := []) (m := 0) hs rfl (by omega) hd
      simp only [if_true]
      rw [if_neg (by rw [h1]; decide), h1, h2]
      exact ⟨rfl, h.more (by omega), Else.refl _ _⟩
theorem write_at {d : Ds} {g : Rg} {k : Nat} (h : At d r g n k) (hn : 1 ≤ n) (s c : Nat) : (writeL d r s c).2 = (writeG g s c).2 ∧ At (writeL d r s c).1 r (writeG g s c).1 n (k + 1) ∧ Else r d (writeL d r s c).1 := by
  unfold writeL writeG
  cases hd : g.down
  · obtain ⟨h1, h2, h3⟩ := h.wr (s := 0) (b := lineB s c) (m := 5) (by omega) (lineB_length s c) (by omega) hd
    simp only [Bool.false_eq_true, if_false]
    rw [if_pos (show d.wrCode r 0 5 = 0 from h1)]
    have h2' : At (d.wr r 0 (lineB s c)) r (g.write 0 (pad (lineB s c))) n (k + 1) := h2
    have h3' : Else r d (d.wr r 0 (lineB s c)) := h3
    cases hd2 : (g.write 0 (pad (lineB s c))).down
    · obtain ⟨e1, e2, e3⟩ := h2'.br hd2
      simp only [Bool.false_eq_true, if_false]
      exact ⟨e1, e2, h3'.trans e3⟩
    · obtain ⟨e1, e2⟩ := h2'.br_dn hd2
      simp only [if_true]
      rw [e1, e2]
      exact ⟨rfl, h2', h3'⟩
  · obtain ⟨h1, h2⟩ := h.wr_dn (s := 0) (b := lineB s c) (m := 5) (by omega) (lineB_length s c) (by omega) hd
    have h1' : d.wrCode r 0 5 = 10 := h1
    have h2' : d.wr r 0 (lineB s c) = d := h2
    simp only [if_true]
    rw [if_neg (by rw [h1']; decide), h1', h2']
    exact ⟨rfl, h.more (by omega), Else.refl _ _⟩
theorem settle_at {d : Ds} {g : Rg} {k : Nat} (h : At d r g n k) (hn : 1 ≤ n) (b : Sec) (l : List Nat) (hl : ∀ s ∈ l, s < n) :
    (settleL d r b l).1 = (settleG g b l).1 ∧ (settleL d r b l).2.1 = (settleG g b l).2.1 ∧ At (settleL d r b l).2.2 r (settleG g b l).2.2 n (k + l.length + 1) ∧ Else r d (settleL d r b l).2.2 := by
  unfold settleL settleG
  obtain ⟨w1, w2, w3⟩ := wipe_at l h hl
  obtain ⟨v1, v2, v3⟩ := write_at w2 hn 0 (cntB b)
  rw [w1, v1]
  split
  · exact ⟨rfl, rfl, h.more (by omega), Else.refl _ _⟩
  · split
    · split
      · exact ⟨rfl, rfl, w2.more (by omega), w3⟩
      · split
        · exact ⟨rfl, rfl, v2, w3.trans v3⟩
        · exact ⟨rfl, rfl, v2, w3.trans v3⟩
    · exact ⟨rfl, rfl, w2.more (by omega), w3⟩
end
/-! What these make of a region that isn't armed. -/
theorem down_up {g : Rg} (h : g.armed = false) : g.down = false := by simp [Rg.down, h]
theorem wipeG_up (l : List Nat) : ∀ {g : Rg}, g.armed = false → (wipeG g l).2 = 0 ∧ (wipeG g l).1.armed = false ∧ (wipeG g l).1.ws = [] ∧ (wipeG g l).1.base = wiped g.secs l := by
  induction l with
  | nil =>
    intro g h
    unfold wipeG
    rw [if_neg (by rw [down_up h]; decide)]
    exact ⟨rfl, h, rfl, rfl⟩
  | cons s l ih =>
    intro g h
    unfold wipeG
    rw [if_neg (by rw [down_up h]; decide)]
    obtain ⟨h1, h2, h3, h4⟩ := ih (g := g.write s zsec) h
    refine ⟨h1, h2, h3, ?_⟩
    rw [h4, Rg.secs_write]
    rfl
theorem writeG_up {g : Rg} (h : g.armed = false) (s c : Nat) : writeG g s c = ((g.write 0 (pad (lineB s c))).barrier, 0) := by
  unfold writeG
  rw [if_neg (by rw [down_up h]; decide), if_neg (by rw [down_up (g := g.write 0 (pad (lineB s c))) h]; decide)]
theorem secs_quiet {g : Rg} (h : g.ws = []) : g.secs = g.base := by unfold Rg.secs; rw [h]; rfl
theorem crash_quiet {g : Rg} (h : g.ws = []) (m : Nat → Bool) : (g.crash m).secs = g.secs ∧ (g.crash m).ws = [] := by
  refine ⟨?_, rfl⟩
  unfold Rg.secs Rg.crash
  rw [h]
  rfl
/-- Settle of a region that isn't armed. -/
theorem settleG_up {g : Rg} {n s c : Nat} (h : g.armed = false) (hf : g.Fit n) (h0 : g.secs[0]? = some (pad (lineB s c))) (hs : s ≤ 2) (hc : c < 4294967296) (hn : 1 ≤ n) (hq : g.ws = []) :
    (settleG g (pad (lineB s c)) (fulls g.secs 1 n)).1 = (if s = 2 then 0 else s, c) ∧ (settleG g (pad (lineB s c)) (fulls g.secs 1 n)).2.1 = 0 ∧ (settleG g (pad (lineB s c)) (fulls g.secs 1 n)).2.2.ws = [] ∧
      (settleG g (pad (lineB s c)) (fulls g.secs 1 n)).2.2.secs[0]? = some (pad (lineB (if s = 2 then 0 else s) c)) ∧ ∀ i, 1 ≤ i → i < n → (settleG g (pad (lineB s c)) (fulls g.secs 1 n)).2.2.secs[i]? = if s = 1 then g.secs[i]? else some zsec := by
  unfold settleG
  rw [staB_pad s c hs, cntB_pad s c hc]
  obtain ⟨w1, w2, w3, w4⟩ := wipeG_up (fulls g.secs 1 n) h
  have hz : ∀ i, (wipeG g (fulls g.secs 1 n)).1.secs[i]? = if 1 ≤ i ∧ i < n then some zsec else g.secs[i]? := by
    intro i
    rw [secs_quiet w3, w4, fulls_all hf.secs_full]
    split
    · rw [List.getElem?_eq_getElem (by rw [hf.secs_length]; omega)]; rfl
    · rfl
  have hs3 : s = 1 ∨ s = 0 ∨ s = 2 := by omega
  rcases hs3 with rfl | rfl | rfl
  · simp only [if_true]
    exact ⟨rfl, trivial, hq, h0, fun i _ _ => by first | rfl | trivial⟩
  · rw [if_neg (by decide), if_pos w1, if_pos rfl]
    refine ⟨rfl, rfl, w3, ?_, fun i h1 h2 => ?_⟩
    · rw [hz, if_neg (by omega)]; exact h0
    · rw [hz, if_pos ⟨h1, h2⟩, if_neg (by decide)]
  · rw [if_neg (by decide), if_pos w1, if_neg (by decide), writeG_up w2, if_pos rfl]
    refine ⟨rfl, rfl, rfl, ?_, fun i h1 h2 => ?_⟩
    · show (Rg.write _ _ _).secs[0]? = _
      rw [Rg.secs_write, List.getElem?_set_self]
      · rfl
      · rw [secs_quiet w3, w4]
        have : (wiped g.secs (fulls g.secs 1 n))[0]? = g.secs[0]? := by rw [fulls_all hf.secs_full, if_neg (by omega)]
        rw [h0] at this
        exact (List.getElem?_eq_some_iff.1 this).1
    · show (Rg.write _ _ _).secs[i]? = _
      rw [Rg.secs_write, List.getElem?_set_ne (by omega), hz, if_pos ⟨h1, h2⟩]
      rfl
end Go.Proofs.Ytlplibgcfhamgaa
