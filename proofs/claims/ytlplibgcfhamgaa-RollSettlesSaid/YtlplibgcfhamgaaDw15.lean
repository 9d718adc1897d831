/-
  What a Settle that the region may go down in leaves: behind a crash the line is as it was, or one of nobody.
-/
import Derived.Test.YtlplibgcfhamgaaArgs15
namespace Go.Proofs.Ytlplibgcfhamgaa
open Go.RowKit
set_option maxRecDepth 20000
set_option linter.unusedSimpArgs false
set_option linter.unusedVariables false

/-- Sector 0 is one of these, whatever a crash keeps. -/
def At0 (S : Sec → Prop) (g : Rg) : Prop := (∃ b, g.base[0]? = some b ∧ S b) ∧ ∀ x ∈ g.ws, x.1 = 0 → S x.2
theorem put_at0 {S : Sec → Prop} (ws : List (Nat × Sec)) : ∀ l : List Sec, (∃ b, l[0]? = some b ∧ S b) → (∀ x ∈ ws, x.1 = 0 → S x.2) → ∃ b, (put l ws)[0]? = some b ∧ S b := by
  induction ws with
  | nil => intro l h _; exact h
  | cons x ws ih =>
    intro l h hw
    rw [put_cons]
    refine ih _ ?_ (fun y hy => hw y (List.mem_cons_of_mem _ hy))
    obtain ⟨b, h1, h2⟩ := h
    by_cases h0 : x.1 = 0
    · exact ⟨x.2, by rw [h0, List.getElem?_set_self (List.getElem?_eq_some_iff.1 h1).1], hw x (List.mem_cons_self ..) h0⟩
    · exact ⟨b, by rw [List.getElem?_set_ne h0]; exact h1, h2⟩
section
variable {S : Sec → Prop} {g : Rg} {s c n : Nat} {b : Sec}
theorem At0.secs (h : At0 S g) : ∃ b, g.secs[0]? = some b ∧ S b := put_at0 _ _ h.1 h.2
theorem At0.crash (h : At0 S g) (m : Nat → Bool) : ∃ b, (g.crash m).secs[0]? = some b ∧ S b := by
  show ∃ b, (put g.base (kept m g.ws))[0]? = some b ∧ S b
  exact put_at0 _ _ h.1 (fun x hx => h.2 x (kept_mem m _ x hx))
theorem At0.write (h : At0 S g) (hs : s = 0 → S b) : At0 S (g.write s b) := ⟨h.1, fun x hx h0 => by
  rcases List.mem_append.1 hx with h1 | h1
  · exact h.2 x h1 h0
  · rw [List.mem_singleton] at h1
    subst h1
    exact hs h0⟩
theorem At0.barrier (h : At0 S g) : At0 S g.barrier := ⟨h.secs, fun _ hx => by cases hx⟩
theorem At0.arm (h : At0 S g) (z : Int) : At0 S (g.arm z) := h
theorem wipeG_at0 (l : List Nat) : ∀ {g : Rg}, At0 S g → (∀ s ∈ l, 1 ≤ s) → At0 S (wipeG g l).1 ∧ ((wipeG g l).2 = 0 ∨ (wipeG g l).2 = 10) := by
  induction l with
  | nil =>
    intro g h _
    unfold wipeG
    split
    · exact ⟨h, .inr rfl⟩
    · exact ⟨h.barrier, .inl rfl⟩
  | cons s l ih =>
    intro g h hl
    unfold wipeG
    split
    · exact ⟨h, .inr rfl⟩
    · exact ih (h.write (fun e => by have := hl s (List.mem_cons_self ..); omega)) (fun x hx => hl x (List.mem_cons_of_mem _ hx))
theorem writeG_at0 (h : At0 S g) (hb : S (pad (lineB s c))) : At0 S (writeG g s c).1 ∧ ((writeG g s c).2 = 0 ∨ (writeG g s c).2 = 10) := by
  unfold writeG
  split
  · exact ⟨h, .inr rfl⟩
  · split
    · exact ⟨h.write (fun _ => hb), .inr rfl⟩
    · exact ⟨(h.write (fun _ => hb)).barrier, .inl rfl⟩
/-- A line of one that is going, or of nobody. -/
def Gone (c : Nat) (b : Sec) : Prop := ∃ s, (s = 0 ∨ s = 2) ∧ b = pad (lineB s c)
theorem settleG_at0 (h : At0 (Gone c) g) (hs : s = 0 ∨ s = 2) (hc : c < 4294967296) (l : List Nat) (hl : ∀ s ∈ l, 1 ≤ s) :
    At0 (Gone c) (settleG g (pad (lineB s c)) l).2.2 ∧ ((settleG g (pad (lineB s c)) l).2.1 = 10 ∨ ((settleG g (pad (lineB s c)) l).2.1 = 0 ∧ (settleG g (pad (lineB s c)) l).1.1 = 0)) := by
  unfold settleG
  rw [staB_pad s c (by omega), cntB_pad s c hc]
  obtain ⟨w1, w2⟩ := wipeG_at0 l h hl
  obtain ⟨v1, v2⟩ := writeG_at0 (s := 0) (c := c) w1 ⟨0, .inl rfl, rfl⟩
  rw [if_neg (by omega)]
  split
  · split
    · exact ⟨w1, .inr ⟨rfl, rfl⟩⟩
    · split
      · exact ⟨v1, .inr ⟨rfl, rfl⟩⟩
      · rename_i h2
        exact ⟨v1, .inl (v2.resolve_left h2)⟩
  · rename_i h2
    exact ⟨w1, .inl (w2.resolve_left h2)⟩
end
/-- Between two rounds: what is in the region lasts, its line is of one that is going, or of nobody. -/
structure Bet (g : Rg) (c : Nat) : Prop where
  up : g.armed = false
  quiet : g.ws = []
  line : ∃ s, (s = 0 ∨ s = 2) ∧ g.secs[0]? = some (pad (lineB s c))
theorem Bet.at0 {g : Rg} {c : Nat} (h : Bet g c) : At0 (Gone c) g := by
  obtain ⟨s, hs, h0⟩ := h.line
  rw [secs_quiet h.quiet] at h0
  exact ⟨⟨_, h0, s, hs, rfl⟩, fun x hx => by rw [h.quiet] at hx; cases hx⟩
theorem bet_crash {g : Rg} {c : Nat} (h : At0 (Gone c) g) (m : Nat → Bool) : Bet (g.crash m) c := by
  obtain ⟨b, h1, s, hs, rfl⟩ := h.crash m
  exact ⟨rfl, rfl, s, hs, h1⟩
theorem bet_write {g : Rg} {n c : Nat} (h : g.armed = false) (hf : g.Fit n) (hn : 1 ≤ n) : Bet (g.write 0 (pad (lineB 2 c))).barrier c := ⟨h, rfl, 2, .inr rfl, line_sec hf hn _⟩
section
variable {w : World} {X : Nat → Prop} {dg : Nat} {d : Ds} {g : Rg} {k c : Nat} {r : Int}
/-- A round: armed, settled. -/
theorem down_settle {z : Int} (h : Dr w X dg d r (g.arm z) 538 k) (hb : Bet g c) (hc : c < 4294967296) (hk : k ≤ 700000) :
    Calls Try.prog 11 #[.pointer (some ⟨dg, 0, none⟩), .int .i64 r] w fun e w' => ∃ (l1 l2 : Nat) (cd : Int) (g' : Rg) (d' : Ds), e = .returned (.tuple #[.agg #[.int .i64 (l1 : Int), .int .u64 (l2 : Int)], .int .i64 cd]) ∧ Hid (cd = 10 ∨ (cd = 0 ∧ l1 = 0)) ∧ At0 (Gone c) g' ∧ Dr w' X dg d' r g' 538 (k + 540) ∧ Out X w w' := by
  obtain ⟨s, hs, h0⟩ := hb.line
  obtain ⟨h1, h2⟩ := settleG_at0 (hb.at0.arm z) hs hc (fulls (g.arm z).secs 1 538) (fun s hs => (fulls_lt hs).1)
  refine (dr_settle h (by omega) (by omega) (by omega) h0).mono ?_
  rintro e w' ⟨rfl, d', hd⟩
  exact ⟨_, _, _, _, d', rfl, h2, h1, hd.dr, hd.o⟩
/-- The last one. -/
theorem last_settle (h : Dr w X dg d r g 538 k) (hb : Bet g c) (hc : c < 4294967296) (hk : k ≤ 700000) :
    Calls Try.prog 11 #[.pointer (some ⟨dg, 0, none⟩), .int .i64 r] w fun e w' => e = .returned (.tuple #[.agg #[.int .i64 0, .int .u64 (c : Int)], .int .i64 0]) ∧ ∃ g' d', g'.ws = [] ∧ (∀ i, 1 ≤ i → i < 538 → g'.secs[i]? = some zsec) ∧ Dr w' X dg d' r g' 538 (k + 540) ∧ Out X w w' := by
  obtain ⟨s, hs, h0⟩ := hb.line
  obtain ⟨h1, h2, h3, _, h5⟩ := settleG_up hb.up h.a.fit h0 (by omega) hc (by omega) hb.quiet
  refine (dr_settle h (by omega) (by omega) (by omega) h0).mono ?_
  rintro e w' ⟨rfl, d', hd⟩
  refine ⟨?_, _, d', h3, fun i hi hi2 => by rw [h5 i hi hi2, if_neg (by omega)], hd.dr, hd.o⟩
  rw [h1, h2]
  rcases hs with rfl | rfl <;> rfl
theorem dr_crashI (h : Dr w X dg d r g 538 k) (hk : k ≤ 900000) (z : Int) (hz : 0 ≤ z) :
    Calls Try.prog 12 #[.pointer (some ⟨dg, 0, none⟩), .int .u64 z] w fun e w' => e = .returned (.tuple #[]) ∧ Dr w' X dg (d.crash (bitOf z.toNat)) r (g.crash (bitOf z.toNat)) 538 k ∧ Out X w w' := by
  have := dr_crash h hk z.toNat
  rwa [Int.toNat_of_nonneg hz] at this
theorem dr_waits (h : Dr w X dg d r g 538 k) (hq : g.ws = []) : Calls Try.prog 16 #[.pointer (some ⟨dg, 0, none⟩), .int .i64 r] w fun e w' => e = .returned (.int .i64 0) ∧ w = w' := by
  refine (waits_many h.m (i := 0) rfl r).mono ?_
  rintro e w' ⟨rfl, rfl⟩
  unfold Ds.waits
  rw [h.a.at_]
  simp only [hq]
  exact ⟨by first | rfl | trivial, by first | rfl | trivial⟩
theorem Dr.more {k' : Nat} (h : Dr w X dg d r g 538 k) (hk : k ≤ k') : Dr w X dg d r g 538 k' := ⟨h.m, h.a.more hk⟩
/-- A sector read. -/
theorem dr_sec {b : Sec} {i : Nat} (h : Dr w X dg d r g 538 k) (hi : i < 538) (hb : g.secs[i]? = some b) :
    Calls Try.prog 14 #[.pointer (some ⟨dg, 0, none⟩), .int .i64 r, .int .i64 (i : Int)] w fun e w' => e = .returned (.tuple #[.slice (some ⟨w.heap.size, 0, none⟩) 64 64, .int .i64 0]) ∧ b.length = 64 ∧ Blk w' w.heap.size 5 (blk8 b) ∧ Below w.heap.size w w' := by
  obtain ⟨b', h1, h2, h3⟩ := rd_at h.a.at_ h.a.fit h.a.size (s := i) hi
  obtain rfl : b' = b := by rw [hb] at h2; exact (Option.some.inj h2).symm
  refine (read_many h.m (i := 0) rfl r i h1).mono ?_
  rintro e w' ⟨rfl, h4, h5, _, h6⟩
  exact ⟨rfl, h4, h5, h6⟩
end
end Go.Proofs.Ytlplibgcfhamgaa
