/-
  RollSettles: what was written of a region, as a function of the sector; the law's map.
-/
import Derived.Test.YtlplibgcfhamgaaDw15
import Derived.Test.YtlplibgcfhamgaaMapG
namespace Go.Proofs.Ytlplibgcfhamgaa
open Go.RowKit
set_option maxRecDepth 20000
set_option linter.unusedSimpArgs false
set_option linter.unusedVariables false

def jn (x : Int) : Nat := (bits .and .i64 x 511).toNat
theorem jn_spec (x : Int) : bits .and .i64 x 511 = (jn x : Int) ∧ jn x < 512 := by
  obtain ⟨m, hm, h⟩ := and_low x 9 (by omega)
  rw [show ((2 ^ 9 - 1 : Nat) : Int) = 511 from rfl] at h
  unfold jn
  rw [h, Int.toNat_natCast]
  exact ⟨rfl, hm⟩
/-- Is sector s one of those that the first j told of? -/
def hasJ (l : List Int) (j s : Nat) : Bool := (l.take j).any fun x => 1 + jn x == s
theorem hasJ_zero (l : List Int) (s : Nat) : hasJ l 0 s = false := rfl
theorem hasJ_next {l : List Int} {j : Nat} {x : Int} (h : l[j]? = some x) (s : Nat) : hasJ l (j + 1) s = (hasJ l j s || (1 + jn x == s)) := by
  unfold hasJ
  rw [List.take_add_one, h, List.any_append]
  simp
def Told (S : List Sec) (f : Nat → Bool) : Prop := ∀ s, 1 ≤ s → s < 538 → ∃ b, S[s]? = some b ∧ b[0]? = some (if f s then (7 : UInt8) else 0)
theorem told_new : Told (Rg.new 538).secs (fun _ => false) := fun s _ hs => ⟨zsec, new_sec 538 s hs, rfl⟩
theorem Told.set {S : List Sec} {f g : Nat → Bool} (h : Told S f) (m : Nat) (hg : ∀ s, g s = (f s || (m == s))) : Told (S.set m (pad [7])) g := by
  intro s h1 h2
  obtain ⟨b, hb, h0⟩ := h s h1 h2
  rw [hg]
  by_cases e : m = s
  · subst e
    exact ⟨pad [7], by rw [List.getElem?_set_self (List.getElem?_eq_some_iff.1 hb).1], by rw [beq_self_eq_true, Bool.or_true]; rfl⟩
  · refine ⟨b, by rw [List.getElem?_set_ne e]; exact hb, ?_⟩
    rw [show (m == s) = false from by rw [beq_eq_false_iff_ne]; exact e, Bool.or_false]
    exact h0
theorem seven (w : World) : Rd (w.alloc (.cells #[.int .u8 7] 5)) (.slice (some ⟨w.heap.size, 0, none⟩) 1 1) (u8s [7]) := Rd.new_ w #[.int .u8 7] _ _ rfl rfl (Nat.le_refl _) rfl
def ibK15 : KeyShape Int := intK 3 Try.underlying3
def boolV15 : Bool → Value := .bool
theorem mapIB15 : Try.prog.underlying 39 = some (.map ibK15.k 4) := Try.underlying39
theorem zero_bool15 (w : World) : (zeroValue 4).run Try.prog w = .ok (boolV15 false) w := by kernel_rfl
/-- Block b is a map that has just these sectors. -/
def HasS (w : World) (b n : Nat) (f : Nat → Bool) : Prop := ∃ (h : Int → Option Bool) (c : Nat), MapG ibK15 boolV15 w b n h c ∧ ∀ s : Nat, s < 2000 → (h (s : Int)).getD false = f s
theorem HasS.new_ (w : World) : HasS (w.alloc (.map #[] 0)) w.heap.size 0 (fun _ => false) := ⟨fun _ => none, 0, MapG.new_ w, fun _ _ => rfl⟩
theorem HasS.same {w w' : World} {b n : Nat} {f : Nat → Bool} (h : HasS w b n f) (he : w'.heap[b]? = w.heap[b]?) : HasS w' b n f := by
  obtain ⟨g, c, h1, h2⟩ := h
  exact ⟨g, c, h1.same he, h2⟩
theorem HasS.below {w w' : World} {b n : Nat} {f : Nat → Bool} (h : HasS w b n f) (hb : Below w.heap.size w w') : HasS w' b n f := by
  obtain ⟨g, c, h1, h2⟩ := h
  exact ⟨g, c, h1.below hb, h2⟩
theorem HasS.lt {w : World} {b n : Nat} {f : Nat → Bool} (h : HasS w b n f) : b < w.heap.size := by
  obtain ⟨g, c, h1, h2⟩ := h
  exact h1.lt
theorem wf_nat {s : Nat} (h : s < 2000) : (Lit.int .i64 (s : Int)).wf = true := WalkArith.wf_i64 (by omega)
theorem HasS.look {w : World} {b n s : Nat} {f : Nat → Bool} (h : HasS w b n f) (hs : s < 2000) : ∀ W : World, W.heap = w.heap → (Instr.lookup 39 (.map (some b)) (.int .i64 (s : Int)) false).run Try.prog W = .ok (.bool (f s)) W := by
  intro W hW
  obtain ⟨g, c, h1, h2⟩ := h
  have := (h1.same (w' := W) (by rw [hW])).look mapIB15 zero_bool15 (s : Int) (wf_nat hs)
  rw [h2 s hs] at this
  exact this
theorem HasS.put {w : World} {b n m : Nat} {f g : Nat → Bool} (h : HasS w b n f) (hn : n ≤ 100000) (hm : m < 2000) (hg : ∀ s, g s = (f s || (m == s))) :
    ∃ w', (Instr.mapUpdate 39 (.map (some b)) (.int .i64 (m : Int)) (.bool true)).run Try.prog w = .ok () w' ∧ HasS w' b (n + 1) g ∧ Kept (fun k => k = b) w w' := by
  obtain ⟨q, c, h1, h2⟩ := h
  obtain ⟨w', hr, h3, h4⟩ := h1.store mapIB15 (by unfold maxLen; omega) (m : Int) (wf_nat hm) true
  refine ⟨w', hr, ⟨_, _, h3, fun s hs => ?_⟩, turned_kept h4⟩
  rw [hg, ← h2 s hs]
  by_cases e : m = s
  · subst e
    rw [if_pos rfl, beq_self_eq_true, Bool.or_true]
    rfl
  · rw [if_neg (by omega), show (m == s) = false from by rw [beq_eq_false_iff_ne]; exact e, Bool.or_false]
/-- Behind the last crash: the line, the other sectors. -/
structure Setd (g : Rg) (s c : Nat) (f : Nat → Bool) : Prop where
  line : g.secs[0]? = some (pad (lineB (if s = 2 then 0 else s) c))
  quiet : g.ws = []
  told : Told g.secs (fun i => f i && (s == 1))
theorem setd_crash {g : Rg} {s c : Nat} {f : Nat → Bool} (h : Setd g s c f) (m : Nat → Bool) : Setd (g.crash m) s c f := by
  obtain ⟨h1, h2⟩ := crash_quiet h.quiet m
  exact ⟨by rw [h1]; exact h.line, h2, by rw [h1]; exact h.told⟩
theorem setd_settle {g : Rg} {s c : Nat} {f : Nat → Bool} (hup : g.armed = false) (hf : g.Fit 538) (ht : Told g.secs f) (hs : s < 3) (hc : c < 4294967296) :
    (settleG (g.write 0 (pad (lineB s c))).barrier (pad (lineB s c)) (fulls (g.write 0 (pad (lineB s c))).barrier.secs 1 538)).1 = (if s = 2 then 0 else s, c) ∧
    (settleG (g.write 0 (pad (lineB s c))).barrier (pad (lineB s c)) (fulls (g.write 0 (pad (lineB s c))).barrier.secs 1 538)).2.1 = 0 ∧
    Setd (settleG (g.write 0 (pad (lineB s c))).barrier (pad (lineB s c)) (fulls (g.write 0 (pad (lineB s c))).barrier.secs 1 538)).2.2 s c f := by
  have hfit : (g.write 0 (pad (lineB s c))).barrier.Fit 538 := (hf.write (by omega) (pad_length _ (by rw [lineB_length]; omega))).barrier
  obtain ⟨h1, h2, h3, h4, h5⟩ := settleG_up (g := (g.write 0 (pad (lineB s c))).barrier) (n := 538) (s := s) (c := c) hup hfit (line_sec hf (by omega) _) (by omega) hc (by omega) rfl
  refine ⟨h1, h2, h4, h3, fun i i1 i2 => ?_⟩
  rw [h5 i i1 i2]
  by_cases e : s = 1
  · rw [if_pos e, secs_barrier, Rg.secs_write, List.getElem?_set_ne (by omega)]
    obtain ⟨b, hb, h0⟩ := ht i i1 i2
    refine ⟨b, hb, ?_⟩
    show b[0]? = some (if (f i && (s == 1)) = true then (7 : UInt8) else 0)
    rw [show (s == 1) = true from by rw [e]; rfl, Bool.and_true]
    exact h0
  · rw [if_neg e]
    refine ⟨zsec, rfl, ?_⟩
    show zsec[0]? = some (if (f i && (s == 1)) = true then (7 : UInt8) else 0)
    rw [show (s == 1) = false from by rw [beq_eq_false_iff_ne]; exact e, Bool.and_false]
    rfl
section
variable {w : World} {X : Nat → Prop} {dg : Nat} {d : Ds} {g : Rg} {k c s : Nat} {r : Int} {f : Nat → Bool}
theorem set_settle {sw : Nat} (hw : (if s = 2 then 0 else s) = sw) (h : Dr w X dg d r (g.write 0 (pad (lineB s c))).barrier 538 k) (hup : g.armed = false) (hf : g.Fit 538) (ht : Told g.secs f) (hs : s < 3) (hc : c < 4294967296) (hk : k ≤ 700000) :
    Calls Try.prog 11 #[.pointer (some ⟨dg, 0, none⟩), .int .i64 r] w fun e w' => e = .returned (.tuple #[.agg #[.int .i64 (sw : Int), .int .u64 (c : Int)], .int .i64 0]) ∧ ∃ g' d', Setd g' s c f ∧ Dr w' X dg d' r g' 538 (k + 540) ∧ Out X w w' := by
  obtain ⟨h1, h2, h3⟩ := setd_settle hup hf ht hs hc
  refine (dr_settle h (by omega) (by omega) (by omega) (line_sec hf (by omega) _)).mono ?_
  rintro e w' ⟨rfl, d', hd⟩
  exact ⟨by rw [h1, h2, hw], _, d', h3, hd.dr, hd.o⟩
theorem set_read {sw : Nat} (hw : (if s = 2 then 0 else s) = sw) (h : Dr w X dg d r g 538 k) (hg : Setd g s c f) (hs : s < 3) (hc : c < 4294967296) :
    Calls Try.prog 13 #[.pointer (some ⟨dg, 0, none⟩), .int .i64 r] w fun e w' => e = .returned (.tuple #[.agg #[.int .i64 (sw : Int), .int .u64 (c : Int)], .int .i64 0]) ∧ Below w.heap.size w w' := by
  have := dr_read h (by omega) hg.line
  rwa [staB_pad _ c (by split <;> omega), cntB_pad _ c hc, hw] at this
end
/-- What holds from then on: the disk, beside the map's block. -/
def Lp (w : World) (mb dg s c : Nat) (f : Nat → Bool) : Prop := ∃ (X : Nat → Prop) (g : Rg) (d : Ds) (k : Nat), X mb ∧ k ≤ 700000 ∧ Setd g s c f ∧ Dr w X dg d 1 g 538 k
theorem lp_start {w : World} {X : Nat → Prop} {dg s c k : Nat} {f : Nat → Bool} {g : Rg} {d : Ds} (h : Dr w X dg d 1 g 538 k) (hk : k ≤ 700000) (hg : Setd g s c f) : Lp (w.alloc (.map #[] 0)) w.heap.size dg s c f :=
  ⟨Ext2 X w.heap.size (w.alloc (.map #[] 0)).heap.size, g, d, k, .inr ⟨Nat.le_refl _, by rw [World.size_alloc]; omega⟩, hk, hg, h.wider ((Below.refl _ w).alloc (Nat.le_refl _) _)⟩
section
variable {w w' : World} {mb dg s c i : Nat} {f : Nat → Bool}
theorem Lp.below (h : Lp w mb dg s c f) (hb : Below w.heap.size w w') : Lp w' mb dg s c f := by
  obtain ⟨X, g, d, k, h1, h2, h3, h4⟩ := h
  exact ⟨X, g, d, k, h1, h2, h3, h4.below hb⟩
theorem Lp.stored (h : Lp w mb dg s c f) (hk : Kept (fun k => k = mb) w w') : Lp w' mb dg s c f := by
  obtain ⟨X, g, d, k, h1, h2, h3, h4⟩ := h
  exact ⟨X, g, d, k, h1, h2, h3, ⟨h4.m.foreign hk (fun k e => .inl (by rw [e]; exact h1)), h4.a⟩⟩
theorem Lp.read (h : Lp w mb dg s c f) (hi : 1 ≤ i) (hi2 : i < 538) :
    Calls Try.prog 14 #[.pointer (some ⟨dg, 0, none⟩), .int .i64 1, .int .i64 (i : Int)] w fun e w' => e = .returned (.tuple #[.slice (some ⟨w.heap.size, 0, none⟩) 64 64, .int .i64 0]) ∧ w'.cell? ⟨w.heap.size, 0, none⟩ = some (.int .u8 (if (f i && (s == 1)) = true then 7 else 0)) ∧ Below w.heap.size w w' := by
  obtain ⟨X, g, d, k, _, _, h3, h4⟩ := h
  obtain ⟨b, hb, h0⟩ := h3.told i hi hi2
  refine (dr_sec h4 hi2 hb).mono ?_
  rintro e w' ⟨rfl, h64, hblk, hbel⟩
  refine ⟨rfl, ?_, hbel⟩
  refine hblk.cell 0 _ ?_
  have : b[0]? = some (if (f i && (s == 1)) = true then (7 : UInt8) else 0) := h0
  obtain ⟨b⟩ := b
  · cases this
  · rename_i x b
    obtain rfl : x = _ := Option.some.inj this
    show some (Value.int .u8 (UInt8.toNat _ : Int)) = _
    split <;> rfl
end
end Go.Proofs.Ytlplibgcfhamgaa
