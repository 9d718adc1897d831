/-
  Several disks at once, and blocks that are none of theirs.
-/
import Derived.Test.YthlclhfepnmaeaaDAll
namespace Go.Proofs.Ythlclhfepnmaeaa
open Go.RowKit

/-- Disks, each with blocks of its own; none of those of X. -/
def Many (w : World) (X : Nat → Prop) (l : List (Nat × Ds)) : Prop :=
  (∀ k, X k → k < w.heap.size) ∧ ∃ labs : Nat → Nat → Nat, (∀ i x, l[i]? = some x → DkAt w (labs i) x.1 x.2) ∧ (∀ i k, l.length ≤ i → labs i k = 0) ∧ (∀ i k, labs i k ≠ 0 → ¬ X k) ∧ ∀ i j k, labs i k ≠ 0 → labs j k ≠ 0 → i = j
/-- Blocks of X are as they were. -/
def Out (X : Nat → Prop) (w w' : World) : Prop := Kept (fun k => ¬ X k) w w'
theorem Out.refl (X : Nat → Prop) (w : World) : Out X w w := Kept.refl _ _
theorem Out.trans {X : Nat → Prop} {a b c : World} (h : Out X a b) (k : Out X b c) : Out X a c := Kept.trans_same h k
theorem Out.below {X : Nat → Prop} {a b : World} {B : Nat} (h : Out X a b) (hB : B ≤ a.heap.size) (hX : ∀ k, k < B → X k) : Below B a b := Kept.below h hB (fun k hk => by
  rcases Nat.lt_or_ge k B with h1 | h1
  · exact absurd (hX k h1) hk
  · exact h1)
theorem Out.of_below {X : Nat → Prop} {a b : World} (h : Below a.heap.size a b) : Out X a b := Kept.of_below h
theorem Out.blk {X : Nat → Prop} {a b : World} (h : Out X a b) {g : Nat} {t : TypeId} {cs : Array Value} (hb : Blk a g t cs) (hx : X g) : Blk b g t cs := Kept.blk h hb (fun hn => hn hx)
theorem Out.row {X : Nat → Prop} {a b : World} (h : Out X a b) {B : Nat} {v : Value} {xs : List Value} (hr : Row a B v xs) (hB : B ≤ a.heap.size) (hX : ∀ k, k < B → X k) : Row b B v xs := Kept.row h hr hB (fun k hk hn => hn (hX k hk))

theorem Many.nil {w : World} {X : Nat → Prop} (hX : ∀ k, X k → k < w.heap.size) : Many w X [] := ⟨hX, fun _ _ => 0, fun _ _ h => by simp at h, fun _ _ _ => rfl, fun _ _ h => absurd rfl h, fun _ _ _ h => absurd rfl h⟩
theorem Many.below {w w' : World} {X : Nat → Prop} {l : List (Nat × Ds)} (h : Many w X l) (hb : Below w.heap.size w w') : Many w' X l := by
  obtain ⟨hX, labs, h1, h2, h3, h4⟩ := h
  exact ⟨fun k hk => Nat.lt_of_lt_of_le (hX k hk) hb.size, labs, fun i x hi => (h1 i x hi).below hb, h2, h3, h4⟩
theorem Many.alloc {w : World} {X : Nat → Prop} {l : List (Nat × Ds)} (h : Many w X l) (o : Obj) : Many (w.alloc o) X l := h.below ((Below.refl _ w).alloc (Nat.le_refl _) o)
theorem Many.drew {w : World} {X : Nat → Prop} {l : List (Nat × Ds)} (h : Many w X l) : Many w.drew X l := h.below (Below.refl _ w).drew
theorem labs_lt {w : World} {l : List (Nat × Ds)} {i k : Nat} (labs : Nat → Nat → Nat) (h1 : ∀ i x, l[i]? = some x → DkAt w (labs i) x.1 x.2) (h2 : ∀ i k, l.length ≤ i → labs i k = 0) (hk : labs i k ≠ 0) : k < w.heap.size := by
  rcases Nat.lt_or_ge i l.length with hi | hi
  · exact (h1 i _ (List.getElem?_eq_getElem hi)).1 k hk
  · exact absurd (h2 i k hi) hk
/-- Blocks that were made since, by nobody of the disks, may be told apart too. -/
theorem Many.more {w w' : World} {X Y : Nat → Prop} {l : List (Nat × Ds)} (h : Many w X l) (hb : Below w.heap.size w w') (hY : ∀ k, Y k → X k ∨ (w.heap.size ≤ k ∧ k < w'.heap.size)) : Many w' Y l := by
  obtain ⟨hX, labs, h1, h2, h3, h4⟩ := id h
  refine ⟨fun k hk => ?_, labs, fun i x hi => (h1 i x hi).below hb, h2, fun i k hk hy => ?_, h4⟩
  · rcases hY k hk with h5 | h5
    · exact Nat.lt_of_lt_of_le (hX k h5) hb.size
    · exact h5.2
  · rcases hY k hy with h5 | h5
    · exact h3 i k hk h5
    · have := labs_lt labs h1 h2 hk; omega
/-- A block of X is written. -/
theorem Many.foreign {w w' : World} {X S : Nat → Prop} {l : List (Nat × Ds)} (h : Many w X l) (hk : Kept S w w') (hS : ∀ k, S k → X k ∨ w.heap.size ≤ k) : Many w' X l := by
  obtain ⟨hX, labs, h1, h2, h3, h4⟩ := id h
  refine ⟨fun k hx => Nat.lt_of_lt_of_le (hX k hx) hk.size, labs, fun i x hi => (h1 i x hi).keep (S := fun k => S k ∧ k < w.heap.size) ⟨hk.os, hk.tape, hk.output, hk.size, fun k hlt hn => hk.block k hlt (fun hs => hn ⟨hs, hlt⟩)⟩ (fun k hs => ?_), h2, h3, h4⟩
  by_cases hz : labs i k = 0
  · exact hz
  · rcases hS k hs.1 with hx | hx
    · exact absurd hx (h3 i k hz)
    · exact absurd hs.2 (by omega)
theorem Many.step {w w' : World} {X : Nat → Prop} {l : List (Nat × Ds)} {i g : Nat} {d d' : Ds} {lab' : Nat → Nat} (hX : ∀ k, X k → k < w.heap.size) (labs : Nat → Nat → Nat) (h1 : ∀ i x, l[i]? = some x → DkAt w (labs i) x.1 x.2) (h2 : ∀ i k, l.length ≤ i → labs i k = 0)
    (h3 : ∀ i k, labs i k ≠ 0 → ¬ X k) (h4 : ∀ i j k, labs i k ≠ 0 → labs j k ≠ 0 → i = j) (hi : l[i]? = some (g, d)) (hd : DkAt w' lab' g d') (hs : DkStep w w' (labs i) lab') : Many w' X (l.set i (g, d')) ∧ Out X w w' := by
  have hlt : ∀ j k, labs j k ≠ 0 → k < w.heap.size := by
    intro j k hk
    rcases Nat.lt_or_ge j l.length with hj | hj
    · exact (h1 j _ (List.getElem?_eq_getElem hj)).1 k hk
    · exact absurd (h2 j k hj) hk
  have hil : i < l.length := (List.getElem?_eq_some_iff.1 hi).1
  refine ⟨⟨fun k hk => Nat.lt_of_lt_of_le (hX k hk) hs.1.size, fun j => if j = i then lab' else labs j, fun j x hj => ?_, fun j k hj => ?_, fun j k hk hx => ?_, fun j j' k hk hk' => ?_⟩, hs.1.mono (fun k hk => .inl (h3 i k hk))⟩
  · rw [List.getElem?_set] at hj
    by_cases e : i = j
    · subst e
      rw [if_pos rfl, if_pos hil] at hj
      injection hj with hj
      subst hj
      simpa using hd
    · rw [if_neg e] at hj
      simp only
      rw [if_neg (fun h => e h.symm)]
      refine (h1 j x hj).keep hs.1 (fun k hk => ?_)
      by_cases hz : labs j k = 0
      · exact hz
      · exact absurd (h4 i j k hk hz) e
  · rw [List.length_set] at hj
    simp only
    rw [if_neg (by omega)]; exact h2 j k hj
  · simp only at hk
    split at hk
    · rcases hs.2 k hk with h5 | h5
      · exact h3 i k h5 hx
      · have := hX k hx; omega
    · exact h3 j k hk hx
  · simp only at hk hk'
    by_cases e : j = i
    · by_cases e' : j' = i
      · rw [e, e']
      · rw [if_pos e] at hk
        rw [if_neg e'] at hk'
        rcases hs.2 k hk with h5 | h5
        · rw [e]; exact h4 i j' k h5 hk'
        · have := hlt j' k hk'; omega
    · rw [if_neg e] at hk
      by_cases e' : j' = i
      · rw [if_pos e'] at hk'
        rcases hs.2 k hk' with h5 | h5
        · rw [e']; exact h4 j i k hk h5
        · have := hlt j k hk; omega
      · rw [if_neg e'] at hk'
        exact h4 j j' k hk hk'
/-- What a call of one disk's leaves, of all. -/
theorem many_calls {w : World} {X : Nat → Prop} {l : List (Nat × Ds)} {i g : Nat} {d d' : Ds} {f : FuncId} {args : Array Value} {v : Value} (h : Many w X l) (hi : l[i]? = some (g, d)) (hc : ∀ lab, DkAt w lab g d → Calls Try.prog f args w (DkRet w lab g v d')) :
    Calls Try.prog f args w (fun e w' => e = .returned v ∧ Many w' X (l.set i (g, d')) ∧ Out X w w') := by
  obtain ⟨hX, labs, h1, h2, h3, h4⟩ := h
  refine (hc (labs i) (h1 i _ hi)).mono ?_
  rintro e w' ⟨rfl, lab', hd, hs⟩
  exact ⟨rfl, Many.step hX labs h1 h2 h3 h4 hi hd hs⟩
theorem many_at {w : World} {X : Nat → Prop} {l : List (Nat × Ds)} {i g : Nat} {d : Ds} (h : Many w X l) (hi : l[i]? = some (g, d)) : ∃ lab, DkAt w lab g d := by
  obtain ⟨hX, labs, h1, _⟩ := h
  exact ⟨labs i, h1 i _ hi⟩
theorem set_same {α : Type} {l : List α} {i : Nat} {x : α} (h : l[i]? = some x) : l.set i x = l := by
  obtain ⟨hi, rfl⟩ := List.getElem?_eq_some_iff.1 h
  exact List.set_getElem_self hi

/-- How much a disk holds. -/
def Small (d : Ds) (k : Nat) : Prop := d.writes ≤ k ∧ ∀ r ∈ d.regs, r.ws.length ≤ k ∧ r.left < 9223372036854775808
theorem at_mem {d : Ds} {r : Int} {g : Rg} (h : d.at? r = some g) : g ∈ d.regs := by
  obtain ⟨i, _, _, hi⟩ := at_some h
  exact List.mem_of_getElem? hi
theorem Small.more {d : Ds} {k k' : Nat} (h : Small d k) (hk : k ≤ k') : Small d k' := ⟨Nat.le_trans h.1 hk, fun r hr => ⟨Nat.le_trans (h.2 r hr).1 hk, (h.2 r hr).2⟩⟩
theorem Small.wr {d : Ds} {k : Nat} (h : Small d k) (r s : Int) (b : List UInt8) : Small (d.wr r s b) (k + 1) := by
  unfold Ds.wr
  split
  · exact h.more (by omega)
  · rename_i g hg
    split
    · exact h.more (by omega)
    · split
      · exact h.more (by omega)
      · refine ⟨by have := h.1; simp [Ds.write]; omega, fun x hx => ?_⟩
        rcases List.mem_or_eq_of_mem_set hx with h1 | rfl
        · exact ⟨by have := (h.2 x h1).1; omega, (h.2 x h1).2⟩
        · have h2 := h.2 g (at_mem hg)
          refine ⟨by simp [Rg.write]; omega, ?_⟩
          show (if g.armed then g.left - 1 else g.left) < _
          split <;> omega
theorem Small.br {d : Ds} {k : Nat} (h : Small d k) (r : Int) : Small (d.br r) k := by
  unfold Ds.br
  split
  · exact h
  · rename_i g hg
    split
    · exact h
    · refine ⟨h.1, fun x hx => ?_⟩
      rcases List.mem_or_eq_of_mem_set hx with h1 | rfl
      · exact h.2 x h1
      · exact ⟨Nat.zero_le _, (h.2 g (at_mem hg)).2⟩
theorem Small.ar {d : Ds} {k : Nat} (h : Small d k) (r n : Int) (hn : n < 9223372036854775808) : Small (d.ar r n) k := by
  unfold Ds.ar
  split
  · exact h
  · rename_i g hg
    refine ⟨h.1, fun x hx => ?_⟩
    rcases List.mem_or_eq_of_mem_set hx with h1 | rfl
    · exact h.2 x h1
    · exact ⟨(h.2 g (at_mem hg)).1, by show n.toNat < _; omega⟩
theorem Small.crash {d : Ds} {k : Nat} (h : Small d k) (m : Nat → Bool) : Small (d.crash m) k := by
  refine ⟨h.1, fun x hx => ?_⟩
  obtain ⟨r, _, rfl⟩ := List.mem_map.1 hx
  exact ⟨Nat.zero_le _, by show (0 : Nat) < _; decide⟩
theorem Small.new (n size : Nat) : Small ⟨size, List.replicate n (Rg.new size), 0⟩ 0 := ⟨Nat.le_refl _, fun r hr => by rw [(List.mem_replicate.1 hr).2]; exact ⟨Nat.le_refl _, by show (0 : Nat) < _; decide⟩⟩

section
variable {w : World} {X : Nat → Prop} {l : List (Nat × Ds)} {i g : Nat} {d : Ds}
/-- Write, whatever is handed in. -/
theorem write_many (h : Many w X l) (hi : l[i]? = some (g, d)) (hs : Small d 1000000) (r s : Int) (A : Option Addr) (c : Nat) (b : List UInt8) (hv : Rd w (.slice A b.length c) (u8s b)) :
    Calls Try.prog 6 #[ptr g, .int .i64 r, .int .i64 s, .slice A b.length c] w (fun e w' => e = .returned (.int .i64 (d.wrCode r s b.length)) ∧ Many w' X (l.set i (g, d.wr r s b)) ∧ Out X w w') := by
  refine many_calls h hi (fun lab hd => ?_)
  have stay : ∀ {z : Int}, Calls Try.prog 6 #[ptr g, .int .i64 r, .int .i64 s, .slice A b.length c] w (fun e w' => e = .returned (.int .i64 z) ∧ w = w') → Calls Try.prog 6 #[ptr g, .int .i64 r, .int .i64 s, .slice A b.length c] w (DkRet w lab g (.int .i64 z) d) :=
    fun hc => hc.mono fun e w' ⟨he, hw⟩ => ⟨he, lab, hw ▸ hd, hw ▸ DkStep.refl _ _⟩
  unfold Ds.wrCode Ds.wr
  cases hr : d.at? r with
  | none => exact stay (write_bad0 hd r s A _ c hr)
  | some rg =>
    simp only
    by_cases h1 : s < 0 ∨ (d.size : Int) ≤ s
    · have e : s < 0 ∨ (d.size : Int) ≤ s ∨ 64 < b.length := by omega
      rw [if_pos e, if_pos e]
      exact stay (write_bad1 hd r s A _ c hr h1)
    · obtain ⟨k, rfl⟩ : ∃ k : Nat, s = (k : Int) := ⟨s.toNat, by omega⟩
      by_cases h2 : 64 < b.length
      · have e : (k : Int) < 0 ∨ (d.size : Int) ≤ (k : Int) ∨ 64 < b.length := by omega
        rw [if_pos e, if_pos e]
        exact stay (write_bad2 hd r k A _ c hr (by omega) h2)
      · have e : ¬ ((k : Int) < 0 ∨ (d.size : Int) ≤ (k : Int) ∨ 64 < b.length) := by omega
        rw [if_neg e, if_neg e]
        cases hdn : rg.down
        · have hm := hs.2 rg (at_mem hr)
          exact write_ok hd r k A c b hr (by omega) (by omega) hdn hv hs.1 hm.1 hm.2
        · exact stay (write_down hd r k A _ c hr (by omega) (by omega) hdn)
theorem barrier_many (h : Many w X l) (hi : l[i]? = some (g, d)) (r : Int) : Calls Try.prog 8 #[ptr g, .int .i64 r] w (fun e w' => e = .returned (.int .i64 (d.brCode r)) ∧ Many w' X (l.set i (g, d.br r)) ∧ Out X w w') :=
  many_calls h hi (fun _ hd => barrier_any hd r)
theorem arm_many (h : Many w X l) (hi : l[i]? = some (g, d)) (r n : Int) : Calls Try.prog 10 #[ptr g, .int .i64 r, .int .i64 n] w (fun e w' => e = .returned (.tuple #[]) ∧ Many w' X (l.set i (g, d.ar r n)) ∧ Out X w w') :=
  many_calls h hi (fun _ hd => arm_any hd r n)
theorem crash_many (h : Many w X l) (hi : l[i]? = some (g, d)) (hs : Small d 1000000) (mask : Nat) : Calls Try.prog 9 #[ptr g, .int .u64 (mask : Int)] w (fun e w' => e = .returned (.tuple #[]) ∧ Many w' X (l.set i (g, d.crash (bitOf mask))) ∧ Out X w w') :=
  many_calls h hi (fun lab hd => (crash_any hd mask (fun r hr => (hs.2 r hr).1)).mono fun _ _ ⟨he, h1, h2⟩ => ⟨he, lab, h1, h2⟩)
theorem waits_many (h : Many w X l) (hi : l[i]? = some (g, d)) (r : Int) : Calls Try.prog 13 #[ptr g, .int .i64 r] w fun e w' => e = .returned (.int .i64 (d.waits r : Int)) ∧ w = w' := by
  obtain ⟨lab, hd⟩ := many_at h hi; exact waits_any hd r
theorem dn_many (h : Many w X l) (hi : l[i]? = some (g, d)) (r : Int) : Calls Try.prog 14 #[ptr g, .int .i64 r] w fun e w' => e = .returned (.bool (d.dn r)) ∧ w = w' := by
  obtain ⟨lab, hd⟩ := many_at h hi; exact dn_any hd r
theorem writes_many (h : Many w X l) (hi : l[i]? = some (g, d)) : Calls Try.prog 15 #[ptr g] w fun e w' => e = .returned (.int .i64 (d.writes : Int)) ∧ w = w' := by
  obtain ⟨lab, hd⟩ := many_at h hi; exact writes_any hd
theorem read_many_bad (h : Many w X l) (hi : l[i]? = some (g, d)) (r s : Int) (hn : d.rd? r s = none) : Calls Try.prog 11 #[ptr g, .int .i64 r, .int .i64 s] w fun e w' => e = .returned (.tuple #[.slice none 0 0, .int .i64 1]) ∧ w = w' := by
  obtain ⟨lab, hd⟩ := many_at h hi; exact read_bad hd r s hn
theorem read_many (h : Many w X l) (hi : l[i]? = some (g, d)) (r s : Int) {b : Sec} (hn : d.rd? r s = some b) :
    Calls Try.prog 11 #[ptr g, .int .i64 r, .int .i64 s] w fun e w' => e = .returned (.tuple #[.slice (some ⟨w.heap.size, 0, none⟩) 64 64, .int .i64 0]) ∧ b.length = 64 ∧ Blk w' w.heap.size 5 (blk8 b) ∧ Many w' X l ∧ Below w.heap.size w w' := by
  obtain ⟨lab, hd⟩ := many_at h hi
  exact (read_ok hd r s hn).mono fun _ _ ⟨h1, h2, h3, h4⟩ => ⟨h1, h2, h3, h.below h4, h4⟩
/-- One more disk. -/
theorem new_many (h : Many w X l) (n size : Nat) (h1 : 1 ≤ n) (h2 : n ≤ 64) (h3 : 1 ≤ size) (h4 : size ≤ 65536) :
    Calls Try.prog 5 #[.int .i64 (n : Int), .int .i64 (size : Int)] w fun e w' => ∃ g, e = .returned (ptr g) ∧ Many w' X (l ++ [(g, ⟨size, List.replicate n (Rg.new size), 0⟩)]) ∧ Below w.heap.size w w' := by
  refine (new_yes n size w h1 h2 h3 h4).mono ?_
  rintro e w' ⟨g, lab, rfl, hd, hlab, hb⟩
  obtain ⟨hX, labs, q1, q2, q3, q4⟩ := id h
  refine ⟨g, rfl, ⟨fun k hk => Nat.lt_of_lt_of_le (hX k hk) hb.size, fun j => if j = l.length then lab else labs j, fun j x hj => ?_, fun j k hj => ?_, fun j k hk hx => ?_, fun j j' k hk hk' => ?_⟩, hb⟩
  · by_cases e : j = l.length
    · subst e
      rw [List.getElem?_append_right (Nat.le_refl _)] at hj
      simp at hj
      subst hj
      simpa using hd
    · simp only
      rw [if_neg e]
      have hjl : j < l.length := by have := (List.getElem?_eq_some_iff.1 hj).1; simp at this; omega
      rw [List.getElem?_append_left hjl] at hj
      exact (q1 j x hj).below hb
  · simp at hj
    simp only
    rw [if_neg (by omega)]; exact q2 j k (by omega)
  · simp only at hk
    split at hk
    · have := hlab k hk; have := hX k hx; omega
    · exact q3 j k hk hx
  · simp only at hk hk'
    by_cases e : j = l.length
    · by_cases e' : j' = l.length
      · rw [e, e']
      · rw [if_pos e] at hk
        rw [if_neg e'] at hk'
        have := hlab k hk; have := labs_lt labs q1 q2 hk'; omega
    · rw [if_neg e] at hk
      by_cases e' : j' = l.length
      · rw [if_pos e'] at hk'
        have := hlab k hk'; have := labs_lt labs q1 q2 hk; omega
      · rw [if_neg e'] at hk'
        exact q4 j j' k hk hk'
end
end Go.Proofs.Ythlclhfepnmaeaa
