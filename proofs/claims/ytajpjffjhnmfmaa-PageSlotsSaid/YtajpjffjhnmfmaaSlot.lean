/-
  Contracts of package page: has, Slot, Set.
-/
import Derived.Test.YtajpjffjhnmfmaaCvt
namespace Go.Proofs.Ytajpjffjhnmfmaa
open Go.RowKit

set_option linter.unusedSimpArgs false
set_option linter.unusedVariables false

theorem has_in {w : World} {g : Nat} (i : Nat) (hi : i < 5) :
    Calls Try.prog 26 #[ptr g, .int .i64 (i : Int)] w fun e w' => e = .returned (.bool true) ∧ w = w' := by
  have h1 : (0 : Int) ≤ (i : Int) := by omega
  have h2 : (i : Int) < 5 := by omega
  unfold ptr
  go_enter Try.func26, Try.ntmps26
  go_wp2
  go_ret
  exact ⟨rfl, rfl⟩
theorem has_out {w : World} {g : Nat} (i : Int) (hi : i < 0 ∨ (0 ≤ i ∧ 5 ≤ i)) :
    Calls Try.prog 26 #[ptr g, .int .i64 i] w fun e w' => e = .returned (.bool false) ∧ w = w' := by
  unfold ptr
  rcases hi with h1 | ⟨h0, h1⟩
  · go_enter Try.func26, Try.ntmps26
    go_wp2
    go_ret
    exact ⟨rfl, rfl⟩
  · have e5 : decide (i < 5) = false := decide_eq_false (by omega)
    go_enter Try.func26, Try.ntmps26
    go_wp2
    go_ret
    exact ⟨rfl, rfl⟩
theorem has_nil {w : World} (i : Int) :
    Calls Try.prog 26 #[.pointer none, .int .i64 i] w fun e w' => e = .returned (.bool false) ∧ w = w' := by
  go_enter Try.func26, Try.ntmps26
  go_wp2
  go_ret
  exact ⟨rfl, rfl⟩
theorem slot_in {w : World} {g : Nat} {p : Pg} (h : PgB w g p) (i : Nat) (hi : i < 5) :
    Calls Try.prog 16 #[ptr g, .int .i64 (i : Int)] w fun e w' => e = .returned (.string (p.s i)) ∧ w = w' := by
  have hc := h.slot hi
  have h1 : (0 : Int) ≤ (i : Int) := by omega
  have h2 : (i : Int) < 5 := by omega
  have hh := has_in (w := w) (g := g) i hi
  unfold ptr at *
  go_enter Try.func16, Try.ntmps16
  go_wp2_with (go_at_call 26; refine hh.mono ?_; rintro e w1 ⟨rfl, rfl⟩)
  go_ret
  exact ⟨rfl, rfl⟩
theorem slot_out {w : World} {g : Nat} (i : Int) (hi : i < 0 ∨ (0 ≤ i ∧ 5 ≤ i)) :
    Calls Try.prog 16 #[ptr g, .int .i64 i] w fun e w' => e = .returned (.string ⟨#[]⟩) ∧ w = w' := by
  go_enter Try.func16, Try.ntmps16
  go_wp2_with (go_at_call 26; refine (has_out i hi).mono ?_; rintro e w1 ⟨rfl, rfl⟩)
  go_ret
  exact ⟨rfl, rfl⟩
theorem slot_nil {w : World} (i : Int) :
    Calls Try.prog 16 #[.pointer none, .int .i64 i] w fun e w' => e = .returned (.string ⟨#[]⟩) ∧ w = w' := by
  go_enter Try.func16, Try.ntmps16
  go_wp2_with (go_at_call 26; refine (has_nil i).mono ?_; rintro e w1 ⟨rfl, rfl⟩)
  go_ret
  exact ⟨rfl, rfl⟩
theorem set_out {w : World} {g : Nat} (i : Int) (s : ByteArray) (hi : i < 0 ∨ (0 ≤ i ∧ 5 ≤ i)) :
    Calls Try.prog 19 #[ptr g, .int .i64 i, .string s] w fun e w' => e = .returned (.bool false) ∧ w = w' := by
  go_enter Try.func19, Try.ntmps19
  go_wp2_with (go_at_call 26; refine (has_out i hi).mono ?_; rintro e w1 ⟨rfl, rfl⟩)
  go_ret
  exact ⟨rfl, rfl⟩
theorem set_nil {w : World} (i : Int) (s : ByteArray) :
    Calls Try.prog 19 #[.pointer none, .int .i64 i, .string s] w fun e w' => e = .returned (.bool false) ∧ w = w' := by
  go_enter Try.func19, Try.ntmps19
  go_wp2_with (go_at_call 26; refine (has_nil i).mono ?_; rintro e w1 ⟨rfl, rfl⟩)
  go_ret
  exact ⟨rfl, rfl⟩
/-- May a slot have it? -/
def okB (s : ByteArray) : Bool := decide (s = ⟨#[]⟩) || rowB s.data.toList
theorem okB_row {s : ByteArray} (h : okB s = true) (h0 : s ≠ ⟨#[]⟩) : rowB s.data.toList = true := by
  unfold okB at h
  simp only [Bool.or_eq_true, decide_eq_true_eq] at h
  exact h.resolve_left h0
theorem decE_row {l : List UInt8} (h : rowB l = true) : decE l = 0 := by simp [decE, h]
theorem decE_no {l : List UInt8} (h : rowB l = false) : decE l ≠ 0 := by
  unfold decE
  rw [h, if_neg (by simp)]
  split <;> omega
theorem toList_ne {s : ByteArray} (h : s ≠ ⟨#[]⟩) : ¬ s.toList = [] := by
  intro e
  rw [ByteArray.toList_eq] at e
  obtain ⟨⟨l⟩⟩ := s
  exact h (by simp at e; rw [e])
theorem isEmpty_ne {s : ByteArray} (h : s ≠ ⟨#[]⟩) : s.toList.isEmpty = false := by
  cases e : s.toList with
  | nil => exact absurd e (toList_ne h)
  | cons a b => rfl
/-- What Decode of a slot's text leaves of the world. -/
theorem set_step {w w2 : World} {g : Nat} {p : Pg} {s : ByteArray} (h : PgB w g p) (hb2 : Below (cvtW w s).heap.size (cvtW w s) w2) (o : Obj) : PgB (w2.alloc o) g p ∧ w.grownBy (w2.alloc o) (some g) := by
  refine ⟨((h.below (cvt_below w s)).below hb2).alloc o, ?_⟩
  exact grownBy_below (Below.alloc ((cvt_below w s).trans (hb2.mono (cvt_below w s).size)) (Nat.le_trans (cvt_below w s).size hb2.size) o)
theorem grownBy_own {w w' : World} {g : Nat} (h : w.grownBy w' (some g)) (i : Nat) (u : Value) : w.grownBy (w'.setCell ⟨g, i, none⟩ u) (some g) :=
  ⟨h.os, h.tape, h.output, by have := h.size; simpa [World.setCell] using this, fun k hk hne => (Below.heap_setCell _ _ _ _ (fun e => hne (congrArg some e))).trans (h.block k hk hne)⟩
theorem set_empty {w : World} {g : Nat} {p : Pg} (h : PgB w g p) (i : Nat) (hi : i < 5) :
    Calls Try.prog 19 #[ptr g, .int .i64 (i : Int), .string ⟨#[]⟩] w fun e w' => e = .returned (.bool true) ∧ PgB w' g (p.set i ⟨#[]⟩) ∧ w.grownBy w' (some g) := by
  have hh := has_in (w := w) (g := g) i hi
  have h1 : (0 : Int) ≤ (i : Int) := by omega
  have h2 : (i : Int) < 5 := by omega
  have hcv := run_cvt ⟨#[]⟩ w
  have hrd := hide (cvt_rd w ⟨#[]⟩)
  have HP := hide h
  clear h
  unfold ptr at *
  go_enter Try.func19, Try.ntmps19
  go_wp2_with (first
    | (go_at_call 26; refine hh.mono ?_; rintro e w1 ⟨rfl, rfl⟩)
    | (go_at_call 28; refine (decode_fn _ _ _ hrd.out).mono ?_; unfold decR; generalize decT _ = t; generalize decK _ = k; generalize decV _ = v; generalize decE _ = er; rintro e w2 ⟨rfl, hb2⟩; obtain ⟨P2, G2⟩ := set_step HP.out hb2 (.cells #[.int .i64 t, .string k, .string v] 46); have hc := P2.slot hi; have hf := P2.frozen (3 + i); have HP2 := hide P2; have HG2 := hide G2; clear P2 G2 hb2))
  go_ret
  exact ⟨rfl, HP2.out.set_slot hi _, grownBy_own HG2.out _ _⟩
theorem set_row {w : World} {g : Nat} {p : Pg} (h : PgB w g p) (i : Nat) (hi : i < 5) (s : ByteArray) (h0 : s ≠ ⟨#[]⟩) (hs : rowB s.data.toList = true) :
    Calls Try.prog 19 #[ptr g, .int .i64 (i : Int), .string s] w fun e w' => e = .returned (.bool true) ∧ PgB w' g (p.set i s) ∧ w.grownBy w' (some g) := by
  have hh := has_in (w := w) (g := g) i hi
  have h1 : (0 : Int) ≤ (i : Int) := by omega
  have h2 : (i : Int) < 5 := by omega
  have hcv := run_cvt s w
  have hrd := hide (cvt_rd w s)
  have hs0 := toList_ne h0
  have HE := hide (decE_row hs)
  have HP := hide h
  clear h h0 hs
  unfold ptr at *
  go_enter Try.func19, Try.ntmps19
  go_wp2_with (first
    | (go_at_call 26; refine hh.mono ?_; rintro e w1 ⟨rfl, rfl⟩)
    | (go_at_call 28; refine (decode_fn _ _ _ hrd.out).mono ?_; rw [HE.out]; unfold decR; generalize decT _ = t; generalize decK _ = k; generalize decV _ = v; rintro e w2 ⟨rfl, hb2⟩; obtain ⟨P2, G2⟩ := set_step HP.out hb2 (.cells #[.int .i64 t, .string k, .string v] 46); have hc := P2.slot hi; have hf := P2.frozen (3 + i); have HP2 := hide P2; have HG2 := hide G2; clear P2 G2 hb2))
  go_ret
  exact ⟨rfl, HP2.out.set_slot hi _, grownBy_own HG2.out _ _⟩
theorem set_no {w : World} {g : Nat} {p : Pg} (h : PgB w g p) (i : Nat) (hi : i < 5) (s : ByteArray) (h0 : s ≠ ⟨#[]⟩) (hs : rowB s.data.toList = false) :
    Calls Try.prog 19 #[ptr g, .int .i64 (i : Int), .string s] w fun e w' => e = .returned (.bool false) ∧ PgB w' g p ∧ w.grownBy w' (some g) := by
  have hh := has_in (w := w) (g := g) i hi
  have h1 : (0 : Int) ≤ (i : Int) := by omega
  have h2 : (i : Int) < 5 := by omega
  have hcv := run_cvt s w
  have hrd := hide (cvt_rd w s)
  have hs0 := toList_ne h0
  have hs1 := isEmpty_ne h0
  have hE : (decE s.data.toList != 0) = true := bne_iff_ne.2 (decE_no hs)
  generalize hl : s.data.toList = l at *
  have HP := hide h
  clear h h0 hs hl
  unfold ptr at *
  go_enter Try.func19, Try.ntmps19
  go_wp2_with (first
    | (go_at_call 26; refine hh.mono ?_; rintro e w1 ⟨rfl, rfl⟩)
    | (go_at_call 28; refine (decode_fn _ _ _ hrd.out).mono ?_; unfold decR; generalize decT _ = t; generalize decK _ = k; generalize decV _ = v; generalize decE _ = er at *; rintro e w2 ⟨rfl, hb2⟩; obtain ⟨P2, G2⟩ := set_step HP.out hb2 (.cells #[.int .i64 t, .string k, .string v] 46); have HP2 := hide P2; have HG2 := hide G2; clear P2 G2 hb2))
  go_ret
  exact ⟨rfl, HP2.out, HG2.out⟩
theorem set_in {w : World} {g : Nat} {p : Pg} (h : PgB w g p) (i : Nat) (hi : i < 5) (s : ByteArray) (hs : okB s = true) :
    Calls Try.prog 19 #[ptr g, .int .i64 (i : Int), .string s] w fun e w' => e = .returned (.bool true) ∧ PgB w' g (p.set i s) ∧ w.grownBy w' (some g) := by
  by_cases h0 : s = ⟨#[]⟩
  · subst h0; exact set_empty h i hi
  · exact set_row h i hi s h0 (okB_row hs h0)
/-- Set, whatever the text. -/
def Pg.put (p : Pg) (i : Nat) (s : ByteArray) : Pg := if okB s = true then p.set i s else p
theorem set_any {w : World} {g : Nat} {p : Pg} (h : PgB w g p) (i : Nat) (hi : i < 5) (s : ByteArray) :
    Calls Try.prog 19 #[ptr g, .int .i64 (i : Int), .string s] w fun e w' => e = .returned (.bool (okB s)) ∧ PgB w' g (p.put i s) ∧ w.grownBy w' (some g) := by
  cases hs : okB s
  · have h0 : s ≠ ⟨#[]⟩ := fun e => by subst e; simp [okB] at hs
    have h1 : rowB s.data.toList = false := by
      unfold okB at hs; simp at hs; exact hs.2
    rw [show p.put i s = p by simp [Pg.put, hs]]
    exact set_no h i hi s h0 h1
  · rw [show p.put i s = p.set i s by simp [Pg.put, hs]]
    exact set_in h i hi s hs
end Go.Proofs.Ytajpjffjhnmfmaa
