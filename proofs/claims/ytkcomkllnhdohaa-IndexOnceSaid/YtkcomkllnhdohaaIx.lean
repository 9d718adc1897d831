/-
  An index in memory; package row's Less; the closures over a row that a call hands to first.
-/
import Derived.Test.YtkcomkllnhdohaaDel
namespace Go.Proofs.Ytkcomkllnhdohaa
open Go.RowKit
set_option maxRecDepth 20000
set_option linter.unusedSimpArgs false
set_option linter.unusedVariables false

/-- An item's row: as a value, as cells. -/
def It.row (x : It) : Value := .agg #[.int .i64 x.t, .string x.key, .string x.val]
def It.rowc (x : It) : Array Value := #[.int .i64 x.t, .string x.key, .string x.val]
/-- What is looked for. -/
def sought (t : Int) (k : ByteArray) : It := ⟨t, k, ⟨#[]⟩, 0, 0⟩
/-- Block g is an index that has the items xs, in order; r: the block of its items, if there is one. -/
structure Ix (w : World) (g : Nat) (r : Option Nat) (xs : List It) : Prop where
  v : ∃ v, Blk w g 27 #[v] ∧ Its 32 w 0 v xs ∧ v.ownBlock = r
  ne : r ≠ some g
  srt : Srt xs
  few : xs.length ≤ 1000
section
variable {w w' : World} {g : Nat} {r : Option Nat} {xs : List It}
theorem Ix.lt (h : Ix w g r xs) : g < w.heap.size := by
  obtain ⟨v, h1, _⟩ := h.v
  exact h1.lt
theorem Ix.rlt (h : Ix w g r xs) : ∀ k, r = some k → k < w.heap.size := by
  obtain ⟨v, _, h2, h3⟩ := h.v
  intro k hk
  exact (h2.lt k (h3.trans hk)).2
theorem Ix.keep {S : Nat → Prop} (h : Ix w g r xs) (hk : Kept S w w') (h1 : ¬ S g) (h2 : ∀ k, r = some k → ¬ S k) : Ix w' g r xs := by
  obtain ⟨v, h3, h4, h5⟩ := h.v
  exact ⟨⟨v, hk.blk h3 h1, hk.own h4 (fun k e => h2 k (h5.symm.trans e)), h5⟩, h.ne, h.srt, h.few⟩
theorem Ix.below (h : Ix w g r xs) (hb : Below w.heap.size w w') : Ix w' g r xs := h.keep (Kept.of_below (S := fun _ => False) hb) id (fun _ _ => id)
theorem Ix.far (h : Ix w g r xs) {p : Addr} (h1 : g ≠ p.block) (h2 : r ≠ some p.block) (u : Value) : Ix (w.setCell p u) g r xs := h.keep (Kept.setCell w p u) h1 (fun k hk e => h2 (by rw [hk, e]))
/-- An index that was just made. -/
theorem Ix.new_ (w : World) : Ix (w.alloc (.cells #[.slice none 0 0] 27)) w.heap.size none [] := ⟨⟨_, heap_new w _, Its.nil _ _ _, rfl⟩, by simp, List.Pairwise.nil, by simp⟩
end
/-- row.Less. -/
theorem less_it (a b : It) (w : World) : Calls Try.prog 27 #[a.row, b.row] w fun e w' => e = .returned (.bool (itB a b)) ∧ Below w.heap.size w w' := by
  obtain ⟨t, k, v, p, s⟩ := a
  obtain ⟨t', k', v', p', s'⟩ := b
  unfold It.row
  dsimp only
  by_cases h : t = t'
  · subst h
    have H := hide (show itB ⟨t, k, v, p, s⟩ ⟨t, k', v', p', s'⟩ = Op.bytesLess k.toList k'.toList by simp [itB])
    go_enter Try.func27, Try.ntmps27
    go_wp2
    go_ret
    exact ⟨by rw [H.out]; rfl, ((Below.refl _ _).alloc (Nat.le_refl _) _).alloc (by simp) _⟩
  · have H := hide (show itB ⟨t, k, v, p, s⟩ ⟨t', k', v', p', s'⟩ = decide (t < t') by simp [itB, h])
    go_enter Try.func27, Try.ntmps27
    go_wp2
    go_ret
    exact ⟨by rw [H.out]; rfl, ((Below.refl _ _).alloc (Nat.le_refl _) _).alloc (by simp) _⟩
theorem row_cells {w : World} {g : Nat} {t : TypeId} {x : It} (h : Blk w g t x.rowc) : w.cell? ⟨g, 0, none⟩ = some (.int .i64 x.t) ∧ w.cell? ⟨g, 1, none⟩ = some (.string x.key) ∧ w.cell? ⟨g, 2, none⟩ = some (.string x.val) := ⟨h.cell 0 _ rfl, h.cell 1 _ rfl, h.cell 2 _ rfl⟩
theorem ge_find {w : World} {s : Nat} {y : It} (x : It) (h : Blk w s 30 y.rowc) : Calls Try.prog 29 #[x.row, .pointer (some ⟨s, 0, none⟩)] w fun e w' => e = .returned (.bool (!itB x y)) ∧ Below w.heap.size w w' := by
  have h2 := h.alloc (.cells x.rowc 30)
  have h3 : Blk (w.alloc (.cells x.rowc 30)) w.heap.size 30 x.rowc := heap_new w _
  obtain ⟨c0, c1, c2⟩ := row_cells h2
  obtain ⟨d0, d1, d2⟩ := row_cells h3
  have hl := less_it x y
  obtain ⟨xt, xk, xv, xp, xs⟩ := x
  obtain ⟨yt, yk, yv, yp, ys⟩ := y
  have HL := hide hl
  clear hl h2 h3 h
  unfold It.row It.rowc at *
  dsimp only at *
  generalize itB _ _ = b at *
  go_enter Try.func29, Try.ntmps29
  go_wp2_with (go_at_call 27; refine (HL.out _).mono ?_; rintro e w2 ⟨rfl, hb⟩; have HB := hide hb; clear hb)
  go_ret
  exact ⟨rfl, ((Below.refl _ w).alloc (Nat.le_refl _) _).trans (HB.out.mono (by simp))⟩
theorem ge_scan {w : World} {s : Nat} {y : It} (x : It) (h : Blk w s 30 y.rowc) : Calls Try.prog 26 #[x.row, .pointer (some ⟨s, 0, none⟩)] w fun e w' => e = .returned (.bool (!itB x y)) ∧ Below w.heap.size w w' := by
  have h2 := h.alloc (.cells x.rowc 30)
  have h3 : Blk (w.alloc (.cells x.rowc 30)) w.heap.size 30 x.rowc := heap_new w _
  obtain ⟨c0, c1, c2⟩ := row_cells h2
  obtain ⟨d0, d1, d2⟩ := row_cells h3
  have hl := less_it x y
  obtain ⟨xt, xk, xv, xp, xs⟩ := x
  obtain ⟨yt, yk, yv, yp, ys⟩ := y
  have HL := hide hl
  clear hl h2 h3 h
  unfold It.row It.rowc at *
  dsimp only at *
  generalize itB _ _ = b at *
  go_enter Try.func26, Try.ntmps26
  go_wp2_with (go_at_call 27; refine (HL.out _).mono ?_; rintro e w2 ⟨rfl, hb⟩; have HB := hide hb; clear hb)
  go_ret
  exact ⟨rfl, ((Below.refl _ w).alloc (Nat.le_refl _) _).trans (HB.out.mono (by simp))⟩
theorem gt_scan {w : World} {s : Nat} {y : It} (x : It) (h : Blk w s 30 y.rowc) : Calls Try.prog 28 #[x.row, .pointer (some ⟨s, 0, none⟩)] w fun e w' => e = .returned (.bool (itB y x)) ∧ Below w.heap.size w w' := by
  have h2 := h.alloc (.cells x.rowc 30)
  have h3 : Blk (w.alloc (.cells x.rowc 30)) w.heap.size 30 x.rowc := heap_new w _
  obtain ⟨c0, c1, c2⟩ := row_cells h2
  obtain ⟨d0, d1, d2⟩ := row_cells h3
  have hl := less_it y x
  obtain ⟨xt, xk, xv, xp, xs⟩ := x
  obtain ⟨yt, yk, yv, yp, ys⟩ := y
  have HL := hide hl
  clear hl h2 h3 h
  unfold It.row It.rowc at *
  dsimp only at *
  generalize itB _ _ = b at *
  go_enter Try.func28, Try.ntmps28
  go_wp2_with (go_at_call 27; refine (HL.out _).mono ?_; rintro e w2 ⟨rfl, hb⟩; have HB := hide hb; clear hb)
  go_ret
  exact ⟨rfl, ((Below.refl _ w).alloc (Nat.le_refl _) _).trans (HB.out.mono (by simp))⟩
end Go.Proofs.Ytkcomkllnhdohaa
