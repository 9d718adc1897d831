/-
  A call's box; names' sizes; what a store of an item makes of a map and of a list side by side.
-/
import Derived.Test.YtkcomkllnhdohaaGrowIn9
namespace Go.Proofs.Ytkcomkllnhdohaa
open Go.RowKit
set_option linter.unusedSimpArgs false
set_option linter.unusedVariables false

theorem call_cells {w : World} {g : Nat} {t : TypeId} {k : Int} {x : It} (h : Blk w g t #[.int .i64 k, .int .i64 x.t, .string x.key, .string x.val, .int .i64 x.p, .int .i64 x.s]) :
    w.cell? ⟨g, 0, none⟩ = some (.int .i64 k) ∧ w.cell? ⟨g, 1, none⟩ = some (.int .i64 x.t) ∧ w.cell? ⟨g, 2, none⟩ = some (.string x.key) ∧ w.cell? ⟨g, 3, none⟩ = some (.string x.val) ∧ w.cell? ⟨g, 4, none⟩ = some (.int .i64 x.p) ∧ w.cell? ⟨g, 5, none⟩ = some (.int .i64 x.s) :=
  ⟨h.cell 0 _ rfl, h.cell 1 _ rfl, h.cell 2 _ rfl, h.cell 3 _ rfl, h.cell 4 _ rfl, h.cell 5 _ rfl⟩
theorem nm_size {x : It} (h : x.key.size ≤ 140737488351232) : (nm x).size ≤ maxLen := by
  have e : (nm x).size = 1 + x.key.size := by
    show (#[UInt8.ofNat x.t.toNat] ++ x.key.data).size = _
    rw [Array.size_append]
    rfl
  rw [e]
  unfold maxLen
  omega
/-- An item whose table is one of the four. -/
def It.low (x : It) (m : Nat) : It := ⟨(m : Int), x.key, x.val, x.p, x.s⟩
theorem It.low_in (x : It) {m : Nat} (h : m < 4) : (x.low m).In := by
  unfold It.In It.low
  dsimp only
  omega
theorem tie_len {f : ByteArray → Option It} {c n : Nat} {xs : List It} (h : TieI f c xs) (hc : c ≤ n) (x : It) : (if (f (nm x)).isSome then c else c + 1) ≤ n + 1 := by
  split <;> omega
theorem ICallRow.below_all {w w' : World} {v : Value} {cs : List ICall} (h : ICallRow w w.heap.size v cs) (hb : Below w.heap.size w w') : ICallRow w' w'.heap.size v cs := (h.below hb).more hb.size
/-- sorted, beside other things of the call's own. -/
theorem ow_sorted {A0 W : World} {F0 : Nat → Prop} {L : List Rsc} {i b n c : Nat} {f : ByteArray → Option It} {xs : List It} (h : Ow A0 F0 W L) (hi : L[i]? = some (.map b n f c)) (tie : TieI f c xs) (hc : c ≤ 200) :
    Calls Try.prog 17 #[.map (some b)] W fun e W' => ∃ v, e = .returned v ∧ Ow A0 F0 W' (L ++ [.its v xs]) := by
  refine (sorted_any (h.map hi) tie hc).mono ?_
  rintro e W' ⟨v, rfl, h1, h2⟩
  exact ⟨v, rfl, h.push h2 ⟨h1.low (Nat.zero_le _), fun k hk => (h1.lt k hk).1⟩⟩
/-- What Find says, and what a map says that was kept beside it. -/
theorem tie_find {f : ByteArray → Option It} {c : Nat} {xs : List It} (h : TieI f c xs) {x : It} (hx : x.In) : gotL (sought x.t x.key) xs = (f (nm x)).getD default ∧ hasL (sought x.t x.key) xs = (f (nm x)).isSome := by
  obtain ⟨h1, h2, _⟩ := hasL_key (same_sought x) xs
  rw [h1, h2, h.find hx]
  exact ⟨rfl, rfl⟩
theorem name_agg (x : It) (hin : x.In) (hk : x.key.size ≤ 140737488351232) (w : World) : Calls Try.prog 13 #[.agg #[.int .i64 x.t, .string x.key, .string x.val, .int .i64 x.p, .int .i64 x.s]] w fun e w' => e = .returned (.string (nm x)) ∧ Below w.heap.size w w' := name_any x hin hk w
theorem and1 (x : Int) : bits .and .i64 x 1 = 0 ∨ bits .and .i64 x 1 = 1 := by
  obtain ⟨m, h1, h2⟩ := and_low x 1 (by omega)
  have h3 : bits .and .i64 x 1 = (m : Int) := h2
  rw [h3]
  omega
end Go.Proofs.Ytkcomkllnhdohaa
