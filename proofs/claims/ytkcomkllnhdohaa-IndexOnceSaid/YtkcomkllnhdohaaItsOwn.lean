/-
  Items gathered in a slice of one's own: read, set, exchanged, appended to.
-/
import Derived.Test.YtkcomkllnhdohaaItemIn
namespace Go.Proofs.Ytkcomkllnhdohaa
open Go.RowKit
set_option maxRecDepth 20000
set_option linter.unusedSimpArgs false
set_option linter.unusedVariables false

def flatI (es : List It) : List Value := es.flatMap It.cells
theorem It.cells_length (x : It) : x.cells.length = 5 := rfl
theorem flatI_length : ∀ es : List It, (flatI es).length = es.length * 5
  | [] => rfl
  | x :: es => by
    show (x.cells ++ flatI es).length = _
    rw [List.length_append, flatI_length es, It.cells_length, List.length_cons]
    omega
theorem flatI_at : ∀ (es : List It) (j : Nat) (x : It) (i : Nat), es[j]? = some x → i < 5 → (flatI es)[j * 5 + i]? = x.cells[i]?
  | [], j, x, i, h, _ => by simp at h
  | a :: es, 0, x, i, h, hi => by
    obtain rfl : a = x := by simpa using h
    show (a.cells ++ flatI es)[_]? = _
    rw [List.getElem?_append_left (by rw [It.cells_length]; omega), Nat.zero_mul, Nat.zero_add]
  | a :: es, j + 1, x, i, h, hi => by
    show (a.cells ++ flatI es)[_]? = _
    rw [List.getElem?_append_right (by rw [It.cells_length]; omega), It.cells_length, show (j + 1) * 5 + i - 5 = j * 5 + i by omega]
    exact flatI_at es j x i (by simpa using h) hi
theorem flatI_put : ∀ (es : List It) (j : Nat) (x : It), j < es.length → (((((flatI es).set (j * 5) (.int .i64 x.t)).set (j * 5 + 1) (.string x.key)).set (j * 5 + 2) (.string x.val)).set (j * 5 + 3) (.int .i64 x.p)).set (j * 5 + 4) (.int .i64 x.s) = flatI (es.set j x)
  | [], j, x, h => by simp at h
  | a :: es, 0, x, h => rfl
  | a :: es, j + 1, x, h => by
    have ih := flatI_put es j x (by simpa using h)
    have e0 : (j + 1) * 5 = j * 5 + 5 := by omega
    rw [e0]
    show _ = x.cells.take 0 ++ flatI (a :: es.set j x)
    rw [List.take_zero, List.nil_append]
    show _ = a.cells ++ flatI (es.set j x)
    rw [← ih]
    rfl
/-- Items in a slice of one's own. -/
def Its (T : TypeId) (w : World) (B : Nat) (v : Value) (es : List It) : Prop := w.ownsRow B T 5 v es.length (flatI es)
/-- An item stored. -/
def set5 (W : World) (g o : Nat) (x : It) : World := ((((W.setCell ⟨g, o, none⟩ (.int .i64 x.t)).setCell ⟨g, o + 1, none⟩ (.string x.key)).setCell ⟨g, o + 2, none⟩ (.string x.val)).setCell ⟨g, o + 3, none⟩ (.int .i64 x.p)).setCell ⟨g, o + 4, none⟩ (.int .i64 x.s)
section
variable {T : TypeId} {w w' : World} {B g n c : Nat} {v : Value} {es : List It}
theorem Its.nil (T : TypeId) (w : World) (B : Nat) : Its T w B (.slice none 0 0) [] := World.ownsRow_nil _ _ _ _
theorem Its.form (h : Its T w B v es) : ∃ A c, v = .slice A es.length c := by
  rcases h.2 with ⟨rfl, h0⟩ | ⟨g', cap, cur, rfl, _⟩
  · exact ⟨none, 0, by rw [h0]⟩
  · exact ⟨_, _, rfl⟩
/-- Where it lies, if there is one in it. -/
theorem Its.block (h : Its T w B v es) (hn : 0 < es.length) : ∃ g c, v = .slice (some ⟨g, 0, none⟩) es.length c ∧ B ≤ g ∧ g < w.heap.size := by
  rcases h.2 with ⟨rfl, h0⟩ | ⟨g', cap, cur, rfl, hb, hh, _⟩
  · omega
  · exact ⟨g', cap, rfl, hb, (Array.getElem?_eq_some_iff.1 hh).1⟩
theorem Its.kept {row : Option Nat} (h : Its T w B v es) (hg : w.grownBy w' row) (hne : v.ownBlock = none ∨ v.ownBlock ≠ row) : Its T w' B v es := World.ownsRow.kept h hg hne
theorem Its.below (h : Its T w B v es) (hb : Below w.heap.size w w') : Its T w' B v es :=
  World.ownsRow.kept (row := none) h ⟨hb.os, hb.tape, hb.output, hb.size, fun k hk _ => hb.block k hk⟩ (by cases v.ownBlock <;> simp)
theorem Its.lt (h : Its T w B v es) : ∀ k, v.ownBlock = some k → B ≤ k ∧ k < w.heap.size := World.ownsRow.lt h
theorem Its.far {g : Nat} (h : Its T w B v es) (hg : ∀ k, v.ownBlock = some k → k ≠ g) (o : Nat) (u : Value) : Its T (w.setCell ⟨g, o, none⟩ u) B v es := by
  refine World.ownsRow.kept (row := some g) h ⟨rfl, rfl, rfl, by simp, fun k _ hk => heap_setCell_other w ⟨g, o, none⟩ k u (fun e => hk (by simp [e]))⟩ ?_
  cases hb : v.ownBlock with
  | none => exact .inl rfl
  | some k => exact .inr (fun e => hg k hb (Option.some.inj e))
/-- The cells of item j. -/
theorem Its.cells (h : Its T w B (.slice (some ⟨g, 0, none⟩) n c) es) (hn : n = es.length) {j : Nat} {x : It} (hj : es[j]? = some x) : w.cell? ⟨g, j * 5, none⟩ = some (.int .i64 x.t) ∧ w.cell? ⟨g, j * 5 + 1, none⟩ = some (.string x.key) ∧ w.cell? ⟨g, j * 5 + 2, none⟩ = some (.string x.val) ∧ w.cell? ⟨g, j * 5 + 3, none⟩ = some (.int .i64 x.p) ∧ w.cell? ⟨g, j * 5 + 4, none⟩ = some (.int .i64 x.s) := by
  subst hn
  have hjl : j < es.length := (List.getElem?_eq_some_iff.1 hj).1
  have e : ∀ i, i < 5 → w.cell? ⟨g, j * 5 + i, none⟩ = x.cells[i]? := fun i hi => (World.ownsRow.cellAt h (j * 5 + i) (by omega)).trans (flatI_at es j x i hj hi)
  exact ⟨e 0 (by omega), e 1 (by omega), e 2 (by omega), e 3 (by omega), e 4 (by omega)⟩
theorem Its.range (h : Its T w B (.slice (some ⟨g, 0, none⟩) n c) es) (hn : n = es.length) {j : Nat} {x : It} (hj : es[j]? = some x) : w.rangeAt g (j * 5) [.int .i64 x.t, .string x.key, .string x.val, .int .i64 x.p, .int .i64 x.s] := by
  obtain ⟨h0, h1, h2, h3, h4⟩ := h.cells hn hj
  intro i u hu
  match i, hu with
  | 0, hu => simp at hu; subst hu; exact h0
  | 1, hu => simp at hu; subst hu; exact h1
  | 2, hu => simp at hu; subst hu; exact h2
  | 3, hu => simp at hu; subst hu; exact h3
  | 4, hu => simp at hu; subst hu; exact h4
  | i + 5, hu => simp at hu
theorem Its.frozen (h : Its T w B (.slice (some ⟨g, 0, none⟩) n c) es) (hn : n = es.length) (j : Nat) : w.frozen? ⟨g, j, none⟩ = false := by
  subst hn
  exact World.ownsRow.frozenAt h j
/-- Item j set. -/
theorem Its.put (h : Its T w B (.slice (some ⟨g, 0, none⟩) n c) es) (hn : n = es.length) {j : Nat} (hj : j < es.length) (x : It) : Its T (set5 w g (j * 5) x) B (.slice (some ⟨g, 0, none⟩) n c) (es.set j x) := by
  subst hn
  have h1 := (World.ownsRow.stored h (j * 5) (.int .i64 x.t)).1
  have h2 := (World.ownsRow.stored h1 (j * 5 + 1) (.string x.key)).1
  have h3 := (World.ownsRow.stored h2 (j * 5 + 2) (.string x.val)).1
  have h4 := (World.ownsRow.stored h3 (j * 5 + 3) (.int .i64 x.p)).1
  have h5 := (World.ownsRow.stored h4 (j * 5 + 4) (.int .i64 x.s)).1
  rw [flatI_put es j x hj] at h5
  unfold Its
  rw [List.length_set]
  exact h5
theorem set5_kept (w : World) (g o : Nat) (x : It) : Kept (fun k => k = g) w (set5 w g o x) :=
  Kept.trans_same (Kept.trans_same (Kept.trans_same (Kept.trans_same (Kept.setCell w ⟨g, o, none⟩ _) (Kept.setCell _ ⟨g, o + 1, none⟩ _)) (Kept.setCell _ ⟨g, o + 2, none⟩ _)) (Kept.setCell _ ⟨g, o + 3, none⟩ _)) (Kept.setCell _ ⟨g, o + 4, none⟩ _)
/-- One more item, of a slice of one. -/
theorem wpList_append_it {P : Program} {ops : Array Oper} {rest : List Oper} {o : Oper} {a : Act} {Q : Exit → Act → World → Prop} {w : World} (hgd : o.guard = none) (s y : Operand) {TS : TypeId}
    (ho : o.op = .call { callee := .builtin .append, args := #[s, y], argTypes := #[TS, TS] }) (ht : P.underlying TS = some (.slice T)) {z : Value} {bytes : Nat} (hinfo : (P.info? T).map (fun i => (i.zero, i.size, i.bytes)) = some (some z, 5, bytes)) (hz : z.cells.size = 5) (hby : bytes ≤ 64)
    (hs : a.eval s = v) (h : Its T w B v es) (hlen : es.length ≤ 100000) (hB : B ≤ w.heap.size)
    {b c : Nat} {x : It} (hy : a.eval y = .slice (some ⟨b, 0, none⟩) 1 c) (hc : ∀ i u, x.cells[i]? = some u → w.cell? ⟨b, i, none⟩ = some u)
    (hK : ∀ v' w', Its T w' B v' (es ++ [x]) → w.grownBy w' v.ownBlock → (v'.ownBlock = v.ownBlock ∨ v'.ownBlock = some w.heap.size) → wpList P ops Q rest (a.put o.dst v') w') : wpList P ops Q (o :: rest) a w := by
  refine wpList_plain hgd fun K hK' => ?_
  refine wp_append_rows (P := P) s y TS ho (base := B) T z 5 bytes ht hinfo hz (by omega) v es.length (flatI es) hs h b c 1 x.cells hy rfl hc ?_ (by simp only [maxLen]; omega) ?_ hB ?_
  · intro u hu
    simp [It.cells] at hu
    rcases hu with rfl | rfl | rfl | rfl | rfl <;> rfl
  · calc (es.length + 1) * bytes ≤ 100001 * 64 := Nat.mul_le_mul (by omega) hby
      _ ≤ 140737488355328 := by decide
  · intro v' w' h1 h2 h3
    refine hK' _ _ (hK v' w' ?_ h2 h3)
    unfold Its
    rw [List.length_append]
    have : flatI (es ++ [x]) = flatI es ++ x.cells := by unfold flatI; rw [List.flatMap_append]; simp
    rw [this]
    exact h1
end
end Go.Proofs.Ytkcomkllnhdohaa
