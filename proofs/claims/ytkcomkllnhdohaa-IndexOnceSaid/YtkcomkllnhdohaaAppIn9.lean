/-
  One more item in a list, in a round of a range.
-/
import Derived.Test.YtkcomkllnhdohaaList9
namespace Go.Proofs.Ytkcomkllnhdohaa
open Go.RowKit Go.Shelf
set_option linter.unusedSimpArgs false
set_option linter.unusedVariables false

theorem wpListIn_append_it {P : Program} {ops : Array Oper} {rest : List Oper} {o : Oper} {a : Act} {Q : Exit → Act → World → Prop} {w : World} {l n : Nat} {T : TypeId} {B : Nat} {v : Value} {es : List It} (hgd : o.guard = none) (s y : Operand) {TS : TypeId}
    (ho : o.op = .call { callee := .builtin .append, args := #[s, y], argTypes := #[TS, TS] }) (ht : P.underlying TS = some (.slice T)) {z : Value} {bytes : Nat} (hinfo : (P.info? T).map (fun i => (i.zero, i.size, i.bytes)) = some (some z, 5, bytes)) (hz : z.cells.size = 5) (hby : bytes ≤ 64)
    (hs : a.eval s = v) (h : Its T w B v es) (hlen : es.length ≤ 100000) (hB : B ≤ w.heap.size)
    {b c : Nat} {x : It} (hy : a.eval y = .slice (some ⟨b, 0, none⟩) 1 c) (hc : ∀ i u, x.cells[i]? = some u → w.cell? ⟨b, i, none⟩ = some u)
    (hK : ∀ v' w', Its T w' B v' (es ++ [x]) → w.grownBy w' v.ownBlock → (v'.ownBlock = v.ownBlock ∨ v'.ownBlock = some w.heap.size) → wpListIn (Fence.wide.inRound l) n P ops Q rest (a.put o.dst v') w') : wpListIn (Fence.wide.inRound l) n P ops Q (o :: rest) a w := by
  refine wpListIn_plain hgd fun K hK' => wpIn_of_wp (by rw [ho]; rfl) ?_
  refine wp_append_rows (P := P) s y TS ho (base := B) T z 5 bytes ht hinfo hz (by omega) v es.length (flatI es) hs h b c 1 x.cells hy rfl hc ?_ (by simp only [maxLen]; omega) ?_ hB ?_
  · intro u hu
    simp [It.cells] at hu
    rcases hu with rfl | rfl | rfl | rfl | rfl <;> rfl
  · calc (es.length + 1) * bytes ≤ 100001 * 64 := Nat.mul_le_mul (by omega) hby
      _ ≤ 140737488355328 := by decide
  · intro v' w' h1 h2 h3
    refine hK' _ _ (hK v' w' ?_ h2 h3)
    unfold Its
    rw [List.length_append]
    have : flatI (es ++ [x]) = flatI es ++ x.cells := by unfold flatI; rw [List.flatMap_append]; simp
    rw [this]
    exact h1
end Go.Proofs.Ytkcomkllnhdohaa
