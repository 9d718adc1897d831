/-
  A page allocated, and stored whole, as operations of a region.
-/
import Derived.Test.YtajpjffjhnmfmaaPDec
import Derived.Test.YtajpjffjhnmfmaaBoxes
namespace Go.Proofs.Ytajpjffjhnmfmaa
open Go.RowKit

set_option linter.unusedSimpArgs false
set_option linter.unusedVariables false

theorem exec_alloc_page {o : Oper} {ac : Act} (ho : o.op = .alloc 35) (w : World) :
    (execOp ac.eval o).run Try.prog w = .ok (.value (.pointer (some ⟨w.heap.size, 0, none⟩))) (w.alloc (.cells #[.int .u64 0, .int .i64 0, .int .i64 0, .string ⟨#[]⟩, .string ⟨#[]⟩, .string ⟨#[]⟩, .string ⟨#[]⟩, .string ⟨#[]⟩] 35)) := by
  unfold execOp
  simp [ho, go_sem]
theorem exec_store_page {o : Oper} {ac : Act} {w : World} {g : Nat} {i j : Nat} {q0 : Pg} {m t n : Int} {a b c x y : ByteArray} (ho : o.op = .store 35 (.tmp i) (.tmp j)) (hp : ac.tmps[i]?.getD undef = .pointer (some ⟨g, 0, none⟩)) (hq : ac.tmps[j]?.getD undef = .agg #[.int .u64 m, .int .i64 t, .int .i64 n, .string a, .string b, .string c, .string x, .string y]) (hB : PgB w g q0) :
    (execOp ac.eval o).run Try.prog w = .ok .skip ((((((((w.setCell ⟨g, 0, none⟩ (.int .u64 m)).setCell ⟨g, 1, none⟩ (.int .i64 t)).setCell ⟨g, 2, none⟩ (.int .i64 n)).setCell ⟨g, 3, none⟩ (.string a)).setCell ⟨g, 4, none⟩ (.string b)).setCell ⟨g, 5, none⟩ (.string c)).setCell ⟨g, 6, none⟩ (.string x)).setCell ⟨g, 7, none⟩ (.string y)) := by
  have c0 := hB.markC
  have c1 := hB.tenC
  have c2 := hB.numC
  obtain ⟨c3, c4, c5, c6, c7⟩ := hB.slots
  have hf := fun i => hB.frozen i
  unfold execOp
  simp [ho, hp, hq, go_sem, c0, c1, c2, c3, c4, c5, c6, c7, hf]
/-- The store as a region's own (gen/XBoxes). -/
theorem store_box {Q : Exit → Act → World → Prop} {o : Oper} {ac : Act} {w : World} {g i j m t n : Nat} {s : Nat → ByteArray} (ho : o.op = .store 35 (.tmp i) (.tmp j)) (hd : o.dst = none) (hp : ac.tmps.getD i undef = .pointer (some ⟨g, 0, none⟩))
    (hq : ac.tmps.getD j undef = .agg #[.int .u64 (m : Int), .int .i64 (t : Int), .int .i64 (n : Int), .string (s 0), .string (s 1), .string (s 2), .string (s 3), .string (s 4)]) (hB : PgB w g pZ) :
    o.wp Try.prog ac w (fun a' w' => a' = ac.put o.dst undef ∧ PgB w' g ⟨m, t, n, s⟩ ∧ Turns (· = g) w w') Q := by
  have h := exec_store_page ho ((Array.getD_eq_getD_getElem? ..).symm.trans hp) ((Array.getD_eq_getD_getElem? ..).symm.trans hq) hB
  unfold Oper.wp
  rw [h]
  refine ⟨by rw [hd], hB.set8 ⟨m, t, n, s⟩, ?_⟩
  exact ((((((((Turns.refl _ _).trans (Turns.own _ g 0 _)).trans (Turns.own _ g 1 _)).trans (Turns.own _ g 2 _)).trans (Turns.own _ g 3 _)).trans (Turns.own _ g 4 _)).trans (Turns.own _ g 5 _)).trans (Turns.own _ g 6 _)).trans (Turns.own _ g 7 _)
end Go.Proofs.Ytajpjffjhnmfmaa
