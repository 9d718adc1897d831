/-
  Elements of some cells each, in a block that is known whole: copied, cleared, cut.
-/
import Derived.Test.YtkcomkllnhdohaaItsOwn
import Derived.Test.YtkcomkllnhdohaaTieI
import Derived.Laws.CopyRow
import Derived.Lib.SlicesDelete
import Derived.Lib.AppendZerosOnto
import Derived.Shelf.Spec.SlicesInsert
namespace Go.Proofs.Ytkcomkllnhdohaa
open Go.RowKit
set_option maxRecDepth 20000
set_option linter.unusedSimpArgs false
set_option linter.unusedVariables false

section
variable {P : Program}
/-- copy, from cells that are known, into a block that is known whole. -/
theorem run_copy_rowN (w : World) (dT sT ty elem : TypeId) (size g o dLen dCap : Nat) (a : Addr) (sLen sCap : Nat) (cur : Array Value) (t : TypeId) (cs : List Value) (m : Nat)
    (hu : P.underlying dT = some (.slice elem)) (hs : (P.info? elem).map (·.size) = some size)
    (hg : w.heap[g]? = some (.cells cur t (0, 0))) (hm : Nat.min sLen dLen = m) (hn : cs.length = m * size)
    (hsrc : ∀ j v, cs[j]? = some v → w.cell? (a.add j) = some v) (hfit : o + cs.length ≤ cur.size) (h1 : ∀ v ∈ cs, v.oneCell' = true) :
    (Builtin.copy_ #[dT, sT] ty #[.slice (some ⟨g, o, none⟩) dLen dCap, .slice (some a) sLen sCap]).run P w =
      .ok (goInt m) (w.setRow g (cur.toList.take o ++ cs ++ cur.toList.drop (o + cs.length)).toArray) := by
  have hl := run_firstCells_some (P := P) w size m a sLen sCap cs hn hsrc
  have hst := run_storeCells_at P g o t cs 0 cur w hg (by simpa using hfit) h1
  cases hq : P.info? elem with
  | none => simp [hq] at hs
  | some i =>
    have hi : i.size = size := by simpa [hq] using hs
    simp [Builtin.copy_, run_underlying hu, Builtin.lenOf, sizeOf, typeInfo, hq, hi, hm, hl, hst]
/-- clear, of some elements of a block that is known whole. -/
theorem run_clear_rowN (w : World) (t e ty : TypeId) (z : Value) (g o n c : Nat) (cur : Array Value) (bt : TypeId) (zs : List Value) (hu : P.underlying t = some (.slice e)) (hz : ∀ w, (zeroValue e).run P w = .ok z w) (hn : n ≠ 0)
    (hg : w.heap[g]? = some (.cells cur bt (0, 0))) (hzs : (Builtin.zeroCells z.cells n).toList = zs) (hfit : o + zs.length ≤ cur.size) (h1 : ∀ v ∈ zs, v.oneCell' = true) :
    (Builtin.clear_ #[t] ty #[.slice (some ⟨g, o, none⟩) n c]).run P w = .ok (.tuple #[]) (w.setRow g (cur.toList.take o ++ zs ++ cur.toList.drop (o + zs.length)).toArray) := by
  have hst := run_storeCells_at P g o bt zs 0 cur w hg (by simpa using hfit) h1
  simp only [Nat.add_zero] at hst
  cases n with
  | zero => exact absurd rfl hn
  | succ n => simp [Builtin.clear_, run_underlying hu, hz, hzs, hst]
end
theorem sliceI : Try.prog.underlying 25 = some (.slice (Try.prog.elem 25)) := by kernel_rfl
theorem sizeI (w : World) : (sizeOf (Try.prog.elem 25)).run Try.prog w = .ok 5 w := by kernel_rfl
theorem infoI : (Try.prog.info? 32).map (fun i => (i.zero, i.size, i.bytes)) = some (some (.agg #[.int .i64 0, .string ⟨#[]⟩, .string ⟨#[]⟩, .int .i64 0, .int .i64 0]), 5, 56) := by kernel_rfl
theorem infoI5 : (Try.prog.info? 32).map (·.size) = some 5 := by kernel_rfl
/-- Where a slice of items begins that is cut off its first k. -/
def hiI (A : Option Addr) (c k : Nat) : Option Addr := if c = k then A else A.map (·.add (k * 5))
theorem run_highI (A : Option Addr) (n c k : Nat) (hk : k ≤ n) (hc : n ≤ c) (w : World) : (Instr.slice 25 (.slice A n c) (some (.int .i64 (k : Int))) none none).run Try.prog w = .ok (.slice (hiI A c k) (n - k) (c - k)) w := by
  rw [run_slice_l w 25 A n c sliceI .i64 (k : Int) (by omega) (by omega), sizeI]
  simp [Result.andThen, sliced, hiI]
theorem run_lowI (A : Option Addr) (n c k : Nat) (hk : k ≤ c) (w : World) : (Instr.slice 25 (.slice A n c) none (some (.int .i64 (k : Int))) none).run Try.prog w = .ok (.slice A k c) w := by
  rw [run_slice_h w 25 A n c sliceI .i64 (k : Int) (by omega) (by omega), sizeI]
  by_cases h : c = 0
  · have : k = 0 := by omega
    subst h this
    simp [Result.andThen, sliced]
  · simp [Result.andThen, sliced, h]
    cases A <;> simp [Addr.add]
theorem run_cutI (A : Option Addr) (n c k m : Nat) (hk : k ≤ m) (hc : m ≤ c) (w : World) : (Instr.slice 25 (.slice A n c) (some (.int .i64 (k : Int))) (some (.int .i64 (m : Int))) none).run Try.prog w = .ok (.slice (hiI A c k) (m - k) (c - k)) w := by
  rw [run_slice_lh w 25 A n c sliceI .i64 .i64 (k : Int) (m : Int) (by omega) (by omega) (by omega), sizeI]
  simp [Result.andThen, sliced, hiI]
theorem flatI_append (a b : List It) : flatI (a ++ b) = flatI a ++ flatI b := List.flatMap_append
theorem flatI_cons (x : It) (l : List It) : flatI (x :: l) = x.cells ++ flatI l := rfl
theorem flatI_take : ∀ (es : List It) (k : Nat), (flatI es).take (k * 5) = flatI (es.take k)
  | [], k => by simp [flatI]
  | a :: es, 0 => rfl
  | a :: es, k + 1 => by
    rw [List.take_succ_cons, flatI_cons, flatI_cons, ← flatI_take es k, show (k + 1) * 5 = (It.cells a).length + k * 5 by rw [It.cells_length]; omega]
    rw [List.take_length_add_append]
theorem flatI_drop : ∀ (es : List It) (k : Nat), (flatI es).drop (k * 5) = flatI (es.drop k)
  | [], k => by simp [flatI]
  | a :: es, 0 => rfl
  | a :: es, k + 1 => by
    rw [List.drop_succ_cons, flatI_cons, ← flatI_drop es k, show (k + 1) * 5 = (It.cells a).length + k * 5 by rw [It.cells_length]; omega]
    rw [List.drop_length_add_append]
theorem flatI_one (es : List It) : ∀ u ∈ flatI es, u.oneCell' = true := by
  intro u hu
  obtain ⟨x, _, hu⟩ := List.mem_flatMap.1 hu
  simp [It.cells] at hu
  rcases hu with rfl | rfl | rfl | rfl | rfl <;> rfl
theorem It.cells_one (x : It) : ∀ u ∈ x.cells, u.oneCell' = true := by
  intro u hu
  simp [It.cells] at hu
  rcases hu with rfl | rfl | rfl | rfl | rfl <;> rfl
/-- Items of the index's own row: the block as it is. -/
theorem Its.open {T : TypeId} {w : World} {B : Nat} {v : Value} {es : List It} (h : Its T w B v es) (hn : 0 < es.length) :
    ∃ g cap cur, v = .slice (some ⟨g, 0, none⟩) es.length cap ∧ B ≤ g ∧ w.heap[g]? = some (.cells cur T (0, 0)) ∧ es.length ≤ cap ∧ cap ≤ maxLen ∧ cur.size = cap * 5 ∧ cur.toList.take (es.length * 5) = flatI es := by
  rcases h.2 with ⟨rfl, h0⟩ | h
  · omega
  · exact h
theorem Its.cap {T : TypeId} {w : World} {B n c : Nat} {A : Option Addr} {es : List It} (h : Its T w B (.slice A n c) es) : n = es.length ∧ es.length ≤ c := by
  rcases h.2 with ⟨e, h0⟩ | ⟨g, cap, cur, e, _, _, hc, _⟩
  · injection e with _ e1 e2
    subst e1 e2
    omega
  · injection e with _ e1 e2
    subst e1 e2
    exact ⟨rfl, hc⟩
end Go.Proofs.Ytkcomkllnhdohaa
