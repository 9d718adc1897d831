/-
  A pair of strings, a pair of ints that came in.
-/
import Derived.Test.YtkcomkllnhdohaaItemIn
namespace Go.Proofs.Ytkcomkllnhdohaa
open Go.ChangeShapes Go.WideShapes Go.ChangeAt Go.RowKit Go.Deep
set_option linter.unusedSimpArgs false
set_option linter.unusedVariables false

section
variable {H : Type} {enc : TypeId × Value → H} {P : Program} {w : World} {base b0 : Nat} {spare : Nat → Bool} {held : Bool} {r : Reach} {v : Value} {d : DataW H} {ps : List MemPlace}
theorem open_pair {q t : TypeId} (hq : P.underlying q = some (.array 2 t)) (hcq : P.cellsOf q = 2) (hct : P.cellsOf t = 1) (hval : Value.okWide P w r b0 q v)
    (hd : DataW.Trod enc P w base spare held q v d ps) : ∃ (a b : Value) (fuel : Nat) (x0 x1 : DataW H × List MemPlace), v = .agg #[a, b] ∧ DataW.trod enc P w base spare held fuel t [a] = some x0 ∧ DataW.trod enc P w base spare held fuel t [b] = some x1 ∧ ∀ n, n ∈ x0.1.weights P t ∨ n ∈ x1.1.weights P t → n ∈ d.weights P q := by
  unfold Value.okWide at hval
  rw [hq] at hval
  obtain ⟨cs, rfl, hcs, _⟩ := hval
  rw [hcq] at hcs
  obtain ⟨fuel, hf⟩ := hd
  have hlist : ∃ a b, cs = #[a, b] := by
    obtain ⟨l⟩ := cs
    match l, hcs with
    | [a, b], _ => exact ⟨a, b, rfl⟩
  obtain ⟨a, b, rfl⟩ := hlist
  cases fuel with
  | zero => simp [DataW.trod] at hf
  | succ fuel =>
    have hf1 : DataW.trod enc P w base spare held (fuel + 1) q [a, b] = some (d, ps) := by simpa [Value.cells] using hf
    unfold DataW.trod at hf1
    rw [hq] at hf1
    simp only [hcq, hct, List.length_cons, List.length_nil, if_true] at hf1
    rw [show List.range 2 = [0, 1] from rfl] at hf1
    simp only [List.mapM_cons, List.mapM_nil, Option.map_eq_some_iff] at hf1
    obtain ⟨xs, hxs, hdp⟩ := hf1
    cases h0 : DataW.trod enc P w base spare held fuel t [a] with
    | none => simp [h0] at hxs
    | some x0 =>
      cases h1 : DataW.trod enc P w base spare held fuel t [b] with
      | none => simp [h0, h1] at hxs
      | some x1 =>
        simp [h0, h1] at hxs
        subst hxs
        simp at hdp
        obtain ⟨hd1, _⟩ := hdp
        subst hd1
        exact ⟨a, b, fuel, x0, x1, rfl, h0, h1, fun n hn => by simpa [DataW.weights, DataW.weightsAll, hq] using hn⟩
theorem open_two_ints {q t : TypeId} (hq : P.underlying q = some (.array 2 t)) (hcq : P.cellsOf q = 2) (hct : P.cellsOf t = 1) (ht : P.underlying t = some (.int .i64)) (hval : Value.okWide P w r b0 q v)
    (hd : DataW.Trod enc P w base spare held q v d ps) : ∃ m0 m1 : Int, v = .agg #[.int .i64 m0, .int .i64 m1] ∧ (Lit.int .i64 m0).wf = true ∧ (Lit.int .i64 m1).wf = true := by
  obtain ⟨a, b, fuel, x0, x1, rfl, h0, h1, _⟩ := open_pair hq hcq hct hval hd
  obtain ⟨z0, e0, _, w0⟩ := DataW.trod_int ht h0
  obtain ⟨z1, e1, _, w1⟩ := DataW.trod_int ht h1
  injection e0 with e0
  injection e1 with e1
  subst e0 e1
  exact ⟨z0, z1, rfl, w0, w1⟩
theorem open_strs2 {q t : TypeId} (hq : P.underlying q = some (.array 2 t)) (hcq : P.cellsOf q = 2) (hct : P.cellsOf t = 1) (ht : P.underlying t = some .string) (hval : Value.okWide P w r b0 q v)
    (hd : DataW.Trod enc P w base spare held q v d ps) (hwt : ∀ n ∈ d.weights P q, n ≤ reachBytes) : ∃ a b : ByteArray, v = .agg #[.string a, .string b] ∧ a.size ≤ 140737488351232 ∧ b.size ≤ 140737488351232 := by
  obtain ⟨a, b, fuel, x0, x1, rfl, h0, h1, hw⟩ := open_pair hq hcq hct hval hd
  obtain ⟨z0, e0, y0, w0⟩ := DataW.trod_string ht h0
  obtain ⟨z1, e1, y1, w1⟩ := DataW.trod_string ht h1
  have s0 : z0.size ≤ 140737488351232 := hwt _ (hw _ (.inl (by subst y0; simp [DataW.weights, ht])))
  have s1 : z1.size ≤ 140737488351232 := hwt _ (hw _ (.inr (by subst y1; simp [DataW.weights, ht])))
  injection e0 with e0
  injection e1 with e1
  subst e0 e1
  exact ⟨z0, z1, rfl, s0, s1⟩
end
end Go.Proofs.Ytkcomkllnhdohaa
