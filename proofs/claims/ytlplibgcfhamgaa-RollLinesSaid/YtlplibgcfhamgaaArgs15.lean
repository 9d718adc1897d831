/-
  A pair of numbers that came in, of any kind.
-/
import Derived.Test.YtlplibgcfhamgaaFit15
namespace Go.Proofs.Ytlplibgcfhamgaa
open Go.RowKit
set_option maxRecDepth 20000
set_option linter.unusedSimpArgs false
set_option linter.unusedVariables false

open Go.ChangeShapes Go.WideShapes Go.ChangeAt
section
variable {H : Type} {enc : TypeId × Value → H} {P : Program} {w : World} {base b0 : Nat} {spare : Nat → Bool} {held : Bool} {r : Reach} {v : Value} {d : DataW H} {ps : List MemPlace}
theorem open_two_k {ik : IntKind} {q t : TypeId} (hq : P.underlying q = some (.array 2 t)) (hcq : P.cellsOf q = 2) (hct : P.cellsOf t = 1) (ht : P.underlying t = some (.int ik)) (hval : Value.okWide P w r b0 q v)
    (hd : DataW.Trod enc P w base spare held q v d ps) : ∃ m0 m1 : Int, v = .agg #[.int ik m0, .int ik m1] ∧ (Lit.int ik m0).wf = true ∧ (Lit.int ik m1).wf = true := by
  unfold Value.okWide at hval
  rw [hq] at hval
  obtain ⟨cs, rfl, hcs, _⟩ := hval
  rw [hcq] at hcs
  obtain ⟨fuel, hf⟩ := hd
  have hlist : ∃ a b, cs = #[a, b] := by
    obtain ⟨l⟩ := cs
    match l, hcs with
    | [a, b], _ => exact ⟨a, b, rfl⟩
  obtain ⟨a, b, rfl⟩ := hlist
  cases fuel with
  | zero => simp [DataW.trod] at hf
  | succ fuel =>
    have hf1 : DataW.trod enc P w base spare held (fuel + 1) q [a, b] = some (d, ps) := by simpa [Value.cells] using hf
    unfold DataW.trod at hf1
    rw [hq] at hf1
    simp only [hcq, hct, List.length_cons, List.length_nil, if_true] at hf1
    rw [show List.range 2 = [0, 1] from rfl] at hf1
    simp only [List.mapM_cons, List.mapM_nil, Option.map_eq_some_iff] at hf1
    obtain ⟨xs, hxs, _⟩ := hf1
    cases h0 : DataW.trod enc P w base spare held fuel t [a] with
    | none => simp [h0] at hxs
    | some x0 =>
      cases h1 : DataW.trod enc P w base spare held fuel t [b] with
      | none => simp [h0, h1] at hxs
      | some x1 =>
        obtain ⟨z0, e0, _, w0⟩ := DataW.trod_int ht h0
        obtain ⟨z1, e1, _, w1⟩ := DataW.trod_int ht h1
        injection e0 with e0
        injection e1 with e1
        subst e0 e1
        exact ⟨z0, z1, rfl, w0, w1⟩

end
theorem u32_nat {n : Int} (h : (Lit.int .u32 n).wf = true) : ∃ x : Nat, n = x ∧ x < 4294967296 := by
  have h1 : 0 ≤ n ∧ n < 4294967296 := by
    simp only [Lit.wf, Bool.and_eq_true, decide_eq_true_eq] at h
    rw [show IntKind.u32.min = 0 from rfl, show IntKind.u32.max = 4294967295 from rfl] at h
    omega
  exact ⟨n.toNat, by omega, by omega⟩
theorem u64_nat {n : Int} (h : (Lit.int .u64 n).wf = true) : ∃ x : Nat, n = x ∧ x < 18446744073709551616 := by
  have h1 : 0 ≤ n ∧ n < 18446744073709551616 := by
    simp only [Lit.wf, Bool.and_eq_true, decide_eq_true_eq] at h
    rw [show IntKind.u64.min = 0 from rfl, show IntKind.u64.max = 18446744073709551615 from rfl] at h
    omega
  exact ⟨n.toNat, by omega, by omega⟩
end Go.Proofs.Ytlplibgcfhamgaa
