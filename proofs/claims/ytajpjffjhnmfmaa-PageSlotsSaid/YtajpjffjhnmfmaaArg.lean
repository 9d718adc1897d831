/-
  A row that came in; a pair of ints that came in.
-/
import Derived.Test.YtajpjffjhnmfmaaRight
import Derived.Test.YtajpjffjhnmfmaaRows
import Derived.Lib.SmallJoins
namespace Go.Proofs.Ytajpjffjhnmfmaa
open Go.ChangeShapes Go.WideShapes Go.ChangeAt Go.RowKit Go.Joins

section
variable {H : Type} {enc : TypeId × Value → H} {P : Program} {w : World} {base b0 : Nat} {spare : Nat → Bool} {held : Bool} {r : Reach} {v : Value} {d : DataW H} {ps : List MemPlace}
theorem open_row {t : TypeId} {f0 f1 f2 : Field} (hs : P.underlying t = some (.struct #[f0, f1, f2])) (hone : Go.Deep.oneCellFields P #[f0, f1, f2] = true) (hC : P.cellsOf t = 3)
    (u0 : P.underlying f0.type = some (.int .i64)) (u1 : P.underlying f1.type = some .string) (u2 : P.underlying f2.type = some .string) (hval : Value.okWide P w r b0 t v) (hd : DataW.Trod enc P w base spare held t v d ps) :
    ∃ (n : Int) (k u : ByteArray), v = .agg #[.int .i64 n, .string k, .string u] ∧ (Lit.int .i64 n).wf = true ∧ k.size ≤ maxLen ∧ u.size ≤ maxLen := by
  obtain ⟨v0, v1, v2, y0, y1, y2, m, rfl, _, _, h0, h1, h2⟩ := open_agg3 hs hone hC hval hd
  obtain ⟨n, e0, _, w0⟩ := DataW.trod_int u0 h0
  obtain ⟨k, e1, _, hk⟩ := DataW.trod_string u1 h1
  obtain ⟨u, e2, _, hu⟩ := DataW.trod_string u2 h2
  injection e0 with e0
  injection e1 with e1
  injection e2 with e2
  subst e0 e1 e2
  exact ⟨n, k, u, rfl, w0, hk, hu⟩
theorem open_two_ints {q t : TypeId} (hq : P.underlying q = some (.array 2 t)) (hcq : P.cellsOf q = 2) (hct : P.cellsOf t = 1) (ht : P.underlying t = some (.int .i64)) (hval : Value.okWide P w r b0 q v)
    (hd : DataW.Trod enc P w base spare held q v d ps) : ∃ m0 m1 : Int, v = .agg #[.int .i64 m0, .int .i64 m1] ∧ (Lit.int .i64 m0).wf = true ∧ (Lit.int .i64 m1).wf = true := by
  unfold Value.okWide at hval
  rw [hq] at hval
  obtain ⟨cs, rfl, hcs, _⟩ := hval
  rw [hcq] at hcs
  obtain ⟨fuel, hf⟩ := hd
  have hlist : ∃ a b, cs = #[a, b] := by
    obtain ⟨l⟩ := cs
    match l, hcs with
    | [a, b], _ => exact ⟨a, b, rfl⟩
  obtain ⟨a, b, rfl⟩ := hlist
  cases fuel with
  | zero => simp [DataW.trod] at hf
  | succ fuel =>
    have hf1 : DataW.trod enc P w base spare held (fuel + 1) q [a, b] = some (d, ps) := by simpa [Value.cells] using hf
    unfold DataW.trod at hf1
    rw [hq] at hf1
    simp only [hcq, hct, List.length_cons, List.length_nil, if_true] at hf1
    rw [show List.range 2 = [0, 1] from rfl] at hf1
    simp only [List.mapM_cons, List.mapM_nil, Option.map_eq_some_iff] at hf1
    obtain ⟨xs, hxs, _⟩ := hf1
    cases h0 : DataW.trod enc P w base spare held fuel t [a] with
    | none => simp [h0] at hxs
    | some x0 =>
      cases h1 : DataW.trod enc P w base spare held fuel t [b] with
      | none => simp [h0, h1] at hxs
      | some x1 =>
        obtain ⟨z0, e0, _, w0⟩ := DataW.trod_int ht h0
        obtain ⟨z1, e1, _, w1⟩ := DataW.trod_int ht h1
        injection e0 with e0
        injection e1 with e1
        subst e0 e1
        exact ⟨z0, z1, rfl, w0, w1⟩
/-- A byte that came in. -/
theorem byte_of {n : Int} (h : (Lit.int .u8 n).wf = true) : ∃ x : UInt8, n = (x.toNat : Int) := by
  simp only [Lit.wf, Bool.and_eq_true, decide_eq_true_eq] at h
  have h1 : IntKind.u8.min = 0 := rfl
  have h2 : IntKind.u8.max = 255 := rfl
  rw [h1, h2] at h
  refine ⟨UInt8.ofNat n.toNat, ?_⟩
  rw [UInt8.toNat_ofNat']
  omega
end
end Go.Proofs.Ytajpjffjhnmfmaa
