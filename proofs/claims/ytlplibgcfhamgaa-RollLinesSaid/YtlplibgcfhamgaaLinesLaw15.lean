/-
  RollLines is proved: for every input the statement's function returns true and leaves its arguments as they were. Conditions: none.
-/
import Derived.Test.YtlplibgcfhamgaaLines15
namespace Go.Proofs.Ytlplibgcfhamgaa
open Go.ChangeShapes Go.WideShapes Go.ChangeAt Go.RowKit

set_option maxRecDepth 100000 in
theorem rollLines_lifted (os : Os) (started : os.Started) (H : Type) (enc : TypeId × Value → H) :
    ReturnsInHanded {} Try.checked os 5 .any (Rows.rollLinesSpec.pre6 enc Try.prog Try.f5 Rows.rollLinesRow.domain false) (Rows.rollLinesSpec.post enc Try.prog Try.f5 false true false false) := by
  refine law_lifted (C := Try.checked) (t := 4) own started (by kernel_rfl) Try.func5 laidOut (by kernel_rfl) (by kernel_rfl) Try.underlying4 rfl ?_
    (ChangeSpec.witness6 (enc := enc) (C := Try.checked) false ⟨#[], #[.agg #[.int .u32 0, .int .u32 0], .agg #[.int .u32 0, .int .u32 0], .int .u64 0], []⟩ 8 (by kernel_rfl) (by kernel_rfl) (by kernel_rfl) (by kernel_rfl)) ?_
  · intro ds h
    match ds, h with
    | [_, _, _], _ => rfl
  · intro W base args ds p hval0 hA0 hlt
    have hval : ∀ (j : Nat) t v, Try.f5.params[j]? = some t → args[j]? = some v → Value.okWide Try.prog W .any base t v := hval0
    have hA : DataW.TrodAll enc Try.prog W 0 (fun _ => true) true Try.f5.params.toList args.toList ds p := hA0
    rw [Try.params5] at hA hval
    obtain ⟨v0, v1, v2, d0, d1, d2, p0, p1, p2, rfl, rfl, rfl, h0, h1, h2⟩ := trodAll_three hA
    obtain ⟨ma0, mb0, rfl, wa0, wb0⟩ := open_two_k Try.underlying47 (by kernel_rfl) (by kernel_rfl) Try.underlying23 (hval 0 47 v0 rfl rfl) h0
    obtain ⟨ma1, mb1, rfl, wa1, wb1⟩ := open_two_k Try.underlying47 (by kernel_rfl) (by kernel_rfl) Try.underlying23 (hval 1 47 v1 rfl rfl) h1
    obtain ⟨n2, rfl, rfl, rfl, wn2⟩ := open_int Try.underlying26 (hval 2 26 v2 rfl rfl) h2
    exact lines_walk ma0 mb0 ma1 mb1 n2 W wa0 wb0 wa1 wb1 wn2

theorem rollLines_holds : Rows.RollLinesSaid :=
  OpenClaim.holds_of_wide 5 Try.f5 rfl rfl rfl rfl rfl rfl rfl ⟨rfl, rfl, rfl, rfl, rfl⟩ rfl rfl rfl rfl rfl (by kernel_rfl) Try.func5 (by kernel_rfl)
    (of_decide_eq_true (by kernel_rfl)) (by unfold Func.isWrapper; first | (rw [if_pos (by decide +kernel)]; kernel_rfl) | (rw [if_neg (by decide +kernel)]; exact ⟨rfl, rfl⟩))
    (fun os started H enc _ => rollLines_lifted os started H enc)
end Go.Proofs.Ytlplibgcfhamgaa
