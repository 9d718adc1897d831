/-
  IndexScans is proved: for every input the statement's function returns true and leaves its arguments as they were. Conditions: none.
-/
import Derived.Test.YtkcomkllnhdohaaScans9
import Derived.Test.YtkcomkllnhdohaaLawS
import Derived.Test.YtkcomkllnhdohaaArgs9
namespace Go.Proofs.Ytkcomkllnhdohaa
open Go.ChangeShapes Go.WideShapes Go.ChangeAt Go.RowKit

set_option maxRecDepth 100000 in
theorem indexScans_lifted (os : Os) (started : os.Started) (H : Type) (enc : TypeId × Value → H) :
    ReturnsInHanded {} Try.checked os 4 .any (Rows.indexScansSpec.pre6 enc Try.prog Try.f4 Rows.indexScansRow.domain false) (Rows.indexScansSpec.post enc Try.prog Try.f4 false true false false) := by
  refine law_lifted_s (C := Try.checked) (t := 4) own started (by kernel_rfl) Try.func4 laidOut (by kernel_rfl) (by kernel_rfl) Try.underlying4 rfl ?_
    (ChangeSpec.witness6 (enc := enc) (C := Try.checked) false ⟨#[], #[.slice none 0 0, .agg #[.string ⟨#[]⟩, .string ⟨#[]⟩], .agg #[.int .i64 0, .int .i64 0]], []⟩ 8 (by kernel_rfl) (by kernel_rfl) (by kernel_rfl) (by kernel_rfl)) ?_
  · intro ds h
    match ds, h with
    | [_, _, _], _ => rfl
  · intro W base args ds p hval0 hA0 hlt hsz0
    have hval : ∀ (j : Nat) t v, Try.f4.params[j]? = some t → args[j]? = some v → Value.okWide Try.prog W .any base t v := hval0
    have hA : DataW.TrodAll enc Try.prog W 0 (fun _ => true) true Try.f4.params.toList args.toList ds p := hA0
    have hsz : ∀ (j : Nat) t d, Try.f4.params[j]? = some t → ds[j]? = some d → ∀ n ∈ d.weights Try.prog t, n ≤ reachBytes := hsz0
    rw [Try.params4] at hA hval hsz
    obtain ⟨v0, v1, v2, d0, d1, d2, p0, p1, p2, rfl, rfl, rfl, h0, h1, h2⟩ := trodAll_three hA
    obtain ⟨cs0, hr0⟩ := open_icalls Try.underlying22 Try.underlying34 (by kernel_rfl) ⟨by kernel_rfl, by kernel_rfl⟩ ⟨by kernel_rfl, by kernel_rfl⟩ Try.underlying3 Try.underlying32 ⟨by kernel_rfl, by kernel_rfl⟩ ⟨by kernel_rfl, by kernel_rfl⟩ ⟨by kernel_rfl, by kernel_rfl⟩ Try.underlying30 (by kernel_rfl) Try.underlying3 Try.underlying9 Try.underlying9 Try.underlying3 Try.underlying3 (hval 0 22 v0 rfl rfl) h0 (fun x hx => hlt x (by simp [hx])) (hsz 0 22 d0 rfl rfl)
    obtain ⟨sa1, sb1, rfl, wa1, wb1⟩ := open_strs2 Try.underlying43 (by kernel_rfl) (by kernel_rfl) Try.underlying9 (hval 1 43 v1 rfl rfl) h1 (hsz 1 43 d1 rfl rfl)
    obtain ⟨ma2, mb2, rfl, wa2, wb2⟩ := open_two_ints Try.underlying44 (by kernel_rfl) (by kernel_rfl) Try.underlying3 (hval 2 44 v2 rfl rfl) h2
    exact scans_walk v0 cs0 sa1 sb1 ma2 mb2 W hr0 wa1 wb1 wa2 wb2

theorem indexScans_holds : Rows.IndexScansSaid :=
  OpenClaim.holds_of_wide 4 Try.f4 rfl rfl rfl rfl rfl rfl rfl ⟨rfl, rfl, rfl, rfl, rfl⟩ rfl rfl rfl rfl rfl (by kernel_rfl) Try.func4 (by kernel_rfl)
    (of_decide_eq_true (by kernel_rfl)) (by unfold Func.isWrapper; first | (rw [if_pos (by decide +kernel)]; kernel_rfl) | (rw [if_neg (by decide +kernel)]; exact ⟨rfl, rfl⟩))
    (fun os started H enc _ => indexScans_lifted os started H enc)
end Go.Proofs.Ytkcomkllnhdohaa
