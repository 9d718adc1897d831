/-
  IndexOnce is proved: for every input the statement's function returns true and leaves its arguments as they were. Conditions: none.
-/
import Derived.Test.YtkcomkllnhdohaaOnce9
import Derived.Test.YtkcomkllnhdohaaLawS
namespace Go.Proofs.Ytkcomkllnhdohaa
open Go.ChangeShapes Go.WideShapes Go.ChangeAt Go.RowKit

set_option maxRecDepth 100000 in
theorem indexOnce_lifted (os : Os) (started : os.Started) (H : Type) (enc : TypeId × Value → H) :
    ReturnsInHanded {} Try.checked os 5 .any (Rows.indexOnceSpec.pre6 enc Try.prog Try.f5 Rows.indexOnceRow.domain false) (Rows.indexOnceSpec.post enc Try.prog Try.f5 false true false false) := by
  refine law_lifted_s (C := Try.checked) (t := 4) own started (by kernel_rfl) Try.func5 laidOut (by kernel_rfl) (by kernel_rfl) Try.underlying4 rfl ?_
    (ChangeSpec.witness6 (enc := enc) (C := Try.checked) false ⟨#[], #[.slice none 0 0, .agg #[.int .i64 0, .string ⟨#[]⟩, .string ⟨#[]⟩, .int .i64 0, .int .i64 0]], []⟩ 8 (by kernel_rfl) (by kernel_rfl) (by kernel_rfl) (by kernel_rfl)) ?_
  · intro ds h
    match ds, h with
    | [_, _], _ => rfl
  · intro W base args ds p hval0 hA0 hlt hsz0
    have hval : ∀ (j : Nat) t v, Try.f5.params[j]? = some t → args[j]? = some v → Value.okWide Try.prog W .any base t v := hval0
    have hA : DataW.TrodAll enc Try.prog W 0 (fun _ => true) true Try.f5.params.toList args.toList ds p := hA0
    have hsz : ∀ (j : Nat) t d, Try.f5.params[j]? = some t → ds[j]? = some d → ∀ n ∈ d.weights Try.prog t, n ≤ reachBytes := hsz0
    rw [Try.params5] at hA hval hsz
    obtain ⟨v0, v1, d0, d1, p0, p1, rfl, rfl, rfl, h0, h1⟩ := trodAll_two hA
    obtain ⟨cs0, hr0⟩ := open_icalls Try.underlying22 Try.underlying34 (by kernel_rfl) ⟨by kernel_rfl, by kernel_rfl⟩ ⟨by kernel_rfl, by kernel_rfl⟩ Try.underlying3 Try.underlying32 ⟨by kernel_rfl, by kernel_rfl⟩ ⟨by kernel_rfl, by kernel_rfl⟩ ⟨by kernel_rfl, by kernel_rfl⟩ Try.underlying30 (by kernel_rfl) Try.underlying3 Try.underlying9 Try.underlying9 Try.underlying3 Try.underlying3 (hval 0 22 v0 rfl rfl) h0 (fun x hx => hlt x (by simp [hx])) (hsz 0 22 d0 rfl rfl)
    have hb0 := calls_reach Try.underlying22 (by kernel_rfl) (hval 0 22 v0 rfl rfl) h0 (hsz 0 22 d0 rfl rfl) hr0
    obtain ⟨x1, rfl, hx1⟩ := open_item Try.underlying32 (by kernel_rfl) ⟨by kernel_rfl, by kernel_rfl⟩ ⟨by kernel_rfl, by kernel_rfl⟩ ⟨by kernel_rfl, by kernel_rfl⟩ Try.underlying30 (by kernel_rfl) Try.underlying3 Try.underlying9 Try.underlying9 Try.underlying3 Try.underlying3 (hval 1 32 v1 rfl rfl) h1 (hsz 1 32 d1 rfl rfl)
    exact once_walk v0 cs0 x1 W hr0 hb0 hx1

theorem indexOnce_holds : Rows.IndexOnceSaid :=
  OpenClaim.holds_of_wide 5 Try.f5 rfl rfl rfl rfl rfl rfl rfl ⟨rfl, rfl, rfl, rfl, rfl⟩ rfl rfl rfl rfl rfl (by kernel_rfl) Try.func5 (by kernel_rfl)
    (of_decide_eq_true (by kernel_rfl)) (by unfold Func.isWrapper; first | (rw [if_pos (by decide +kernel)]; kernel_rfl) | (rw [if_neg (by decide +kernel)]; exact ⟨rfl, rfl⟩))
    (fun os started H enc _ => indexOnce_lifted os started H enc)
end Go.Proofs.Ytkcomkllnhdohaa
