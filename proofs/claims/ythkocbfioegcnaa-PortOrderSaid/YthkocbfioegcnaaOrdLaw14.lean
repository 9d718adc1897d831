/-
  PortOrder is proved: for every input the statement's function returns true and leaves its arguments as they were. Conditions: none.
-/
import Derived.Test.YthkocbfioegcnaaOrd14
import Derived.Test.YthkocbfioegcnaaLawS
namespace Go.Proofs.Ythkocbfioegcnaa
open Go.ChangeShapes Go.WideShapes Go.ChangeAt Go.RowKit

set_option maxRecDepth 100000 in
theorem portOrder_lifted (os : Os) (started : os.Started) (H : Type) (enc : TypeId × Value → H) :
    ReturnsInHanded {} Try.checked os 10 .any (Rows.portOrderSpec.pre6 enc Try.prog Try.f10 Rows.portOrderRow.domain false) (Rows.portOrderSpec.post enc Try.prog Try.f10 false true false false) := by
  refine law_lifted_s (C := Try.checked) (t := 4) own started (by kernel_rfl) Try.func10 laidOut (by kernel_rfl) (by kernel_rfl) Try.underlying4 rfl ?_
    (ChangeSpec.witness6 (enc := enc) (C := Try.checked) false ⟨#[], #[.slice none 0 0, .slice none 0 0], []⟩ 8 (by kernel_rfl) (by kernel_rfl) (by kernel_rfl) (by kernel_rfl)) ?_
  · intro ds h
    match ds, h with
    | [_, _], _ => rfl
  · intro W base args ds p hval0 hA0 hlt hsz0
    have hval : ∀ (j : Nat) t v, Try.f10.params[j]? = some t → args[j]? = some v → Value.okWide Try.prog W .any base t v := hval0
    have hA : DataW.TrodAll enc Try.prog W 0 (fun _ => true) true Try.f10.params.toList args.toList ds p := hA0
    have hsz : ∀ (j : Nat) t d, Try.f10.params[j]? = some t → ds[j]? = some d → ∀ n ∈ d.weights Try.prog t, n ≤ reachBytes := hsz0
    rw [Try.params10] at hA hval hsz
    obtain ⟨v0, v1, d0, d1, p0, p1, rfl, rfl, rfl, h0, h1⟩ := trodAll_two hA
    obtain ⟨l0, hl0, hr0⟩ := open_bytes Try.underlying26 Try.underlying5 cells8 (hval 0 26 v0 rfl rfl) h0 (fun x hx => hlt x (by simp [hx]))
    obtain ⟨cs1, hr1⟩ := open_rwsw (hval 1 22 v1 rfl rfl) h1 (fun x hx => hlt x (by simp [hx])) (hsz 1 22 d1 rfl rfl)
    exact (fun v1 mo v l w _ hm hv => order_walk v1 mo v l w hm hv) v0 l0 v1 cs1 W hl0 hr0 hr1

theorem portOrder_holds : Rows.PortOrderSaid :=
  OpenClaim.holds_of_wide 10 Try.f10 rfl rfl rfl rfl rfl rfl rfl ⟨rfl, rfl, rfl, rfl, rfl⟩ rfl rfl rfl rfl rfl (by kernel_rfl) Try.func10 (by kernel_rfl)
    (of_decide_eq_true (by kernel_rfl)) (by unfold Func.isWrapper; first | (rw [if_pos (by decide +kernel)]; kernel_rfl) | (rw [if_neg (by decide +kernel)]; exact ⟨rfl, rfl⟩))
    (fun os started H enc _ => portOrder_lifted os started H enc)
end Go.Proofs.Ythkocbfioegcnaa
