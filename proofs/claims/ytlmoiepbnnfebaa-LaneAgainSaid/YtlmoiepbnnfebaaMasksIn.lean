/-
  A slice of masks that came in.
-/
import Derived.Test.YtlmoiepbnnfebaaFit
namespace Go.Proofs.Ytlmoiepbnnfebaa
open Go.ChangeShapes Go.WideShapes Go.ChangeAt Go.RowKit

section
variable {w : World} {B : Nat} {H : Type} {enc : TypeId × Value → H} {P : Program} {base b0 : Nat} {spare : Nat → Bool} {held : Bool} {r : Reach}
theorem open_u64sl {t e : TypeId} {v : Value} {d : DataW H} {ps : List MemPlace} (ht : P.underlying t = some (.slice e)) (he : P.underlying e = some (.int .u64)) (hc : P.cellsOf e = 1)
    (hval : Value.okWide P w r b0 t v) (hd : DataW.Trod enc P w base spare held t v d ps) (hlt : ∀ x ∈ ps, x.block < B) : ∃ l : List Nat, Row w B v (u64s l) := by
  obtain ⟨a0, len, cap, rfl⟩ := okWide_slice ht hval
  obtain ⟨fuel, hf⟩ := hd
  have hf' : DataW.trod enc P w base spare held fuel t [.slice a0 len cap] = some (d, ps) := by simpa [Value.cells] using hf
  obtain ⟨v, l, h0, h1, _⟩ := open_u64_cells ht he hc hf' hlt
  injection h0 with h0
  rw [h0]
  exact ⟨l, h1⟩
end
end Go.Proofs.Ytlmoiepbnnfebaa
