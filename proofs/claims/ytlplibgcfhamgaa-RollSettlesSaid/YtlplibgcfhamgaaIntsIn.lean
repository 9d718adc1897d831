/-
  A slice of ints that came in.
-/
import Derived.Test.YtlplibgcfhamgaaFit
namespace Go.Proofs.Ytlplibgcfhamgaa
open Go.ChangeShapes Go.WideShapes Go.ChangeAt Go.RowKit

section
variable {w : World} {B : Nat} {H : Type} {enc : TypeId × Value → H} {P : Program} {base b0 : Nat} {spare : Nat → Bool} {held : Bool} {r : Reach}
theorem open_intsl {t e : TypeId} {v : Value} {d : DataW H} {ps : List MemPlace} (ht : P.underlying t = some (.slice e)) (he : P.underlying e = some (.int .i64)) (hc : P.cellsOf e = 1)
    (hval : Value.okWide P w r b0 t v) (hd : DataW.Trod enc P w base spare held t v d ps) (hlt : ∀ x ∈ ps, x.block < B) : ∃ l : List Int, Row w B v (l.map fun x => .int .i64 x) := by
  obtain ⟨a0, len, cap, rfl⟩ := okWide_slice ht hval
  obtain ⟨fuel, hf⟩ := hd
  have hf' : DataW.trod enc P w base spare held fuel t [.slice a0 len cap] = some (d, ps) := by simpa [Value.cells] using hf
  rcases open_ints ht he hc hf' with ⟨h0, _⟩ | ⟨a, len', cap', zs, h0, _, hlc, hcm, hzl, hx, hcell, _⟩
  · injection h0 with h0
    rw [h0]
    exact ⟨[], Row.nil_ _ _⟩
  · injection h0 with h0
    injection h0 with e1 e2 e3
    subst e1 e2 e3
    have hle : len ≤ zs.length := by rw [hzl]; split <;> omega
    have hlen : ((zs.take len).map fun x => Value.int .i64 x).length = len := by simp; omega
    refine ⟨zs.take len, some a, cap, by rw [hlen], by omega, fun hn => ?_⟩
    rw [hlen] at hn
    have h0 := hcell 0 (by omega)
    have hspot : a.spot = none := by
      have e : a.add 0 = a := by simp [Addr.add]
      rw [e] at h0
      unfold World.cell? at h0
      cases hs : a.spot with
      | none => rfl
      | some k =>
        rw [hs] at h0
        revert h0
        split <;> simp
    obtain ⟨b, o, sp⟩ := a
    obtain rfl : sp = none := hspot
    refine ⟨b, o, rfl, ?_, fun j u hu => ?_⟩
    · have hps : ps = MemPlace.row ⟨b, o, none⟩ zs.length := congrArg Prod.snd hx
      have hz : 0 < zs.length := by omega
      have hmem : MemPlace.cell b (o + 0) ∈ ps := by
        rw [hps]
        simp [MemPlace.row]
        omega
      exact hlt _ hmem
    · have hj : j < len := by
        have := (List.getElem?_eq_some_iff.1 hu).1
        omega
      have h := hcell j (by omega)
      rw [List.getElem?_map, List.getElem?_take_of_lt hj] at hu
      have e : zs[j]? = some (zs.getD j 0) := by simp [List.getD_eq_getElem?_getD, show j < zs.length by omega]
      rw [e] at hu
      injection hu with hu
      rw [← hu]
      have hadd : (⟨b, o, none⟩ : Addr).add j = ⟨b, o + j, none⟩ := by
        simp [Addr.add]
        try omega
      rw [hadd] at h
      exact h
end
end Go.Proofs.Ytlplibgcfhamgaa
