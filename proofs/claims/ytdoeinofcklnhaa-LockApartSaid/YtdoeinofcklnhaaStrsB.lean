/-
  A slice of strings that came in: it reads as a list of strings (nil let in).
-/
import Derived.Test.YtdoeinofcklnhaaB3
import Derived.SliceStrings
import Derived.Test.YtdoeinofcklnhaaRows
namespace Go.Proofs.Ytdoeinofcklnhaa
open Go.ChangeShapes Go.WideShapes Go.ChangeAt Go.RowKit
set_option maxRecDepth 20000

theorem cellsStr : Try.prog.cellsOf 9 = 1 := by kernel_rfl
/-- Strings as cells hold them. -/
def strsV (l : List ByteArray) : List Value := l.map .string
theorem strsV_length (l : List ByteArray) : (strsV l).length = l.length := List.length_map ..
theorem strsV_get (l : List ByteArray) (j : Nat) (h : j < l.length) : (strsV l)[j]? = some (.string l[j]) := by simp [strsV, h]
/-- A cell that is there, of an address with no spot. -/
theorem str_spot_none {w : World} {a : Addr} {v : Value} (h : w.cell? (a.add 0) = some v) : a.spot = none := by
  have e : a.add 0 = a := by simp [Addr.add]
  rw [e] at h
  unfold World.cell? at h
  cases hs : a.spot with
  | none => rfl
  | some k =>
    rw [hs] at h
    revert h
    split <;> simp
theorem open_strs_row {w : World} {B : Nat} {H : Type} {enc : TypeId × Value → H} {P : Program} {base b0 : Nat} {spare : Nat → Bool} {held : Bool} {r : Reach} {t e : TypeId} {v : Value} {d : DataW H} {ps : List MemPlace}
    (ht : P.underlying t = some (.slice e)) (he : P.underlying e = some .string) (hc : P.cellsOf e = 1) (hval : Value.okWide P w r b0 t v)
    (hd : DataW.Trod enc P w base spare held t v d ps) (hlt : ∀ x ∈ ps, x.block < B) :
    ∃ l : List ByteArray, l.length ≤ maxLen ∧ Row w B v (strsV l) := by
  obtain ⟨a0, len, cap, rfl⟩ := okWide_slice ht hval
  obtain ⟨fuel, hf⟩ := hd
  have hf' : DataW.trod enc P w base spare held fuel t [.slice a0 len cap] = some (d, ps) := by simpa [Value.cells] using hf
  rcases open_strings ht he hc hf' with ⟨h0, _⟩ | ⟨a, len', cap', ss, h0, _, hlc, hcm, hsl, hx, hcell, _⟩
  · injection h0 with h0
    rw [h0]
    exact ⟨[], by simp, Row.nil_ _ _⟩
  · injection h0 with h0
    injection h0 with e1 e2 e3
    subst e1 e2 e3
    have hle : len ≤ ss.length := by rw [hsl]; split <;> omega
    have hlen : (ss.take len).length = len := by rw [List.length_take]; omega
    refine ⟨ss.take len, by omega, some a, cap, by rw [strsV_length, hlen], by rw [strsV_length]; omega, fun hn => ?_⟩
    rw [strsV_length, hlen] at hn
    have hspot := str_spot_none (hcell 0 (by omega))
    obtain ⟨b, o, sp⟩ := a
    obtain rfl : sp = none := hspot
    have hadd : ∀ j, (⟨b, o, none⟩ : Addr).add j = ⟨b, o + j, none⟩ := by
      intro j
      simp [Addr.add]
      try omega
    refine ⟨b, o, rfl, ?_, fun j u hu => ?_⟩
    · have : (MemPlace.row ⟨b, o, none⟩ ss.length) = ps := (congrArg Prod.snd hx).symm
      have hmem : MemPlace.cell b (o + 0) ∈ ps := by
        rw [← this]
        simp [MemPlace.row]
        omega
      exact hlt _ hmem
    · have hj : j < len := by
        have := (List.getElem?_eq_some_iff.1 hu).1
        rw [strsV_length] at this
        omega
      rw [strsV_get _ j (by omega)] at hu
      injection hu with hu
      subst hu
      rw [← hadd, hcell j (by omega)]
      simp [List.getD, show j < ss.length by omega]
end Go.Proofs.Ytdoeinofcklnhaa
