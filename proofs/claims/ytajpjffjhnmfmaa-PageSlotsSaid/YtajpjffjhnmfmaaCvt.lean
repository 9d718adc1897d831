/-
  '[]byte(s)' of any text.
-/
import Derived.Test.YtajpjffjhnmfmaaPage
import Derived.Lib.ConvBytes
namespace Go.Proofs.Ytajpjffjhnmfmaa
open Go.RowKit

set_option linter.unusedSimpArgs false
set_option linter.unusedVariables false

/-- The world behind it. -/
def cvtW (W : World) (s : ByteArray) : World := Lib.bytesWorld W 5 s
def cvtV (W : World) (s : ByteArray) : Value := .slice (some ⟨W.heap.size, 0, none⟩) s.size (grownCap W s.size 0 5)
theorem run_cvt (s : ByteArray) (W : World) : (convert 9 31 (.string s)).run Try.prog W = .ok (cvtV W s) (cvtW W s) :=
  Lib.run_convert_string_bytes W 9 31 5 s Try.underlying9 Try.underlying31 Try.underlying5
theorem cvt_below (W : World) (s : ByteArray) : Below W.heap.size W (cvtW W s) := by
  have hb := Lib.bytesWorld_at_old W 5 s
  refine ⟨?_, ?_, ?_, ?_, hb⟩
  · show (Lib.bytesWorld W 5 s).os = _
    rfl
  · rfl
  · rfl
  · show _ ≤ (Lib.bytesWorld W 5 s).heap.size
    rw [Lib.bytesWorld_size]; omega
theorem cvt_rd (W : World) (s : ByteArray) : Rd (cvtW W s) (cvtV W s) (u8s s.data.toList) := by
  have hl : (u8s s.data.toList).length = s.size := by rw [u8s_length]; exact Array.length_toList
  refine ⟨_, _, by rw [hl]; rfl, ?_, fun _ => ⟨W.heap.size, 0, rfl, ?_, fun j u hu => ?_⟩⟩
  · rw [hl]
    exact grownCap_ge W s.size 0 _
  · show _ < (Lib.bytesWorld W 5 s).heap.size
    rw [Lib.bytesWorld_size]; omega
  · have hj : j < (u8s s.data.toList).length := (List.getElem?_eq_some_iff.1 hu).1
    rw [hl] at hj
    have hj2 : j < s.data.toList.length := by rw [Array.length_toList]; exact hj
    rw [u8s_get _ j hj2] at hu
    injection hu with hu
    subst hu
    rw [Nat.zero_add]
    refine (Lib.bytesWorld_cell W 5 s j hj).trans ?_
    simp [List.getD, hj]
end Go.Proofs.Ytajpjffjhnmfmaa
