/-
  The law's own 'name'.
-/
import Derived.Test.YtkcomkllnhdohaaLight
namespace Go.Proofs.Ytkcomkllnhdohaa
open Go.RowKit Go.Shelf
set_option linter.unusedSimpArgs false
set_option linter.unusedVariables false

theorem and3_low (m : Nat) (h : m < 4) : bits .and .i64 (m : Int) 3 = (m : Int) := by
  match m, h with
  | 0, _ => decide
  | 1, _ => decide
  | 2, _ => decide
  | 3, _ => decide
theorem u8_low (m : Nat) (h : m < 4) : IntKind.u8.wrap (m : Int) = (m : Int) := by
  match m, h with
  | 0, _ => decide
  | 1, _ => decide
  | 2, _ => decide
  | 3, _ => decide
theorem nm_string {x : It} {m : Nat} (hm : x.t = (m : Int)) : (⟨#[UInt8.ofNat m]⟩ : ByteArray) ++ x.key = nm x := by
  unfold nm
  rw [hm]
  apply ByteArray.ext
  simp [ByteArray.data_append]
theorem name_any (x : It) (hin : x.In) (hk : x.key.size ≤ 140737488351232) (w : World) : Calls Try.prog 13 #[x.v] w fun e w' => e = .returned (.string (nm x)) ∧ Below w.heap.size w w' := by
  obtain ⟨m, hm⟩ : ∃ m : Nat, x.t = (m : Int) := ⟨x.t.toNat, by have := hin.1; omega⟩
  have h4 : m < 4 := by have := hin.2; omega
  have HN := hide (nm_string hm)
  have ha := and3_low m h4
  have hw := u8_low m h4
  have hb8 : (#[.int .u8 (m : Int)] : Array Value) = blk8 [UInt8.ofNat m] := by
    have e : (UInt8.ofNat m).toNat = m := by rw [UInt8.toNat_ofNat']; omega
    simp [blk8, u8s, e]
  have hcv := conv_blk (w := (w.alloc (.cells #[.int .i64 (m : Int), .string x.key, .string x.val, .int .i64 x.p, .int .i64 x.s] 32)).alloc (.cells #[.int .u8 (m : Int)] 5)) (g := w.heap.size + 1) (t := 5) (l := [UInt8.ofNat m]) 1 rfl (by rw [← hb8]; exact heap_at _ _ (by simp))
  clear hb8
  unfold It.v
  rw [hm]
  clear hm hin
  go_enter Try.func13, Try.ntmps13
  go_wp2
  go_ret
  exact ⟨by rw [← HN.out]; rfl, ((Below.refl _ _).alloc (Nat.le_refl _) _).alloc (by simp) _⟩
end Go.Proofs.Ytkcomkllnhdohaa
