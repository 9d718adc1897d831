/-
  The walk of the example that stands at each statement's head.
-/
import Derived.Test.YtmeibpmcpgognaaSum
import Derived.Lib.SlBytesConst
namespace Go.Proofs.Ytmeibpmcpgognaa
open Go.RowKit Crc

/-- The example's bytes. -/
def nine : List UInt8 := [49, 50, 51, 52, 53, 54, 55, 56, 57]
theorem crc_nine : w32 (crc nine) = (3421780262 : Int) := by decide +kernel

set_option maxHeartbeats 1000000 in
theorem fit_any (w : World) : Calls Try.prog 8 #[] w fun e w' => e = .returned (.bool true) ∧ Below w.heap.size w w' := by
  have kc := fun (w : World) (C : Array Value) (n c : Nat) => Lib.run_convert_bytes_const (P := Try.prog) w 22 5 C n c Try.underlying22 Try.underlying5
  go_enter Try.func8, Try.ntmps8
  go_wp2_with fail
  have hb1 : Row _ (w.heap.size + 1) _ (u8s nine) := Row.new_ w #[.int .u8 49, .int .u8 50, .int .u8 51, .int .u8 52, .int .u8 53, .int .u8 54, .int .u8 55, .int .u8 56, .int .u8 57] 5 (9, 10) (n := 9) (c := 9) rfl (Nat.le_refl _)
  generalize hw1 : w.alloc (.cells #[.int .u8 49, .int .u8 50, .int .u8 51, .int .u8 52, .int .u8 53, .int .u8 54, .int .u8 55, .int .u8 56, .int .u8 57] 5 (9, 10)) = w1 at *
  have hz1 : w1.heap.size = w.heap.size + 1 := by rw [← hw1]; simp
  have hbe1 : Below w.heap.size w w1 := by rw [← hw1]; exact (Below.refl _ _).alloc (Nat.le_refl _) _
  have HW := hide hw1
  clear hw1
  rw [← hz1]
  refine (of_any _ [nine] (w1.heap.size + 1) _ (by decide) (by decide) ⟨[_], rfl, Row.new_ w1 #[.slice (some ⟨w.heap.size, 0, none⟩) 9 9] 22 (0, 0) rfl (Nat.le_refl _), fun i hi => ⟨_, by
    obtain rfl : i = 0 := by simpa using hi
    rfl, by
    obtain rfl : i = 0 := by simpa using hi
    exact (hb1.alloc (by omega) _).more (by omega)⟩⟩).mono ?_
  rintro e w' ⟨rfl, rfl⟩
  rw [show [nine].flatten = nine from rfl, crc_nine]
  go_wp2
  go_ret
  exact ⟨rfl, hbe1.alloc (by omega) _⟩

/-- Of, called with parts that were just laid side by side in a block of the call's own. -/
theorem of_blk1 {w : World} {g : Nat} {v : Value} {l : List UInt8} (hg : w.heap[g]? = some (.cells #[v] 22 (0, 0))) (hm : l.length ≤ maxLen) (hv : Rd w v (u8s l)) :
    Calls Try.prog 9 #[.slice (some ⟨g, 0, none⟩) 1 1] w fun e w' => e = .returned (.int .u32 (w32 (crc l))) ∧ w = w' := by
  have h := of_any (.slice (some ⟨g, 0, none⟩) 1 1) [l] w.heap.size w (by unfold maxLen; simp) (by simpa using hm) ⟨[v], rfl, Rd.of_block hg rfl (Nat.le_refl _), fun i hi => ⟨v, by
    obtain rfl : i = 0 := by simpa using hi
    rfl, by
    obtain rfl : i = 0 := by simpa using hi
    exact hv⟩⟩
  simpa using h
theorem of_blk2 {w : World} {g : Nat} {v v2 : Value} {l l2 : List UInt8} (hg : w.heap[g]? = some (.cells #[v, v2] 22 (0, 0))) (hm : l.length ≤ maxLen) (hm2 : l2.length ≤ maxLen) (hv : Rd w v (u8s l)) (hv2 : Rd w v2 (u8s l2)) :
    Calls Try.prog 9 #[.slice (some ⟨g, 0, none⟩) 2 2] w fun e w' => e = .returned (.int .u32 (w32 (crc (l ++ l2)))) ∧ w = w' := by
  have h := of_any (.slice (some ⟨g, 0, none⟩) 2 2) [l, l2] w.heap.size w (by unfold maxLen; simp) (by simp; exact ⟨hm, hm2⟩) ⟨[v, v2], rfl, Rd.of_block hg rfl (Nat.le_refl _), fun i hi => by
    match i, hi with
    | 0, _ => exact ⟨v, rfl, hv⟩
    | 1, _ => exact ⟨v2, rfl, hv2⟩⟩
  simpa using h
theorem of_blk3 {w : World} {g : Nat} {v v2 v3 : Value} {l l2 l3 : List UInt8} (hg : w.heap[g]? = some (.cells #[v, v2, v3] 22 (0, 0))) (hm : l.length ≤ maxLen) (hm2 : l2.length ≤ maxLen) (hm3 : l3.length ≤ maxLen)
    (hv : Rd w v (u8s l)) (hv2 : Rd w v2 (u8s l2)) (hv3 : Rd w v3 (u8s l3)) :
    Calls Try.prog 9 #[.slice (some ⟨g, 0, none⟩) 3 3] w fun e w' => e = .returned (.int .u32 (w32 (crc (l ++ (l2 ++ l3))))) ∧ w = w' := by
  have h := of_any (.slice (some ⟨g, 0, none⟩) 3 3) [l, l2, l3] w.heap.size w (by unfold maxLen; simp) (by simp; exact ⟨hm, hm2, hm3⟩) ⟨[v, v2, v3], rfl, Rd.of_block hg rfl (Nat.le_refl _), fun i hi => by
    match i, hi with
    | 0, _ => exact ⟨v, rfl, hv⟩
    | 1, _ => exact ⟨v2, rfl, hv2⟩
    | 2, _ => exact ⟨v3, rfl, hv3⟩⟩
  simpa using h
theorem of_none (w : World) : Calls Try.prog 9 #[.slice none 0 0] w fun e w' => e = .returned (.int .u32 0) ∧ w = w' := by
  have h := of_any (.slice none 0 0) [] 0 w (by unfold maxLen; simp) (by simp) ⟨[], rfl, Row.nil_ _ _, fun i hi => by simp at hi⟩
  exact h

theorem slow8 {w : World} {v : Value} {l : List UInt8} (hm : l.length ≤ maxLen) (hv : Rd w v (u8s l)) : Calls Try.prog 10 #[v] w fun e w' => e = .returned (.int .u32 (w32 (crc l))) ∧ w = w' :=
  slow_any v l _ w hm hv
end Go.Proofs.Ytmeibpmcpgognaa
