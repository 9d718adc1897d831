/-
  The walk of SumBits.
-/
import Derived.Test.YtmeibpmcpgognaaFit
import Derived.Deep.RegionHeld3
namespace Go.Proofs.Ytmeibpmcpgognaa
open Go.RowKit Crc

/-- Of, called with parts that were just laid side by side in a block of the call's own. -/
theorem of_blk1 {w : World} {B g : Nat} {v : Value} {l : List UInt8} (hg : w.heap[g]? = some (.cells #[v] 22 (0, 0))) (hm : l.length ≤ maxLen) (hv : Row w B v (u8s l)) :
    Calls Try.prog 9 #[.slice (some ⟨g, 0, none⟩) 1 1] w fun e w' => e = .returned (.int .u32 (w32 (crc l))) ∧ w = w' := by
  have h := of_any (.slice (some ⟨g, 0, none⟩) 1 1) [l] (max B (g + 1)) w (by unfold maxLen; simp) (by simpa using hm) ⟨[v], rfl, Row.of_block hg rfl (Nat.le_refl _) (by omega), fun i hi => ⟨v, by
    obtain rfl : i = 0 := by simpa using hi
    rfl, by
    obtain rfl : i = 0 := by simpa using hi
    exact hv.more (by omega)⟩⟩
  simpa using h
theorem of_blk2 {w : World} {B g : Nat} {v v2 : Value} {l l2 : List UInt8} (hg : w.heap[g]? = some (.cells #[v, v2] 22 (0, 0))) (hm : l.length ≤ maxLen) (hm2 : l2.length ≤ maxLen) (hv : Row w B v (u8s l)) (hv2 : Row w B v2 (u8s l2)) :
    Calls Try.prog 9 #[.slice (some ⟨g, 0, none⟩) 2 2] w fun e w' => e = .returned (.int .u32 (w32 (crc (l ++ l2)))) ∧ w = w' := by
  have h := of_any (.slice (some ⟨g, 0, none⟩) 2 2) [l, l2] (max B (g + 1)) w (by unfold maxLen; simp) (by simp; exact ⟨hm, hm2⟩) ⟨[v, v2], rfl, Row.of_block hg rfl (Nat.le_refl _) (by omega), fun i hi => by
    match i, hi with
    | 0, _ => exact ⟨v, rfl, hv.more (by omega)⟩
    | 1, _ => exact ⟨v2, rfl, hv2.more (by omega)⟩⟩
  simpa using h
theorem of_blk3 {w : World} {B g : Nat} {v v2 v3 : Value} {l l2 l3 : List UInt8} (hg : w.heap[g]? = some (.cells #[v, v2, v3] 22 (0, 0))) (hm : l.length ≤ maxLen) (hm2 : l2.length ≤ maxLen) (hm3 : l3.length ≤ maxLen)
    (hv : Row w B v (u8s l)) (hv2 : Row w B v2 (u8s l2)) (hv3 : Row w B v3 (u8s l3)) :
    Calls Try.prog 9 #[.slice (some ⟨g, 0, none⟩) 3 3] w fun e w' => e = .returned (.int .u32 (w32 (crc (l ++ (l2 ++ l3))))) ∧ w = w' := by
  have h := of_any (.slice (some ⟨g, 0, none⟩) 3 3) [l, l2, l3] (max B (g + 1)) w (by unfold maxLen; simp) (by simp; exact ⟨hm, hm2, hm3⟩) ⟨[v, v2, v3], rfl, Row.of_block hg rfl (Nat.le_refl _) (by omega), fun i hi => by
    match i, hi with
    | 0, _ => exact ⟨v, rfl, hv.more (by omega)⟩
    | 1, _ => exact ⟨v2, rfl, hv2.more (by omega)⟩
    | 2, _ => exact ⟨v3, rfl, hv3.more (by omega)⟩⟩
  simpa using h
theorem of_none (w : World) : Calls Try.prog 9 #[.slice none 0 0] w fun e w' => e = .returned (.int .u32 0) ∧ w = w' := by
  have h := of_any (.slice none 0 0) [] 0 w (by unfold maxLen; simp) (by simp) ⟨[], rfl, Row.nil_ _ _, fun i hi => by simp at hi⟩
  exact h

theorem slice8 : Try.prog.underlying 22 = some (.slice (Try.prog.elem 22)) := by kernel_rfl
theorem size8 (w : World) : (sizeOf (Try.prog.elem 22)).run Try.prog w = .ok 1 w := by kernel_rfl

/-- What a region of calls of Of keeps: the argument reads as it did; of what was there nothing has turned. -/
structure Good (w : World) (B : Nat) (v : Value) (l : List UInt8) (w' : World) : Prop where
  row : Row w' B v (u8s l)
  bel : Below w.heap.size w w'
  base : B ≤ w.heap.size
theorem Good.alloc {w : World} {B : Nat} {v : Value} {l : List UInt8} {w' : World} (h : Good w B v l w') (o : Obj) : Good w B v l (w'.alloc o) :=
  ⟨h.row.alloc (Nat.le_trans h.base h.bel.size) o, h.bel.alloc h.bel.size o, h.base⟩
theorem Good.drew {w : World} {B : Nat} {v : Value} {l : List UInt8} {w' : World} (h : Good w B v l w') : Good w B v l w'.drew := ⟨h.row.drew, h.bel.drew, h.base⟩

theorem Good.low {w : World} {B : Nat} {A : Option Addr} {n c k : Nat} {l : List UInt8} {w' : World} (h : Good w B (.slice A n c) l w') (hk : k ≤ n) : Row w' B (.slice A k c) (u8s (l.take k)) := by
  rw [u8s_take]; exact h.row.low hk
theorem Good.high {w : World} {B : Nat} {A : Option Addr} {n c k : Nat} {l : List UInt8} {w' : World} (h : Good w B (.slice A n c) l w') (hk : k ≤ n) : Row w' B (.slice (hiA A c k) (n - k) (c - k)) (u8s (l.drop k)) := by
  rw [u8s_drop]; exact h.row.high hk

set_option maxHeartbeats 1000000 in
theorem bits_walk (v : Value) (l : List UInt8) (cut : Int) (B : Nat) (w : World) (hB : B ≤ w.heap.size) (hm : l.length ≤ maxLen) (hv : Row w B v (u8s l)) :
    Calls Try.prog 3 #[v, .int .i64 cut] w fun e w' => e = .returned (.bool true) ∧ Below w.heap.size w w' := by
  obtain ⟨A, c, rfl, hc, hA⟩ := id hv
  rw [u8s_length] at hA hc hv ⊢
  have hm' := hm
  unfold maxLen at hm
  by_cases hlong : 500 < l.length
  · go_enter Try.func3, Try.ntmps3
    go_wp2_with (go_at_call 8; refine (fit_any _).mono ?_; rintro e w1 ⟨rfl, hb1⟩)
    go_ret
    exact ⟨rfl, hb1⟩
  · have hn1 : -(l.length : Int) ≤ Int.tmod cut ((l.length : Int) + 1) := by
      have := Int.lt_tmod_of_pos cut (b := (l.length : Int) + 1) (by omega); omega
    have hn2 : Int.tmod cut ((l.length : Int) + 1) ≤ (l.length : Int) := by
      have := Int.tmod_lt_of_pos cut (b := (l.length : Int) + 1) (by omega); omega
    go_enter Try.func3, Try.ntmps3
    go_wp2_with (go_at_call 8; refine (fit_any _).mono ?_; rintro e w1 ⟨rfl, hb1⟩)
    obtain ⟨k, hk, hkn⟩ : ∃ k : Nat, (cut.tmod (↑l.length + 1) + ↑l.length + 1) % ((l.length : Int) + 1) = (k : Int) ∧ k ≤ l.length := by
      have h1 := Int.emod_nonneg (cut.tmod (↑l.length + 1) + ↑l.length + 1) (b := (l.length : Int) + 1) (by omega)
      have h2 := Int.emod_lt_of_pos (cut.tmod (↑l.length + 1) + ↑l.length + 1) (b := (l.length : Int) + 1) (by omega)
      exact ⟨((cut.tmod (↑l.length + 1) + ↑l.length + 1) % ((l.length : Int) + 1)).toNat, by omega, by omega⟩
    rw [hk]
    clear hk hn1 hn2
    have hg := hide (⟨hv.below (hb1.mono hB), hb1, hB⟩ : Good w B (.slice A l.length c) l w1)
    have HK := hide hkn
    have hlo := fun W => run_low slice8 size8 A l.length c k (by omega) W
    have hhi := fun W => run_high slice8 size8 A l.length c k hkn W
    clear hb1 hv hA hB
    have hlo2 : (l.take k).length ≤ maxLen := by rw [List.length_take]; omega
    have hlo3 : (l.drop k).length ≤ maxLen := by rw [List.length_drop]; omega
    have h0 : ([] : List UInt8).length ≤ maxLen := Nat.zero_le _
    have HC := hide (List.take_append_drop k l)
    clear hlong hm hkn
    go_region_held3 (fun w' => Good w B (.slice A l.length c) l w') (repeat (first | exact hg.out | refine Good.drew ?_ | refine Good.alloc ?_ _))
      (first
        | (go_at_call 9; (with_reducible refine (of_blk1 (B := B) (v := .slice A l.length c) (l := l) ?_ ?_ ?_).mono ?_); (exact (by exact heap_at_drew _ _ (by simp))); (exact hm'); (exact Good.row (w := w) (by repeat (first | exact hg.out | refine Good.drew ?_ | refine Good.alloc ?_ _))); rintro e w' ⟨rfl, rfl⟩)
        | (go_at_call 9; (with_reducible refine (of_blk2 (B := B) (v := .slice A k c) (v2 := .slice (hiA A c k) (l.length - k) (c - k)) (l := l.take k) (l2 := l.drop k) ?_ ?_ ?_ ?_ ?_).mono ?_); (exact (by exact heap_at_drew _ _ (by simp))); (exact hlo2); (exact hlo3); (exact Good.low (w := w) (by repeat (first | exact hg.out | refine Good.drew ?_ | refine Good.alloc ?_ _)) HK.out); (exact Good.high (w := w) (by repeat (first | exact hg.out | refine Good.drew ?_ | refine Good.alloc ?_ _)) HK.out); rw [HC.out]; rintro e w' ⟨rfl, rfl⟩)
        | (go_at_call 9; (with_reducible refine (of_blk3 (B := B) (v := .slice none 0 0) (v2 := .slice A l.length c) (v3 := .slice none 0 0) (l := []) (l2 := l) (l3 := []) ?_ ?_ ?_ ?_ ?_ ?_ ?_).mono ?_); (exact (by exact heap_at_drew _ _ (by simp))); (exact h0); (exact hm'); (exact h0); (exact Row.nil_ _ _); (exact Good.row (w := w) (by repeat (first | exact hg.out | refine Good.drew ?_ | refine Good.alloc ?_ _))); (exact Row.nil_ _ _); rw [List.nil_append, List.append_nil]; rintro e w' ⟨rfl, rfl⟩)
        | (go_at_call 9; (with_reducible refine (of_none _).mono ?_); rintro e w' ⟨rfl, rfl⟩)
        | (go_at_call 10; (with_reducible refine (slow_any _ l B _ ?_ ?_).mono ?_); (exact hm'); (exact Good.row (w := w) (by repeat (first | exact hg.out | refine Good.drew ?_ | refine Good.alloc ?_ _))); rintro e w' ⟨rfl, rfl⟩))
    go_wp2
    go_ret
    exact ⟨rfl, Good.bel (B := B) (v := .slice A l.length c) (l := l) (by repeat (first | exact hg.out | refine Good.drew ?_ | refine Good.alloc ?_ _))⟩
end Go.Proofs.Ytmeibpmcpgognaa
