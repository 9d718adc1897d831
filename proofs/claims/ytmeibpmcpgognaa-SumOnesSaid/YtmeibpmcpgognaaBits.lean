/-
  The walk of SumBits.
-/
import Derived.Test.YtmeibpmcpgognaaFit
import Derived.Deep.RegionHeld3
namespace Go.Proofs.Ytmeibpmcpgognaa
open Go.RowKit Crc

theorem slice8 : Try.prog.underlying 22 = some (.slice (Try.prog.elem 22)) := by kernel_rfl
theorem size8 (w : World) : (sizeOf (Try.prog.elem 22)).run Try.prog w = .ok 1 w := by kernel_rfl

set_option maxHeartbeats 1000000 in
theorem bits_walk (v : Value) (l : List UInt8) (cut : Int) (w : World) (hm : l.length ≤ maxLen) (hv : Rd w v (u8s l)) (_ : (Lit.int .i64 cut).wf = true) :
    Calls Try.prog 3 #[v, .int .i64 cut] w fun e w' => e = .returned (.bool true) ∧ Below w.heap.size w w' := by
  obtain ⟨A, c, rfl, hc, hA⟩ := id hv
  rw [u8s_length] at hA hc hv ⊢
  have hm' := hm
  unfold maxLen at hm
  by_cases hlong : 500 < l.length
  · go_enter Try.func3, Try.ntmps3
    go_wp2_with (go_at_call 8; refine (fit_any _).mono ?_; rintro e w1 ⟨rfl, hb1⟩)
    go_ret
    exact ⟨rfl, hb1⟩
  · have hn1 : -(l.length : Int) ≤ Int.tmod cut ((l.length : Int) + 1) := by
      have := Int.lt_tmod_of_pos cut (b := (l.length : Int) + 1) (by omega); omega
    have hn2 : Int.tmod cut ((l.length : Int) + 1) ≤ (l.length : Int) := by
      have := Int.tmod_lt_of_pos cut (b := (l.length : Int) + 1) (by omega); omega
    go_enter Try.func3, Try.ntmps3
    go_wp2_with (go_at_call 8; refine (fit_any _).mono ?_; rintro e w1 ⟨rfl, hb1⟩)
    obtain ⟨k, hk, hkn⟩ : ∃ k : Nat, (cut.tmod (↑l.length + 1) + ↑l.length + 1) % ((l.length : Int) + 1) = (k : Int) ∧ k ≤ l.length := by
      have h1 := Int.emod_nonneg (cut.tmod (↑l.length + 1) + ↑l.length + 1) (b := (l.length : Int) + 1) (by omega)
      have h2 := Int.emod_lt_of_pos (cut.tmod (↑l.length + 1) + ↑l.length + 1) (b := (l.length : Int) + 1) (by omega)
      exact ⟨((cut.tmod (↑l.length + 1) + ↑l.length + 1) % ((l.length : Int) + 1)).toNat, by omega, by omega⟩
    rw [hk]
    clear hk hn1 hn2
    have hg := hide (hv.below hb1)
    have ha := hide (show Abv w w1 from hb1)
    have HK := hide hkn
    have hlo := fun W => run_low slice8 size8 A l.length c k (by omega) W
    have hhi := fun W => run_high slice8 size8 A l.length c k hkn W
    clear hb1 hv hA
    have hlo2 : (l.take k).length ≤ maxLen := by rw [List.length_take]; omega
    have hlo3 : (l.drop k).length ≤ maxLen := by rw [List.length_drop]; omega
    have h0 : ([] : List UInt8).length ≤ maxLen := Nat.zero_le _
    have HC := hide (List.take_append_drop k l)
    clear hlong hm hkn
    go_region_held3 (fun w' => Rd w' (.slice A l.length c) (u8s l)) (repeat (first | exact hg.out | refine Rd.drew ?_ | refine Rd.alloc ?_ _))
      (first
        | (go_at_call 9; (with_reducible refine (of_blk1 (v := .slice A l.length c) (l := l) ?_ ?_ ?_).mono ?_); (exact (by exact heap_at_drew _ _ (by simp))); (exact hm'); (exact (by repeat (first | exact hg.out | refine Rd.drew ?_ | refine Rd.alloc ?_ _))); rintro e w' ⟨rfl, rfl⟩)
        | (go_at_call 9; (with_reducible refine (of_blk2 (v := .slice A k c) (v2 := .slice (hiA A c k) (l.length - k) (c - k)) (l := l.take k) (l2 := l.drop k) ?_ ?_ ?_ ?_ ?_).mono ?_); (exact (by exact heap_at_drew _ _ (by simp))); (exact hlo2); (exact hlo3); (exact Rd.low (by repeat (first | exact hg.out | refine Rd.drew ?_ | refine Rd.alloc ?_ _)) HK.out); (exact Rd.high (by repeat (first | exact hg.out | refine Rd.drew ?_ | refine Rd.alloc ?_ _)) HK.out); rw [HC.out]; rintro e w' ⟨rfl, rfl⟩)
        | (go_at_call 9; (with_reducible refine (of_blk3 (v := .slice none 0 0) (v2 := .slice A l.length c) (v3 := .slice none 0 0) (l := []) (l2 := l) (l3 := []) ?_ ?_ ?_ ?_ ?_ ?_ ?_).mono ?_); (exact (by exact heap_at_drew _ _ (by simp))); (exact h0); (exact hm'); (exact h0); (exact Rd.nil_ _ _ _); (exact (by repeat (first | exact hg.out | refine Rd.drew ?_ | refine Rd.alloc ?_ _))); (exact Rd.nil_ _ _ _); rw [List.nil_append, List.append_nil]; rintro e w' ⟨rfl, rfl⟩)
        | (go_at_call 9; (with_reducible refine (of_none _).mono ?_); rintro e w' ⟨rfl, rfl⟩)
        | (go_at_call 10; (with_reducible refine (slow8 (l := l) ?_ ?_).mono ?_); (exact hm'); (exact (by repeat (first | exact hg.out | refine Rd.drew ?_ | refine Rd.alloc ?_ _))); rintro e w' ⟨rfl, rfl⟩))
    go_wp2
    go_ret
    exact ⟨rfl, (by repeat (first | exact ha.out | refine Abv.drew ?_ | refine Abv.alloc ?_ _))⟩
end Go.Proofs.Ytmeibpmcpgognaa
