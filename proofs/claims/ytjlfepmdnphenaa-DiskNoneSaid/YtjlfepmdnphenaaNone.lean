/-
  The walk of DiskNone.
-/
import Derived.Test.YtjlfepmdnphenaaFit
namespace Go.Proofs.Ytjlfepmdnphenaa
open Go.RowKit

theorem new_there (n size : Int) (w : World) (h1 : 1 ≤ n) (h2 : n ≤ 64) (h3 : 1 ≤ size) (h4 : size ≤ 65536) :
    Calls Try.prog 12 #[.int .i64 n, .int .i64 size] w fun e w' => ∃ g, e = .returned (.pointer (some ⟨g, 0, none⟩)) ∧ Below w.heap.size w w' := by
  obtain ⟨a, rfl⟩ : ∃ a : Nat, n = (a : Int) := ⟨n.toNat, by omega⟩
  obtain ⟨b, rfl⟩ : ∃ b : Nat, size = (b : Int) := ⟨size.toNat, by omega⟩
  exact (new_yes a b w (by omega) (by omega) (by omega) (by omega)).mono fun e w' ⟨g, lab, he, _, _, hb⟩ => ⟨g, he, hb⟩
theorem new_A (m : Int) (w : World) (h1 : 1 ≤ m) (h2 : m ≤ 64) : Calls Try.prog 12 #[.int .i64 m, .int .i64 3] w fun e w' => ∃ g, e = .returned (.pointer (some ⟨g, 0, none⟩)) ∧ Below w.heap.size w w' := new_there m 3 w h1 h2 (by omega) (by omega)
theorem new_A0 (m : Int) (w : World) (h : m < 1 ∨ 64 < m) : Calls Try.prog 12 #[.int .i64 m, .int .i64 3] w fun e w' => e = .returned (.pointer none) ∧ w = w' := new_no m 3 w (by omega)
theorem new_B (s : Int) (w : World) (h1 : 1 ≤ s) (h2 : s < 100) : Calls Try.prog 12 #[.int .i64 1, .int .i64 s] w fun e w' => ∃ g, e = .returned (.pointer (some ⟨g, 0, none⟩)) ∧ Below w.heap.size w w' := new_there 1 s w (by omega) (by omega) h1 (by omega)
theorem new_B0 (s : Int) (w : World) (h : s < 1) : Calls Try.prog 12 #[.int .i64 1, .int .i64 s] w fun e w' => e = .returned (.pointer none) ∧ w = w' := new_no 1 s w (by omega)
theorem new_C (w : World) : Calls Try.prog 12 #[.int .i64 1, .int .i64 65537] w fun e w' => e = .returned (.pointer none) ∧ w = w' := new_no 1 65537 w (by omega)

set_option maxHeartbeats 4000000 in
theorem none_walk (n size : Int) (w : World) (_ : (Lit.int .i64 n).wf = true) (_ : (Lit.int .i64 size).wf = true) :
    Calls Try.prog 5 #[.int .i64 n, .int .i64 size] w fun e w' => e = .returned (.bool true) ∧ Below w.heap.size w w' := by
  obtain ⟨m, hmm⟩ : ∃ m, n.tmod 70 = m := ⟨_, rfl⟩
  have hs : (1 ≤ size ∧ size < 100) ∨ size < 1 ∨ 100 ≤ size := by omega
  rcases (by omega : (1 ≤ m ∧ m ≤ 64) ∨ m < 1 ∨ 64 < m) with ⟨h1, h2⟩ | h1 | h1
  · rcases hs with ⟨h3, h4⟩ | h3 | h3
    all_goals
      go_enter Try.func5, Try.ntmps5
      go_wp2_with (first
        | (go_at_call 11; refine (fit_any _).mono ?_; rintro e w1 ⟨rfl, hb1⟩; have HB1 := hide hb1; clear hb1)
        | (go_at_call 12; (with_reducible refine (new_A m _ h1 h2).mono ?_); rintro e w2 ⟨g2, rfl, hb2⟩; have HB2 := hide hb2; clear hb2)
        | (go_at_call 12; (with_reducible refine (new_B size _ h3 h4).mono ?_); rintro e w3 ⟨g3, rfl, hb3⟩; have HB3 := hide hb3; clear hb3)
        | (go_at_call 12; (with_reducible refine (new_B0 size _ h3).mono ?_); rintro e w3 ⟨rfl, rfl⟩)
        | (go_at_call 12; (with_reducible refine (new_C _).mono ?_); rintro e w4 ⟨rfl, rfl⟩)
        | (go_at_call 18; refine (read_nil 0 0 _).mono ?_; rintro e w5 ⟨rfl, rfl⟩)
        | (go_at_call 17; refine (arm_nil 0 1 _).mono ?_; rintro e w5 ⟨rfl, rfl⟩)
        | (go_at_call 16; refine (crash_nil 1 _).mono ?_; rintro e w5 ⟨rfl, rfl⟩)
        | (go_at_call 13; refine (write_nil 0 0 _ _ _ _).mono ?_; rintro e w5 ⟨rfl, rfl⟩)
        | (go_at_call 15; refine (barrier_nil 0 _).mono ?_; rintro e w5 ⟨rfl, rfl⟩)
        | (go_at_call 21; refine (dn_nil 0 _).mono ?_; rintro e w5 ⟨rfl, rfl⟩)
        | (go_at_call 20; refine (waits_nil 0 _).mono ?_; rintro e w5 ⟨rfl, rfl⟩)
        | (go_at_call 22; refine (writes_nil _).mono ?_; rintro e w5 ⟨rfl, rfl⟩))
      go_ret
      first
        | exact ⟨rfl, (HB1.out.trans (HB2.out.mono HB1.out.size)).trans (HB3.out.mono (Nat.le_trans HB1.out.size HB2.out.size))⟩
        | exact ⟨rfl, HB1.out.trans (HB2.out.mono HB1.out.size)⟩
  · rcases hs with ⟨h3, h4⟩ | h3 | h3
    all_goals
      go_enter Try.func5, Try.ntmps5
      go_wp2_with (first
        | (go_at_call 11; refine (fit_any _).mono ?_; rintro e w1 ⟨rfl, hb1⟩; have HB1 := hide hb1; clear hb1)
        | (go_at_call 12; (with_reducible refine (new_A0 m _ (by omega)).mono ?_); rintro e w2 ⟨rfl, rfl⟩)
        | (go_at_call 12; (with_reducible refine (new_B size _ h3 h4).mono ?_); rintro e w3 ⟨g3, rfl, hb3⟩; have HB3 := hide hb3; clear hb3)
        | (go_at_call 12; (with_reducible refine (new_B0 size _ h3).mono ?_); rintro e w3 ⟨rfl, rfl⟩)
        | (go_at_call 12; (with_reducible refine (new_C _).mono ?_); rintro e w4 ⟨rfl, rfl⟩)
        | (go_at_call 18; refine (read_nil 0 0 _).mono ?_; rintro e w5 ⟨rfl, rfl⟩)
        | (go_at_call 17; refine (arm_nil 0 1 _).mono ?_; rintro e w5 ⟨rfl, rfl⟩)
        | (go_at_call 16; refine (crash_nil 1 _).mono ?_; rintro e w5 ⟨rfl, rfl⟩)
        | (go_at_call 13; refine (write_nil 0 0 _ _ _ _).mono ?_; rintro e w5 ⟨rfl, rfl⟩)
        | (go_at_call 15; refine (barrier_nil 0 _).mono ?_; rintro e w5 ⟨rfl, rfl⟩)
        | (go_at_call 21; refine (dn_nil 0 _).mono ?_; rintro e w5 ⟨rfl, rfl⟩)
        | (go_at_call 20; refine (waits_nil 0 _).mono ?_; rintro e w5 ⟨rfl, rfl⟩)
        | (go_at_call 22; refine (writes_nil _).mono ?_; rintro e w5 ⟨rfl, rfl⟩))
      go_ret
      first
        | exact ⟨rfl, HB1.out.trans (HB3.out.mono HB1.out.size)⟩
        | exact ⟨rfl, HB1.out⟩
  · rcases hs with ⟨h3, h4⟩ | h3 | h3
    all_goals
      go_enter Try.func5, Try.ntmps5
      go_wp2_with (first
        | (go_at_call 11; refine (fit_any _).mono ?_; rintro e w1 ⟨rfl, hb1⟩; have HB1 := hide hb1; clear hb1)
        | (go_at_call 12; (with_reducible refine (new_A0 m _ (by omega)).mono ?_); rintro e w2 ⟨rfl, rfl⟩)
        | (go_at_call 12; (with_reducible refine (new_B size _ h3 h4).mono ?_); rintro e w3 ⟨g3, rfl, hb3⟩; have HB3 := hide hb3; clear hb3)
        | (go_at_call 12; (with_reducible refine (new_B0 size _ h3).mono ?_); rintro e w3 ⟨rfl, rfl⟩)
        | (go_at_call 12; (with_reducible refine (new_C _).mono ?_); rintro e w4 ⟨rfl, rfl⟩)
        | (go_at_call 18; refine (read_nil 0 0 _).mono ?_; rintro e w5 ⟨rfl, rfl⟩)
        | (go_at_call 17; refine (arm_nil 0 1 _).mono ?_; rintro e w5 ⟨rfl, rfl⟩)
        | (go_at_call 16; refine (crash_nil 1 _).mono ?_; rintro e w5 ⟨rfl, rfl⟩)
        | (go_at_call 13; refine (write_nil 0 0 _ _ _ _).mono ?_; rintro e w5 ⟨rfl, rfl⟩)
        | (go_at_call 15; refine (barrier_nil 0 _).mono ?_; rintro e w5 ⟨rfl, rfl⟩)
        | (go_at_call 21; refine (dn_nil 0 _).mono ?_; rintro e w5 ⟨rfl, rfl⟩)
        | (go_at_call 20; refine (waits_nil 0 _).mono ?_; rintro e w5 ⟨rfl, rfl⟩)
        | (go_at_call 22; refine (writes_nil _).mono ?_; rintro e w5 ⟨rfl, rfl⟩))
      go_ret
      first
        | exact ⟨rfl, HB1.out.trans (HB3.out.mono HB1.out.size)⟩
        | exact ⟨rfl, HB1.out⟩
end Go.Proofs.Ytjlfepmdnphenaa
