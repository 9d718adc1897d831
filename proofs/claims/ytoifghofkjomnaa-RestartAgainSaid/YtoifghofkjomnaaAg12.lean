/-
  Contract of Again (written by r12/mkag12.py).
-/
import Derived.Test.YtoifghofkjomnaaSpec12
namespace Go.Proofs.Ytoifghofkjomnaa
open Go.RowKit
set_option maxRecDepth 20000
set_option linter.unusedSimpArgs false
set_option linter.unusedVariables false

theorem str_some (s : ByteArray) : decide (0 < s.size) = !s.toList.isEmpty := by
  rw [ByteArray.toList_eq, ← size_data]
  cases s.data.toList <;> simp
set_option maxHeartbeats 16000000 in
theorem ag_said : AgSaid := by
  intro W fr A n c os x M torn
  have HB : Hid (Below W.heap.size W ((W.alloc (.cells (planC fr (fun t => .slice (A t) (n t) (c t)) os) 32)).alloc (.cells x.vc 40))) := hide (((Below.refl _ _).alloc (Nat.le_refl _) _).alloc (by simp) _)
  unfold planC Ei.vc at *
  dsimp only at *
  by_cases k3 : x.r.k = 3
  · have hk : (x.r.k : Int) = 3 := by omega
    rw [hk] at HB ⊢
    by_cases hf : fr ≤ x.pl
    · have gf : ¬ (x.pl : Int) < (fr : Int) := by omega
      cases torn with
      | true =>
        have HR : againB fr x.r x.pl M true = decide (0 < x.r.i.size) := by unfold againB; simp [k3, hf]
        rw [HR]
        clear HR
        go_enter Try.func13, Try.ntmps13
        go_wp2
        go_ret
        exact ⟨by rw [str_some]; rfl, HB.out⟩
      | false =>
        have HR : againB fr x.r x.pl M false = decide (M < x.pl) := by unfold againB; simp [k3, hf]
        rw [HR]
        clear HR
        go_enter Try.func13, Try.ntmps13
        go_wp2
        go_ret
        exact ⟨rfl, HB.out⟩
    · have gf : (x.pl : Int) < (fr : Int) := by omega
      have HR : againB fr x.r x.pl M torn = false := by unfold againB; simp [k3, hf]
      rw [HR]
      clear HR
      go_enter Try.func13, Try.ntmps13
      go_wp2
      go_ret
      exact ⟨rfl, HB.out⟩
  · by_cases k4 : x.r.k = 4
    · have hk : (x.r.k : Int) = 4 := by omega
      rw [hk] at HB ⊢
      by_cases hf : fr ≤ x.pl
      · have gf : ¬ (x.pl : Int) < (fr : Int) := by omega
        cases torn with
        | true =>
          have HR : againB fr x.r x.pl M true = decide (0 < x.r.i.size) := by unfold againB; simp [k3, k4, hf]
          rw [HR]
          clear HR
          go_enter Try.func13, Try.ntmps13
          go_wp2
          go_ret
          exact ⟨by rw [str_some]; rfl, HB.out⟩
        | false =>
          have HR : againB fr x.r x.pl M false = decide (M < x.pl) := by unfold againB; simp [k3, k4, hf]
          rw [HR]
          clear HR
          go_enter Try.func13, Try.ntmps13
          go_wp2
          go_ret
          exact ⟨rfl, HB.out⟩
      · have gf : (x.pl : Int) < (fr : Int) := by omega
        have HR : againB fr x.r x.pl M torn = false := by unfold againB; simp [k3, k4, hf]
        rw [HR]
        clear HR
        go_enter Try.func13, Try.ntmps13
        go_wp2
        go_ret
        exact ⟨rfl, HB.out⟩
    · have a3 : ((x.r.k : Int) == 3) = false := by rw [beq_eq_false_iff_ne]; omega
      have b3 : ((x.r.k : Int) != 3) = true := by rw [bne_iff_ne]; omega
      have c3 : ¬ (x.r.k : Int) = 3 := by omega
      have a4 : ((x.r.k : Int) == 4) = false := by rw [beq_eq_false_iff_ne]; omega
      have b4 : ((x.r.k : Int) != 4) = true := by rw [bne_iff_ne]; omega
      have c4 : ¬ (x.r.k : Int) = 4 := by omega
      have HR : againB fr x.r x.pl M torn = false := by unfold againB; simp [k3, k4]
      rw [HR]
      clear HR
      go_enter Try.func13, Try.ntmps13
      go_wp2
      go_ret
      exact ⟨rfl, HB.out⟩
end Go.Proofs.Ytoifghofkjomnaa
