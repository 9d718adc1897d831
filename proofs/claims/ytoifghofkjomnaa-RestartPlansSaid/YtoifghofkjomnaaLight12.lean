/-
  Contract of stage 12's light: are seeds few?
-/
import Derived.Test.YtoifghofkjomnaaEnt
namespace Go.Proofs.Ytoifghofkjomnaa
open Go.RowKit
set_option maxRecDepth 20000
set_option linter.unusedSimpArgs false
set_option linter.unusedVariables false

def lightB (l : List SeedD) : Bool := decide (l.length ≤ 100) && l.all fun x => decide (x.ds.length ≤ 100)
theorem lightB_iff {l : List SeedD} : lightB l = true ↔ l.length ≤ 100 ∧ ∀ x ∈ l, x.ds.length ≤ 100 := by
  unfold lightB
  simp only [Bool.and_eq_true, decide_eq_true_eq, List.all_eq_true]
theorem lightB_no {l : List SeedD} (h : ¬ (l.length ≤ 100 ∧ ∀ x ∈ l, x.ds.length ≤ 100)) : lightB l = false := Bool.eq_false_iff.2 fun e => h (lightB_iff.1 e)
set_option maxHeartbeats 4000000 in
theorem light_any {w : World} {v : Value} {l : List SeedD} (hv : SeedRow w w.heap.size v l) : Calls Try.prog 10 #[v] w fun e w' => e = .returned (.bool (lightB l)) ∧ Below w.heap.size w w' := by
  obtain ⟨A0, cap, rfl, _⟩ := id hv
  have HV := hide hv
  clear hv
  go_enter Try.func10, Try.ntmps10
  by_cases hlen : l.length ≤ 100
  · have hl1 : ¬ (100 : Int) < (l.length : Int) := by omega
    have HLEN := hide hlen
    clear hlen
    go_wp2
    go_loopw [10] (fun i wr => ∃ j : Nat, j ≤ l.length ∧ i = .int .i64 j ∧ Hid (Below w.heap.size w wr) ∧ Hid (∀ x ∈ l.take j, x.ds.length ≤ 100)) (fun i _ => l.length - (intOf i).toNat)
    case atStart => exact ⟨0, by omega, rfl, hide (Below.refl _ _), hide (by simp)⟩
    case round =>
      obtain ⟨j, hj, rfl, hb, ha⟩ := hrel
      by_cases hlt : j < l.length
      · obtain ⟨x, hc⟩ : ∃ x, l[j]? = some x := ⟨_, List.getElem?_eq_getElem hlt⟩
        obtain ⟨b1, o1, rfl, A, n, c, hn, ⟨i0, i1, i2, i3, i4, i5, i6, i7⟩, hrow⟩ := seed_cells HV.out hb.out hc
        have q0 : (0 : Int) ≤ (j : Int) := by omega
        have q1 : (j : Int) < (l.length : Int) := by omega
        have HLT := hide hlt
        have HTK : Hid (l.take (j + 1) = l.take j ++ [x]) := hide (by rw [List.take_add_one, hc]; rfl)
        have HMEM : Hid (x ∈ l) := hide (List.mem_of_getElem? hc)
        have HN := hide hn
        clear hrow hlt hc hn
        by_cases hbig : n ≤ 100
        · have hbi : ¬ (100 : Int) < (n : Int) := by omega
          clear hbig
          go_wp2
          go_roundw
          case rel => exact ⟨j + 1, by have := HLT.out; omega, by go_num, hide (hb.out.alloc hb.out.size _), hide (by rw [HTK.out]; exact fun y hy => (List.mem_append.1 hy).elim (ha.out y) (fun hy => by rw [List.mem_singleton.1 hy, HN.out]; omega))⟩
          case measure => simp [intOf]; have := HLT.out; omega
        · have hbi : (100 : Int) < (n : Int) := by omega
          clear hbig
          go_wp2
          go_ret
          rw [lightB_no (fun h => by have := h.2 x HMEM.out; have := HN.out; omega)]
          exact ⟨rfl, hb.out.alloc hb.out.size _⟩
      · have q1 : ¬ (j : Int) < (l.length : Int) := by omega
        go_wp2
        go_ret
        rw [lightB_iff.2 ⟨HLEN.out, fun y hy => ha.out y (by rw [List.take_of_length_le (by omega)]; exact hy)⟩]
        exact ⟨rfl, hb.out⟩
  · have hl1 : (100 : Int) < (l.length : Int) := by omega
    go_wp2
    go_ret
    rw [lightB_no (fun h => hlen h.1)]
    exact ⟨rfl, Below.refl _ _⟩
end Go.Proofs.Ytoifghofkjomnaa
