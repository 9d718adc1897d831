/-
  Contract of package page: Free.
-/
import Derived.Test.YtajpjffjhnmfmaaSaid
import Derived.WalkMore
import Derived.Deep.LoopGhost
namespace Go.Proofs.Ytajpjffjhnmfmaa
open Go.RowKit

set_option linter.unusedSimpArgs false
set_option linter.unusedVariables false

/-- Ints as cells hold them. -/
def i64s (l : List Int) : List Value := l.map fun x => .int .i64 x
theorem i64s_length (l : List Int) : (i64s l).length = l.length := List.length_map ..
theorem i64s_get (l : List Int) (j : Nat) (h : j < l.length) : (i64s l)[j]? = some (.int .i64 l[j]) := by
  simp [i64s, h]
/-- Is a slot free, and none of these? -/
def Pg.freeB (p : Pg) (but : List Int) (j : Nat) : Bool := decide (p.s j = ⟨#[]⟩) && decide ((j : Int) ∉ but)
def Pg.freeI (p : Pg) (but : List Int) : Int :=
  if p.freeB but 0 = true then 0 else if p.freeB but 1 = true then 1 else if p.freeB but 2 = true then 2 else if p.freeB but 3 = true then 3 else if p.freeB but 4 = true then 4 else -1
theorem free_here (p : Pg) (but : List Int) (k : Nat) (hk : k < 5) (h : ∀ j, j < k → p.freeB but j = false) (h1 : p.freeB but k = true) : p.freeI but = (k : Int) := by
  unfold Pg.freeI
  match k, hk with
  | 0, _ => simp [h1]
  | 1, _ => simp [h1, h 0 (by omega)]
  | 2, _ => simp [h1, h 0 (by omega), h 1 (by omega)]
  | 3, _ => simp [h1, h 0 (by omega), h 1 (by omega), h 2 (by omega)]
  | 4, _ => simp [h1, h 0 (by omega), h 1 (by omega), h 2 (by omega), h 3 (by omega)]
theorem free_none (p : Pg) (but : List Int) (h : ∀ j, j < 5 → p.freeB but j = false) : p.freeI but = -1 := by
  unfold Pg.freeI
  simp [h 0 (by omega), h 1 (by omega), h 2 (by omega), h 3 (by omega), h 4 (by omega)]
theorem freeB_next {p : Pg} {but : List Int} {k : Nat} (h : ∀ j, j < k → p.freeB but j = false) (h1 : p.freeB but k = false) : ∀ j, j < k + 1 → p.freeB but j = false := by
  intro j hj
  rcases Nat.lt_or_ge j k with hlt | hge
  · exact h j hlt
  · obtain rfl : j = k := by omega
    exact h1
theorem freeB_full {p : Pg} {but : List Int} {k : Nat} (h : p.s k ≠ ⟨#[]⟩) : p.freeB but k = false := by simp [Pg.freeB, h]
theorem freeB_but {p : Pg} {but : List Int} {k j : Nat} (hj : j < but.length) (h : but[j] = (k : Int)) : p.freeB but k = false := by
  have : (k : Int) ∈ but := by rw [← h]; exact List.getElem_mem hj
  simp [Pg.freeB, this]
theorem freeB_yes {p : Pg} {but : List Int} {k : Nat} (h : p.s k = ⟨#[]⟩) (h1 : ∀ q, q < but.length → but[q]? ≠ some (k : Int)) : p.freeB but k = true := by
  have : (k : Int) ∉ but := by
    intro hm
    obtain ⟨q, hq, e⟩ := List.getElem_of_mem hm
    exact h1 q hq (by rw [List.getElem?_eq_getElem hq, e])
  simp [Pg.freeB, h, this]
theorem but_next {but : List Int} {j : Nat} {k : Int} (hj : j < but.length) (h : ∀ q, q < j → but[q]? ≠ some k) (h1 : but[j] ≠ k) : ∀ q, q < j + 1 → but[q]? ≠ some k := by
  intro q hq
  rcases Nat.lt_or_ge q j with hlt | hge
  · exact h q hlt
  · obtain rfl : q = j := by omega
    rw [List.getElem?_eq_getElem hj]
    intro e
    injection e with e
    exact h1 e
theorem free_nil (v : Value) (w : World) : Calls Try.prog 21 #[.pointer none, v] w fun e w' => e = .returned (.int .i64 (-1)) ∧ w = w' := by
  go_enter Try.func21, Try.ntmps21
  go_wp2
  go_step3
  go_wp2
  try rw [Exit.noGoto_ret]
  go_ret
  exact ⟨rfl, rfl⟩
theorem free_any {w : World} {g : Nat} {p : Pg} (h : PgB w g p) (v : Value) (but : List Int) (hv : Rd w v (i64s but)) (hm : but.length ≤ 1000000) :
    Calls Try.prog 21 #[ptr g, v] w fun e w' => e = .returned (.int .i64 (p.freeI but)) ∧ w = w' := by
  obtain ⟨A, c, rfl, hc, hA⟩ := hv
  rw [i64s_length] at hc hA
  rw [i64s_length]
  have c0 := h.slot (i := 0) (by omega)
  have c1 := h.slot (i := 1) (by omega)
  have c2 := h.slot (i := 2) (by omega)
  have c3 := h.slot (i := 3) (by omega)
  have c4 := h.slot (i := 4) (by omega)
  simp only [Nat.reduceAdd] at c0 c1 c2 c3 c4
  clear h
  unfold ptr
  go_enter Try.func21, Try.ntmps21
  go_wp2
  go_step3
  go_wp2
  go_step3
  go_wp2
  go_loopg [15] 5 (fun n i wr => ∃ k : Nat, k + n = 5 ∧ i = .int .i64 k ∧ Hid (∀ j, j < k → p.freeB but j = false) ∧ wr = w)
  case atStart => exact ⟨0, by omega, rfl, fun j hj => absurd hj (by omega), rfl⟩
  case round =>
    obtain ⟨k, hk, rfl, hf, rfl⟩ := hrel
    cases gk with
    | zero =>
      obtain rfl : k = 5 := by omega
      go_wp2
      try rw [Exit.noGoto_ret]
      go_ret
      rw [free_none p but hf.out]
      exact ⟨rfl, rfl⟩
    | succ n =>
      have hlt : k < 5 := by omega
      have hix := run_index5 p k hlt
      by_cases h0 : p.s k = ⟨#[]⟩
      · rw [h0] at hix
        go_wp2
        go_loopg [23] but.length (fun n i wr2 => ∃ j : Nat, j + n = but.length ∧ i = .int .i64 j ∧ Hid (∀ q, q < j → but[q]? ≠ some (k : Int)) ∧ wr2 = wr)
        case atStart => exact ⟨0, by omega, rfl, fun q hq => absurd hq (by omega), rfl⟩
        case round =>
          obtain ⟨j, hj, rfl, hq, rfl⟩ := hrel
          cases gk with
          | zero =>
            obtain rfl : j = but.length := by omega
            go_wp2
            try rw [Exit.noGoto_ret]
            go_ret
            rw [free_here p but k hlt hf.out (freeB_yes h0 hq.out)]
            exact ⟨rfl, rfl⟩
          | succ m =>
            have hjl : j < but.length := by omega
            obtain ⟨b, o, rfl, hb, hcell⟩ := hA (by omega)
            have hcj := hcell j _ (i64s_get but j hjl)
            clear hcell hA
            by_cases he : but[j] = (k : Int)
            · go_wp2
              go_roundg n
              case rel => exact ⟨k + 1, by omega, by go_num, hide (freeB_next hf.out (freeB_but hjl he)), rfl⟩
              case measure => omega
            · go_wp2
              go_roundg m
              case rel => exact ⟨j + 1, by omega, by go_num, hide (but_next hjl hq.out he), rfl⟩
              case measure => omega
      · have h1 := isEmpty_ne h0
        go_wp2
        go_roundg n
        case rel => exact ⟨k + 1, by omega, by go_num, hide (freeB_next hf.out (freeB_full h0)), rfl⟩
        case measure => omega
end Go.Proofs.Ytajpjffjhnmfmaa
