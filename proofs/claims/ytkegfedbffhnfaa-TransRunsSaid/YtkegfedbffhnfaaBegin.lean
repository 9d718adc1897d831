/-
  Contract of Begin.
-/
import Derived.Test.YtkegfedbffhnfaaLoad
namespace Go.Proofs.Ytkegfedbffhnfaa
open Go.RowKit
set_option maxRecDepth 20000
set_option linter.unusedSimpArgs false
set_option linter.unusedVariables false

/-- The least number that is free; 0. -/
def leastT (T : Tb) : Nat := if (T 1).isNone then 1 else if (T 2).isNone then 2 else if (T 3).isNone then 3 else 0
abbrev tx0 : Tx := ⟨[], 0, []⟩
/-- Behind Begin. -/
def BegT (T T' : Tb) : Prop := (leastT T = 0 ∧ T' = T) ∨ (leastT T ≠ 0 ∧ ∃ x, T' = updT T (leastT T) (some (x, tx0)))
theorem leastT_le (T : Tb) : leastT T ≤ 3 := by
  unfold leastT
  split
  · omega
  · split
    · omega
    · split <;> omega
theorem leastT_at {T : Tb} {j : Nat} (h1 : 1 ≤ j) (h3 : j ≤ 3) (hj : T j = none) (hb : ∀ k, 1 ≤ k → k < j → (T k).isSome = true) : leastT T = j := by
  have hs : ∀ k, 1 ≤ k → k < j → (T k).isNone = false := fun k a b => by
    have := hb k a b
    cases e : T k with
    | none => rw [e] at this; cases this
    | some x => rfl
  unfold leastT
  rcases (by omega : j = 1 ∨ j = 2 ∨ j = 3) with rfl | rfl | rfl
  · rw [hj]; rfl
  · rw [hs 1 (by omega) (by omega), hj]; rfl
  · rw [hs 1 (by omega) (by omega), hs 2 (by omega) (by omega), hj]; rfl
theorem leastT_full {T : Tb} (hb : ∀ k, 1 ≤ k → k < 4 → (T k).isSome = true) : leastT T = 0 := by
  have hs : ∀ k, 1 ≤ k → k < 4 → (T k).isNone = false := fun k a b => by
    have := hb k a b
    cases e : T k with
    | none => rw [e] at this; cases this
    | some x => rfl
  unfold leastT
  rw [hs 1 (by omega) (by omega), hs 2 (by omega) (by omega), hs 3 (by omega) (by omega)]
  rfl
theorem begin_any {w : World} {g : Nat} {T : Tb} {O : Nat → Prop} (h : Tab layT 27 w g T O) :
    Calls Try.prog 10 #[.pointer (some ⟨g, 0, none⟩)] w fun e w' => e = .returned (.int .i64 (leastT T : Nat)) ∧ ∃ T', BegT T T' ∧ Tab layT 27 w' g T' (fun k => O k ∨ w.heap.size ≤ k) ∧ Kept O w w' := by
  have HH := hide h
  have hg := fun (j : Nat) => get_blk h.blk (j : Int)
  have HG : Hid (∀ j : Nat, Calls Try.prog 12 #[.pointer (some ⟨g, 0, none⟩), .int .i64 (j : Int)] w fun e w' => e = .returned (pv (T j)) ∧ w = w') := hide (fun j => by
    have := get_blk h.blk (j : Int)
    rw [getT_nat h.zero h.top] at this
    exact this)
  clear h hg
  go_enter Try.func10, Try.ntmps10
  go_wp2
  go_loopw [3] (fun i wr => ∃ j : Nat, 1 ≤ j ∧ j ≤ 4 ∧ i = .int .i64 j ∧ Hid (w = wr) ∧ Hid (∀ k, 1 ≤ k → k < j → (T k).isSome = true)) (fun i _ => 4 - (intOf i).toNat)
  case atStart => exact ⟨1, by omega, by omega, rfl, hide rfl, hide (fun k a b => by omega)⟩
  case round =>
    obtain ⟨j, hj1, hj, rfl, hww, hb⟩ := hrel
    obtain rfl := hww.out
    clear hww
    by_cases hlt : j < 4
    · have q1 : (j : Int) ≤ 3 := by omega
      have HJ1 := hide hj1
      have HLT := hide hlt
      have hG := HG.out j
      cases hT : T j with
      | none =>
        rw [hT] at hG
        have hL := load_yes (A := none) (c := 0) (es := []) HH.out hj1 hlt (fun a e => by cases e) (fun _ => rfl) (by decide)
        rw [List.length_nil] at hL
        have hgp : pv none = .pointer none := rfl
        rw [hgp] at hG
        have hle := leastT_at hj1 (by omega) hT hb.out
        have HLE := hide hle
        clear hj1 hj hT hb hlt hgp hle
        go_wp2_with (first
          | (go_at_call 12; (with_reducible refine hG.mono ?_); rintro e w1 ⟨rfl, rfl⟩)
          | (go_at_call 18; (with_reducible refine hL.mono ?_); rintro e w1 ⟨rfl, x, h1, h2⟩; have H1 := hide h1; have H2 := hide h2; clear h1 h2))
        go_ret
        exact ⟨by rw [HLE.out]; rfl, _, .inr ⟨by rw [HLE.out]; have := HJ1.out; omega, x, by rw [HLE.out]⟩, H1.out, H2.out⟩
      | some z =>
        obtain ⟨x, t⟩ := z
        rw [hT] at hG
        have hgp : pv (some (x, t)) = .pointer (some ⟨x, 0, none⟩) := rfl
        rw [hgp] at hG
        have HTJ := hide hT
        clear hj1 hj hT hlt hgp
        go_wp2_with (go_at_call 12; (with_reducible refine hG.mono ?_); rintro e w1 ⟨rfl, rfl⟩)
        go_roundw
        case rel => exact ⟨j + 1, by omega, by have := HLT.out; omega, by go_num, (by first | exact hide rfl | exact trivial), hide (fun k a b => by
          rcases Nat.lt_or_ge k j with h | h
          · exact hb.out k a h
          · obtain rfl : k = j := by omega
            rw [HTJ.out]
            rfl)⟩
        case measure => simp [intOf]; have := HLT.out; omega
    · obtain rfl : j = 4 := by omega
      have hle := leastT_full hb.out
      have HLE := hide hle
      clear hj1 hj hb hlt hle
      go_wp2
      go_ret
      exact ⟨by rw [HLE.out]; rfl, T, .inl ⟨HLE.out, rfl⟩, HH.out.mono (fun k hk _ => .inl hk), Kept.refl _ _⟩
end Go.Proofs.Ytkegfedbffhnfaa
