/-
  Stage 10's fit.
-/
import Derived.Test.YtdoeinofcklnhaaSpec10
import Derived.Test.YtdoeinofcklnhaaArgs10
namespace Go.Proofs.Ytdoeinofcklnhaa
open Go.RowKit
set_option maxRecDepth 20000
set_option linter.unusedSimpArgs false
set_option linter.unusedVariables false

theorem wf_small {n : Int} (h0 : -1000000 ≤ n) (h1 : n ≤ 1000000) : (Lit.int .i64 n).wf = true := by
  simp [Lit.wf, IntKind.min, IntKind.max, IntKind.signed, IntKind.bits]
  omega
def noS : Th → Option Ho := fun _ => none
def fitA : Th → Option Ho := takeAll noS 1 (keyW 0 ⟨#[97]⟩)
def fitB : Th → Option Ho := takeAll fitA 2 (keyW 0 ⟨#[98]⟩)
theorem fitA_tab : fitA (tabT 0) = some ⟨2, fun i => decide (i = 1) || false⟩ := by simp [fitA, takeAll, keyW, takeS, noS]
theorem fitA_b : fitA (keyT 0 ⟨#[98]⟩) = none := by simp [fitA, takeAll, keyW, takeS, noS]
theorem fitA_can : canAll noS 1 (keyW 0 ⟨#[97]⟩) = true := by
  unfold keyW
  rw [canAll_two, canB_none rfl, canB_none rfl]
  rfl
theorem fitA_bar : canAll fitA 2 (tabR 0) = false := by
  unfold tabR
  rw [canAll_one, canB_bar fitA_tab (j := 1) rfl (by decide) (.inl (by decide))]
theorem fitB_can : canAll fitA 2 (keyW 0 ⟨#[98]⟩) = true := by
  unfold keyW
  rw [canAll_two, canB_same fitA_tab rfl (by decide), canB_none fitA_b]
  rfl
theorem cnt_two {S : Th → Option Ho} {c : Nat} (h : Cnt S c) (who t : Int) (k : ByteArray) : Cnt (takeAll S who (keyW t k)) (if (S (keyT t k)).isSome then (if (S (tabT t)).isSome then c else c + 1) else (if (S (tabT t)).isSome then c else c + 1) + 1) := by
  have h1 := (h.take (who := who) (x := tabT t) (m := 2)).take (who := who) (x := keyT t k) (m := 3)
  rw [show (takeS S who (tabT t) 2 (keyT t k)).isSome = (S (keyT t k)).isSome by rw [takeS_ne key_tab]] at h1
  exact h1
theorem fitB_cnt : Cnt fitB 3 := by
  have h1 : Cnt fitA 2 := cnt_two (S := noS) Cnt.empty 1 0 ⟨#[97]⟩
  have h2 := cnt_two h1 2 0 ⟨#[98]⟩
  rw [fitA_b, fitA_tab] at h2
  exact h2
theorem fit_any (w : World) : Calls Try.prog 8 #[] w fun e w' => e = .returned (.bool true) ∧ Below w.heap.size w w' := by
  go_enter Try.func8, Try.ntmps8
  go_wp2_with (first
    | (go_at_call 9; (with_reducible refine (ow_newlk (Ow.start w)).mono ?_); rintro e w1 ⟨g, rfl, hs⟩; have S1 := hide hs; have HK := hide (ow_key_change (S' := fitA) (n' := 2) hs (i := 0) rfl 1 0 ⟨#[97]⟩ fitA_can rfl (by decide) (by decide) (wf_small (by decide) (by decide)) ⟨wf_small (by decide) (by decide), by decide⟩); clear hs)
    | (go_at_call 10; (with_reducible refine HK.out.mono ?_); rintro e w2 ⟨rfl, hs⟩; clear HK; have HT := hide (ow_table (S' := fitA) (n' := 3) hs (i := 0) rfl 2 0 fitA_bar rfl (by decide) (by decide) (wf_small (by decide) (by decide)) (wf_small (by decide) (by decide))); clear hs)
    | (go_at_call 11; (with_reducible refine HT.out.mono ?_); rintro e w3 ⟨rfl, hs⟩; clear HT; have HK2 := hide (ow_key_change (S' := fitB) (n' := 5) hs (i := 0) rfl 2 0 ⟨#[98]⟩ fitB_can rfl (by decide) (by decide) (wf_small (by decide) (by decide)) ⟨wf_small (by decide) (by decide), by decide⟩); clear hs)
    | (go_at_call 10; (with_reducible refine HK2.out.mono ?_); rintro e w4 ⟨rfl, hs⟩; clear HK2; have S4 := hide hs; clear hs)
    | (go_at_call 13; (with_reducible refine (ow_lklen S4.out (i := 0) rfl fitB_cnt).mono ?_); rintro e w5 ⟨rfl, rfl⟩))
  go_ret
  exact ⟨rfl, S4.out.bel⟩
end Go.Proofs.Ytdoeinofcklnhaa
