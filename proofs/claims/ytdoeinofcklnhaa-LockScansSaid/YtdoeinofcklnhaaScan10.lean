/-
  LockScans' walk.
-/
import Derived.Test.YtdoeinofcklnhaaFit10
namespace Go.Proofs.Ytdoeinofcklnhaa
open Go.RowKit
set_option maxRecDepth 20000
set_option linter.unusedSimpArgs false
set_option linter.unusedVariables false

section
variable {S : Th → Option Ho} {who j : Int} {x : Th} {ho : Ho}
theorem dropS_no (h : S x = none) : dropS S who x = none := by unfold dropS; rw [h]; rfl
theorem dropS_none (h : S x = some ho) (h1 : ∀ i, ho.o i = true → i = who) : dropS S who x = none := by
  unfold dropS lessO
  rw [h]
  exact if_neg (by rintro ⟨i, h2, h3⟩; exact h2 (h1 i h3))
theorem dropS_some (h : S x = some ho) (h1 : ho.o j = true) (h2 : j ≠ who) : dropS S who x = some ⟨ho.m, fun i => !decide (i = who) && ho.o i⟩ := by
  unfold dropS lessO
  rw [h]
  exact if_pos ⟨j, h2, h1⟩
end
theorem longer_ne (k x : ByteArray) (hx : 0 < x.size) : ¬ k = k ++ x := by
  intro e
  have := congrArg ByteArray.size e
  rw [ByteArray.size_append] at this
  omega
section
variable (t : Int) (k : ByteArray)
def sc1 : Th → Option Ho := takeAll noS 1 (tabR t)
def sc2 : Th → Option Ho := takeAll (sc1 t) 2 (keyR t k)
noncomputable def sc3 : Th → Option Ho := dropS (sc2 t k) 1
noncomputable def sc4 : Th → Option Ho := takeAll (sc3 t k) 2 (keyW t k)
theorem sc1_can : canAll noS 1 (tabR t) = true := by unfold tabR; rw [canAll_one, canB_none rfl]
theorem sc1_tab : sc1 t (tabT t) = some ⟨1, fun i => decide (i = 1) || false⟩ := by simp [sc1, takeAll, tabR, takeS, noS]
theorem sc1_key : sc1 t (keyT t k) = none := by simp [sc1, takeAll, tabR, takeS, noS]
theorem sc1_bar : canAll (sc1 t) 2 (keyW t k) = false := by
  unfold keyW
  rw [canAll_two, canB_bar (sc1_tab t) (j := 1) rfl (by decide) (.inl (by decide))]
  rfl
theorem sc1_cnt : Cnt (sc1 t) 1 := by
  have h := Cnt.take (S := noS) Cnt.empty (who := 1) (x := tabT t) (m := 1)
  exact h
theorem sc2_can : canAll (sc1 t) 2 (keyR t k) = true := by unfold keyR; rw [canAll_one, canB_none (sc1_key t k)]
theorem sc2_tab : sc2 t k (tabT t) = some ⟨1, fun i => decide (i = 1) || false⟩ := by
  rw [← sc1_tab t]
  exact takeS_ne tab_key
theorem sc2_key : sc2 t k (keyT t k) = some ⟨1, fun i => decide (i = 2) || false⟩ := by
  have h := takeS_at (S := sc1 t) (who := 2) (x := keyT t k) (m := 1)
  rw [sc1_key] at h
  exact h
theorem sc3_tab : sc3 t k (tabT t) = none := dropS_none (sc2_tab t k) (fun i hi => by simpa using hi)
theorem sc3_key : sc3 t k (keyT t k) = some ⟨1, fun i => !decide (i = 1) && (decide (i = 2) || false)⟩ := dropS_some (j := 2) (sc2_key t k) rfl (by decide)
theorem sc4_can : canAll (sc3 t k) 2 (keyW t k) = true := by
  unfold keyW
  rw [canAll_two, canB_none (sc3_tab t k), canB_own (sc3_key t k) (fun i hi => by
    simp only [Bool.and_eq_true, Bool.or_false, decide_eq_true_eq] at hi
    exact hi.2)]
  rfl
theorem sc4_tab : sc4 t k (tabT t) = some ⟨2, fun i => decide (i = 2) || false⟩ := by
  have h : sc4 t k (tabT t) = takeS (sc3 t k) 2 (tabT t) 2 (tabT t) := takeS_ne tab_key
  rw [h, takeS_at, sc3_tab]
  rfl
theorem sc4_bar : canAll (sc4 t k) 1 (tabR t) = false := by
  unfold tabR
  rw [canAll_one, canB_bar (sc4_tab t k) (j := 2) rfl (by decide) (.inl (by decide))]
abbrev xs1 : ByteArray := ⟨#[120]⟩
abbrev ys1 : ByteArray := ⟨#[121]⟩
def sd1 : Th → Option Ho := takeAll noS 2 (keyW t k)
def sd2 : Th → Option Ho := takeAll (sd1 t k) 1 (keyR t (k ++ xs1))
noncomputable def sd3 : Th → Option Ho := dropS (sd2 t k) 2
noncomputable def sd4 : Th → Option Ho := takeAll (sd3 t k) 1 (tabR t)
noncomputable def sd5 : Th → Option Ho := takeAll (sd4 t k) 1 (keyW t k)
theorem sd1_can : canAll noS 2 (keyW t k) = true := by
  unfold keyW
  rw [canAll_two, canB_none rfl, canB_none rfl]
  rfl
theorem sd1_tab : sd1 t k (tabT t) = some ⟨2, fun i => decide (i = 2) || false⟩ := by simp [sd1, takeAll, keyW, takeS, noS]
theorem sd1_key : sd1 t k (keyT t k) = some ⟨3, fun i => decide (i = 2) || false⟩ := by simp [sd1, takeAll, keyW, takeS, noS]
theorem sd1_keyx : sd1 t k (keyT t (k ++ xs1)) = none := by
  have h : keyT t (k ++ xs1) ≠ keyT t k := fun e => by
    injection e with _ _ e
    exact longer_ne k xs1 (by decide) e.symm
  have h2 : sd1 t k (keyT t (k ++ xs1)) = takeS noS 2 (tabT t) 2 (keyT t (k ++ xs1)) := takeS_ne h
  rw [h2, takeS_ne key_tab]
  rfl
theorem sd1_bar1 : canAll (sd1 t k) 1 (tabR t) = false := by
  unfold tabR
  rw [canAll_one, canB_bar (sd1_tab t k) (j := 2) rfl (by decide) (.inl (by decide))]
theorem sd1_bar2 : canAll (sd1 t k) 1 (keyR t k) = false := by
  unfold keyR
  rw [canAll_one, canB_bar (sd1_key t k) (j := 2) rfl (by decide) (.inl (by decide))]
theorem sd2_can : canAll (sd1 t k) 1 (keyR t (k ++ xs1)) = true := by
  unfold keyR
  rw [canAll_one, canB_none (sd1_keyx t k)]
theorem sd2_tab : sd2 t k (tabT t) = some ⟨2, fun i => decide (i = 2) || false⟩ := by
  rw [← sd1_tab t k]
  exact takeS_ne tab_key
theorem sd2_key : sd2 t k (keyT t k) = some ⟨3, fun i => decide (i = 2) || false⟩ := by
  have h : keyT t k ≠ keyT t (k ++ xs1) := fun e => by
    injection e with _ _ e
    exact longer_ne k xs1 (by decide) e
  rw [← sd1_key t k]
  exact takeS_ne h
theorem sd3_tab : sd3 t k (tabT t) = none := dropS_none (sd2_tab t k) (fun i hi => by simpa using hi)
theorem sd3_key : sd3 t k (keyT t k) = none := dropS_none (sd2_key t k) (fun i hi => by simpa using hi)
theorem sd4_can : canAll (sd3 t k) 1 (tabR t) = true := by unfold tabR; rw [canAll_one, canB_none (sd3_tab t k)]
theorem sd4_tab : sd4 t k (tabT t) = some ⟨1, fun i => decide (i = 1) || false⟩ := by
  have h := takeS_at (S := sd3 t k) (who := 1) (x := tabT t) (m := 1)
  rw [sd3_tab] at h
  exact h
theorem sd4_key : sd4 t k (keyT t k) = none := by
  rw [← sd3_key t k]
  exact takeS_ne key_tab
theorem sd5_can : canAll (sd4 t k) 1 (keyW t k) = true := by
  unfold keyW
  rw [canAll_two, canB_none (sd4_key t k), canB_own (sd4_tab t k) (fun i hi => by simpa using hi)]
  rfl
theorem sd5_tab : sd5 t k (tabT t) = some ⟨3, fun i => decide (i = 1) || (decide (i = 1) || false)⟩ := by
  have h : sd5 t k (tabT t) = takeS (sd4 t k) 1 (tabT t) 2 (tabT t) := takeS_ne tab_key
  rw [h, takeS_at, sd4_tab]
  rfl
theorem sd5_bar1 : canAll (sd5 t k) 2 (keyW t (k ++ ys1)) = false := by
  unfold keyW
  rw [canAll_two, canB_bar (sd5_tab t k) (j := 1) rfl (by decide) (.inl (by decide))]
  rfl
theorem sd5_bar2 : canAll (sd5 t k) 2 (tabR t) = false := by
  unfold tabR
  rw [canAll_one, canB_bar (sd5_tab t k) (j := 1) rfl (by decide) (.inl (by decide))]
end
set_option maxHeartbeats 4000000 in
theorem scans_walk (t : Int) (k : ByteArray) (first : Bool) (w : World) (ht : (Lit.int .i64 t).wf = true) (_hk : k.size ≤ maxLen) : Calls Try.prog 6 #[.int .i64 t, .string k, .bool first] w fun e w' => e = .returned (.bool true) ∧ Below w.heap.size w w' := by
  by_cases hl : k.size ≤ 100
  · have hl1 : ¬ (100 : Int) < (k.size : Int) := by omega
    have HT := hide ht
    have HK : Hid (k.size ≤ maxLen) := hide (by unfold maxLen; omega)
    have HKX : Hid ((k ++ xs1).size ≤ maxLen) := hide (by rw [ByteArray.size_append, show xs1.size = 1 from rfl]; unfold maxLen; omega)
    have HKY : Hid ((k ++ ys1).size ≤ maxLen) := hide (by rw [ByteArray.size_append, show ys1.size = 1 from rfl]; unfold maxLen; omega)
    have hks : k.size ≤ 100 := hl
    clear hl ht
    cases first
    · go_enter Try.func6, Try.ntmps6
      go_wp2_with (first
        | (go_at_call 8; (with_reducible refine (fit_any _).mono ?_); rintro e w0 ⟨rfl, hb⟩; have S0 := hide ((Ow.start w).below hb); clear hb)
        | (go_at_call 9; (with_reducible refine (ow_newlk S0.out).mono ?_); rintro e w1 ⟨g, rfl, hs⟩; have HK0 := hide (ow_key_change (S := noS) (S' := (sd1 t k)) (n' := 2) hs (i := 0) rfl 2 t k (b := true) (sd1_can t k) rfl (by omega) (by omega) (wf_small (by decide) (by decide)) ⟨HT.out, HK.out⟩); clear hs)
        | (go_at_call 10; (with_reducible refine HK0.out.mono ?_); rintro e w2 ⟨rfl, hs⟩; clear HK0; have HK1 := hide (ow_table (S := (sd1 t k)) (S' := (sd1 t k)) (n' := 3) hs (i := 0) rfl 1 t (b := false) (sd1_bar1 t k) rfl (by omega) (by omega) (wf_small (by decide) (by decide)) HT.out); clear hs)
        | (go_at_call 11; (with_reducible refine HK1.out.mono ?_); rintro e w3 ⟨rfl, hs⟩; clear HK1; have HK2 := hide (ow_key_read (S := (sd1 t k)) (S' := (sd1 t k)) (n' := 4) hs (i := 0) rfl 1 t k (b := false) (sd1_bar2 t k) rfl (by omega) (by omega) (wf_small (by decide) (by decide)) ⟨HT.out, HK.out⟩); clear hs)
        | (go_at_call 10; (with_reducible refine HK2.out.mono ?_); rintro e w4 ⟨rfl, hs⟩; clear HK2; have HK3 := hide (ow_key_read (S := (sd1 t k)) (S' := (sd2 t k)) (n' := 5) hs (i := 0) rfl 1 t (k ++ xs1) (b := true) (sd2_can t k) rfl (by omega) (by omega) (wf_small (by decide) (by decide)) ⟨HT.out, HKX.out⟩); clear hs)
        | (go_at_call 10; (with_reducible refine HK3.out.mono ?_); rintro e w5 ⟨rfl, hs⟩; clear HK3; have HK4 := hide (ow_drop (S := (sd2 t k)) (S' := (sd3 t k)) hs (i := 0) rfl 2 rfl (wf_small (by decide) (by decide))); clear hs)
        | (go_at_call 12; (with_reducible refine HK4.out.mono ?_); rintro e w6 ⟨rfl, hs⟩; clear HK4; have HK5 := hide (ow_table (S := (sd3 t k)) (S' := (sd4 t k)) (n' := 6) hs (i := 0) rfl 1 t (b := true) (sd4_can t k) rfl (by omega) (by omega) (wf_small (by decide) (by decide)) HT.out); clear hs)
        | (go_at_call 11; (with_reducible refine HK5.out.mono ?_); rintro e w7 ⟨rfl, hs⟩; clear HK5; have HK6 := hide (ow_key_change (S := (sd4 t k)) (S' := (sd5 t k)) (n' := 8) hs (i := 0) rfl 1 t k (b := true) (sd5_can t k) rfl (by omega) (by omega) (wf_small (by decide) (by decide)) ⟨HT.out, HK.out⟩); clear hs)
        | (go_at_call 10; (with_reducible refine HK6.out.mono ?_); rintro e w8 ⟨rfl, hs⟩; clear HK6; have HK7 := hide (ow_key_change (S := (sd5 t k)) (S' := (sd5 t k)) (n' := 10) hs (i := 0) rfl 2 t (k ++ ys1) (b := false) (sd5_bar1 t k) rfl (by omega) (by omega) (wf_small (by decide) (by decide)) ⟨HT.out, HKY.out⟩); clear hs)
        | (go_at_call 10; (with_reducible refine HK7.out.mono ?_); rintro e w9 ⟨rfl, hs⟩; clear HK7; have HK8 := hide (ow_table (S := (sd5 t k)) (S' := (sd5 t k)) (n' := 11) hs (i := 0) rfl 2 t (b := false) (sd5_bar2 t k) rfl (by omega) (by omega) (wf_small (by decide) (by decide)) HT.out); clear hs)
        | (go_at_call 11; (with_reducible refine HK8.out.mono ?_); rintro e w10 ⟨rfl, hs⟩; clear HK8; have HE := hide hs; clear hs))
      go_ret
      exact ⟨rfl, HE.out.bel⟩

    · go_enter Try.func6, Try.ntmps6
      go_wp2_with (first
        | (go_at_call 8; (with_reducible refine (fit_any _).mono ?_); rintro e w0 ⟨rfl, hb⟩; have S0 := hide ((Ow.start w).below hb); clear hb)
        | (go_at_call 9; (with_reducible refine (ow_newlk S0.out).mono ?_); rintro e w1 ⟨g, rfl, hs⟩; have HK0 := hide (ow_table (S := noS) (S' := (sc1 t)) (n' := 1) hs (i := 0) rfl 1 t (b := true) (sc1_can t) rfl (by omega) (by omega) (wf_small (by decide) (by decide)) HT.out); clear hs)
        | (go_at_call 11; (with_reducible refine HK0.out.mono ?_); rintro e w2 ⟨rfl, hs⟩; clear HK0; have HK1 := hide (ow_key_change (S := (sc1 t)) (S' := (sc1 t)) (n' := 3) hs (i := 0) rfl 2 t k (b := false) (sc1_bar t k) rfl (by omega) (by omega) (wf_small (by decide) (by decide)) ⟨HT.out, HK.out⟩); clear hs)
        | (go_at_call 10; (with_reducible refine HK1.out.mono ?_); rintro e w3 ⟨rfl, hs⟩; clear HK1; have HS2 := hide hs; have HK2 := hide (ow_lklen (S := (sc1 t)) hs (i := 0) rfl (sc1_cnt t)); clear hs)
        | (go_at_call 13; (with_reducible refine HK2.out.mono ?_); rintro e w4 ⟨rfl, rfl⟩; clear HK2; have hs := HS2.out; clear HS2; have HK3 := hide (ow_key_read (S := (sc1 t)) (S' := (sc2 t k)) (n' := 4) hs (i := 0) rfl 2 t k (b := true) (sc2_can t k) rfl (by omega) (by omega) (wf_small (by decide) (by decide)) ⟨HT.out, HK.out⟩); clear hs)
        | (go_at_call 10; (with_reducible refine HK3.out.mono ?_); rintro e w5 ⟨rfl, hs⟩; clear HK3; have HK4 := hide (ow_drop (S := (sc2 t k)) (S' := (sc3 t k)) hs (i := 0) rfl 1 rfl (wf_small (by decide) (by decide))); clear hs)
        | (go_at_call 12; (with_reducible refine HK4.out.mono ?_); rintro e w6 ⟨rfl, hs⟩; clear HK4; have HK5 := hide (ow_key_change (S := (sc3 t k)) (S' := (sc4 t k)) (n' := 6) hs (i := 0) rfl 2 t k (b := true) (sc4_can t k) rfl (by omega) (by omega) (wf_small (by decide) (by decide)) ⟨HT.out, HK.out⟩); clear hs)
        | (go_at_call 10; (with_reducible refine HK5.out.mono ?_); rintro e w7 ⟨rfl, hs⟩; clear HK5; have HK6 := hide (ow_table (S := (sc4 t k)) (S' := (sc4 t k)) (n' := 7) hs (i := 0) rfl 1 t (b := false) (sc4_bar t k) rfl (by omega) (by omega) (wf_small (by decide) (by decide)) HT.out); clear hs)
        | (go_at_call 11; (with_reducible refine HK6.out.mono ?_); rintro e w8 ⟨rfl, hs⟩; clear HK6; have HE := hide hs; clear hs))
      go_ret
      exact ⟨rfl, HE.out.bel⟩

  · have hl1 : (100 : Int) < (k.size : Int) := by omega
    clear hl
    go_enter Try.func6, Try.ntmps6
    go_wp2_with (go_at_call 8; (with_reducible refine (fit_any _).mono ?_); rintro e w0 ⟨rfl, hb⟩; have S0 := hide ((Ow.start w).below hb); clear hb)
    go_ret
    exact ⟨rfl, S0.out.bel⟩
end Go.Proofs.Ytdoeinofcklnhaa
