/-
  LockReads' walk.
-/
import Derived.Test.YtdoeinofcklnhaaKeyC
namespace Go.Proofs.Ytdoeinofcklnhaa
open Go.RowKit
set_option maxRecDepth 20000
set_option linter.unusedSimpArgs false
set_option linter.unusedVariables false

/-- The owners from lo on, below hi, read one key and its table, and nothing else is held. -/
structure RdP (t : Int) (k : ByteArray) (lo hi : Int) (S : Th → Option Ho) : Prop where
  only : ∀ x ho, S x = some ho → (x = keyT t k ∨ x = tabT t) ∧ ho.m = 1 ∧ ∀ i, ho.o i = true ↔ lo ≤ i ∧ i < hi
  both : lo < hi → (S (keyT t k)).isSome = true ∧ (S (tabT t)).isSome = true
section
variable {t : Int} {k : ByteArray} {lo hi : Int} {S : Th → Option Ho} {who : Int} {x : Th}
theorem RdP.start : RdP t k 0 0 (fun _ => none) := ⟨(fun x ho h => by cases h), fun h => by omega⟩
theorem RdP.canR (h : RdP t k lo hi S) : canB S who x 1 = true := by
  cases hx : S x with
  | none => exact canB_none hx
  | some ho => exact canB_same hx (h.only x ho hx).2.1.symm (by decide)
theorem RdP.key (h : RdP t k lo hi S) : canAll S who (keyR t k) = true := by rw [canAll_R]; exact h.canR
theorem RdP.tab (h : RdP t k lo hi S) : canAll (takeAll S who (keyR t k)) who (tabR t) = true := by
  unfold tabR
  rw [canAll_one, take_R, canB_congr (S' := S) (takeS_ne tab_key)]
  exact h.canR
/-- One more reader. -/
theorem RdP.more (h : RdP t k 0 hi S) (h0 : 0 ≤ hi) : RdP t k 0 (hi + 1) (takeAll (takeAll S hi (keyR t k)) hi (tabR t)) := by
  have val : ∀ (x : Th) (S : Th → Option Ho), (∀ ho, S x = some ho → ho.m = 1 ∧ ∀ i, ho.o i = true ↔ 0 ≤ i ∧ i < hi) → (0 < hi → (S x).isSome = true) → ∀ ho, takeS S hi x 1 x = some ho → ho.m = 1 ∧ ∀ i, ho.o i = true ↔ 0 ≤ i ∧ i < hi + 1 := by
    intro x S h1 h2 ho hx
    rw [takeS_at] at hx
    obtain rfl := Option.some.inj hx
    cases e : S x with
    | none =>
      have : hi = 0 := by
        rcases Int.lt_or_le 0 hi with h3 | h3
        · have := h2 h3
          rw [e] at this
          cases this
        · omega
      subst this
      refine ⟨rfl, fun i => ?_⟩
      simp only [Option.getD_none, Bool.or_false, decide_eq_true_eq]
      omega
    | some ho =>
      obtain ⟨h3, h4⟩ := h1 ho e
      refine ⟨by simp [h3], fun i => ?_⟩
      simp only [Option.getD_some, Bool.or_eq_true, decide_eq_true_eq, h4]
      omega
  refine ⟨fun x ho hx => ?_, fun _ => ?_⟩
  · have hx : takeS (takeS S hi (keyT t k) 1) hi (tabT t) 1 x = some ho := hx
    by_cases e : x = tabT t
    · subst e
      refine ⟨.inr rfl, val _ _ (fun ho h1 => ?_) (fun h1 => ?_) ho hx⟩
      · rw [takeS_ne tab_key] at h1
        exact (h.only _ ho h1).2
      · rw [takeS_ne tab_key]
        exact (h.both h1).2
    · rw [takeS_ne e] at hx
      by_cases e2 : x = keyT t k
      · subst e2
        exact ⟨.inl rfl, val _ _ (fun ho h1 => (h.only _ ho h1).2) (fun h1 => (h.both h1).1) ho hx⟩
      · rw [takeS_ne e2] at hx
        rcases (h.only x ho hx).1 with h1 | h1
        · exact absurd h1 e2
        · exact absurd h1 e
  · constructor
    · show (takeS (takeS S hi (keyT t k) 1) hi (tabT t) 1 _).isSome = true
      rw [takeS_isSome, takeS_isSome]
      simp
    · show (takeS (takeS S hi (keyT t k) 1) hi (tabT t) 1 _).isSome = true
      rw [takeS_isSome]
      simp
/-- Nobody of them can change it while there is another one. -/
theorem RdP.bar (h : RdP t k lo hi S) (h2 : lo + 1 < hi) {q : ByteArray} : canAll S who (keyW t q) = false := by
  obtain ⟨_, h3⟩ := h.both (by omega)
  obtain ⟨ho, ht⟩ := Option.isSome_iff_exists.1 h3
  obtain ⟨_, hm, ho2⟩ := h.only _ _ ht
  unfold keyW
  rw [canAll_two]
  by_cases e : lo = who
  · rw [canB_bar ht (j := lo + 1) ((ho2 _).2 (by omega)) (by omega) (.inl (by rw [hm]; decide))]
    rfl
  · rw [canB_bar ht (j := lo) ((ho2 _).2 (by omega)) e (.inl (by rw [hm]; decide))]
    rfl
/-- One less. -/
theorem RdP.less (h : RdP t k lo hi S) (h2 : lo + 1 < hi) : RdP t k (lo + 1) hi (dropS S lo) := by
  have key : ∀ x ho, S x = some ho → dropS S lo x = some ⟨ho.m, fun i => !decide (i = lo) && ho.o i⟩ := fun x ho hx => by
    unfold dropS lessO
    rw [hx]
    exact if_pos ⟨lo + 1, by omega, ((h.only x ho hx).2.2 _).2 (by omega)⟩
  refine ⟨fun x ho hx => ?_, fun _ => ?_⟩
  · cases e : S x with
    | none =>
      unfold dropS at hx
      rw [e] at hx
      cases hx
    | some ho2 =>
      rw [key x ho2 e] at hx
      obtain rfl := Option.some.inj hx
      obtain ⟨h3, h4, h5⟩ := h.only x ho2 e
      refine ⟨h3, h4, fun i => ?_⟩
      simp only [Bool.and_eq_true, Bool.not_eq_true', decide_eq_false_iff_not, h5]
      omega
  · obtain ⟨h3, h4⟩ := h.both (by omega)
    obtain ⟨a, ha⟩ := Option.isSome_iff_exists.1 h3
    obtain ⟨b, hb⟩ := Option.isSome_iff_exists.1 h4
    rw [key _ _ ha, key _ _ hb]
    exact ⟨rfl, rfl⟩
/-- The last one changes it, and bars all others. -/
theorem RdP.last (h : RdP t k lo (lo + 1) S) : canAll S lo (keyW t k) = true ∧ (∀ who, who ≠ lo → canAll (takeAll S lo (keyW t k)) who (keyR t k) = false ∧ canAll (takeAll S lo (keyW t k)) who (tabR t) = false) ∧ Cnt (takeAll S lo (keyW t k)) 2 := by
  obtain ⟨h1, h2⟩ := h.both (by omega)
  obtain ⟨a, ha⟩ := Option.isSome_iff_exists.1 h1
  obtain ⟨b, hb⟩ := Option.isSome_iff_exists.1 h2
  obtain ⟨_, am, ao⟩ := h.only _ _ ha
  obtain ⟨_, bm, bo⟩ := h.only _ _ hb
  have hk : takeAll S lo (keyW t k) (keyT t k) = some ⟨3, fun i => decide (i = lo) || a.o i⟩ := by
    rw [take_W, takeS_at, takeS_ne key_tab, ha]
    simp [am]
  have ht : takeAll S lo (keyW t k) (tabT t) = some ⟨3, fun i => decide (i = lo) || b.o i⟩ := by
    rw [take_W, takeS_ne tab_key, takeS_at, hb]
    simp [bm]
  refine ⟨?_, fun who hw => ⟨?_, ?_⟩, ?_⟩
  · rw [canAll_W]
    exact ⟨canB_own hb (fun i hi => by have := (bo i).1 hi; omega), canB_own ha (fun i hi => by have := (ao i).1 hi; omega)⟩
  · rw [canAll_R]
    exact canB_bar hk (j := lo) (by simp) (fun e => hw e.symm) (.inl (by show (1 : Int) ≠ 3; decide))
  · unfold tabR
    rw [canAll_one]
    exact canB_bar ht (j := lo) (by simp) (fun e => hw e.symm) (.inl (by show (1 : Int) ≠ 3; decide))
  · refine ⟨[keyT t k, tabT t], by simp, fun x => ?_, rfl⟩
    rw [take_W, takeS_isSome, takeS_isSome]
    simp only [List.mem_cons, List.not_mem_nil, or_false, Bool.or_eq_true, decide_eq_true_eq]
    constructor
    · rintro (e | e)
      · exact .inl e
      · exact .inr (.inl e)
    · rintro (e | e | e)
      · exact .inl e
      · exact .inr e
      · obtain ⟨ho, hx⟩ := Option.isSome_iff_exists.1 e
        exact (h.only x ho hx).1
end
abbrev as1 : ByteArray := ⟨#[97]⟩
set_option maxHeartbeats 16000000 in
theorem reads_walk (n0 t : Int) (k : ByteArray) (w : World) (hn0 : (Lit.int .i64 n0).wf = true) (ht : (Lit.int .i64 t).wf = true) (_hk : k.size ≤ maxLen) : Calls Try.prog 4 #[.int .i64 n0, .int .i64 t, .string k] w fun e w' => e = .returned (.bool true) ∧ Below w.heap.size w w' := by
  by_cases hl : k.size ≤ 100
  · have hl1 : ¬ (100 : Int) < (k.size : Int) := by omega
    have HT := hide ht
    have HK : Hid (k.size ≤ maxLen) := hide (by unfold maxLen; omega)
    have HKX : Hid ((k ++ as1).size ≤ maxLen) := hide (by rw [ByteArray.size_append, show as1.size = 1 from rfl]; unfold maxLen; omega)
    have hks : k.size ≤ 100 := hl
    clear hl ht hn0
    obtain ⟨m, hm8, hand⟩ := and7 n0
    obtain ⟨M, N, hM, hN, hN10, hM1, hNM⟩ : ∃ M N : Nat, (N : Int) - 1 = (M : Int) ∧ (m : Int) + 2 = (N : Int) ∧ N ≤ 10 ∧ 0 < M ∧ (N : Int) = (M : Int) + 1 := ⟨m + 1, m + 2, by omega, by omega, by omega, by omega, by omega⟩
    have hm9 : (m : Int) < 8 := by omega
    have HM1 := hide hM1
    have HNM := hide hNM
    have HMM := hide hM
    have HN2 : Hid ((0 : Int) + 1 < (N : Int)) := hide (by omega)
    have hN11 : M ≤ 10 := by omega
    clear hm8 hNM hM1 hM
    go_enter Try.func4, Try.ntmps4
    go_wp2_with (first
      | (go_at_call 8; (with_reducible refine (fit_any _).mono ?_); rintro e w0 ⟨rfl, hb⟩; have S0 := hide ((Ow.start w).below hb); clear hb)
      | (go_at_call 9; (with_reducible refine (ow_newlk S0.out).mono ?_); rintro e w1 ⟨g, rfl, hs⟩; have S1 := hide hs; clear hs))
    clear hand hN hm9
    have hM := HMM.out
    have HS0 := S1
    have HP0 : Hid (RdP t k 0 ((0 : Nat) : Int) (fun _ => none)) := hide RdP.start
    have HN0 : Hid (0 ≤ 2 * 0) := hide (by omega)
    clear S0 S1
    go_loopw [21] (fun i wr => ∃ (j n : Nat) (S : Th → Option Ho), j ≤ N ∧ i = .int .i64 j ∧ Hid (Ow w (fun _ => False) wr [Res.lock g n S]) ∧ Hid (RdP t k 0 (j : Int) S) ∧ Hid (n ≤ 2 * j)) (fun i _ => N - (intOf i).toNat)
    case atStart => exact ⟨0, 0, _, by omega, rfl, HS0, HP0, HN0⟩
    case round =>
      clear HS0 HP0 HN0
      obtain ⟨j, n, S, hj, rfl, hs, HP, hn⟩ := hrel
      by_cases hlt : j < N
      · have HWJ : Hid ((Lit.int .i64 (j : Int)).wf = true) := hide (wf_small (by omega) (by omega))
        have hnb : n ≤ 800000 := by have := hn.out; omega
        have q1 : (j : Int) < (N : Int) := by omega
        have HLT := hide hlt
        clear hlt
        have hs2 := hs.out
        clear hs
        have hs := hs2
        clear hs2
        have HK0 := hide (ow_key_read (S := S) (S' := (takeAll S (j : Int) (keyR t k))) (n' := (n + 1)) hs (i := 0) rfl (j : Int) t k (b := true) HP.out.key rfl (by omega) (by omega) HWJ.out ⟨HT.out, HK.out⟩)
        clear hs
        go_wp2_with (first
          | (go_at_call 10; (with_reducible refine HK0.out.mono ?_); rintro e w2 ⟨rfl, hs⟩; clear HK0; have HK1 := hide (ow_table (S := (takeAll S (j : Int) (keyR t k))) (S' := (takeAll (takeAll S (j : Int) (keyR t k)) (j : Int) (tabR t))) (n' := (n + 2)) hs (i := 0) rfl (j : Int) t (b := true) HP.out.tab rfl (by omega) (by omega) HWJ.out HT.out); clear hs)
          | (go_at_call 11; (with_reducible refine HK1.out.mono ?_); rintro e w3 ⟨rfl, hs⟩; clear HK1; have HE := hide hs; clear hs))
        go_roundw
        case rel => exact ⟨j + 1, _, _, by have := HLT.out; omega, by go_num, HE, hide (by have h := HP.out.more (by omega); rwa [show (j : Int) + 1 = ((j + 1 : Nat) : Int) by omega] at h), hide (by have := hn.out; omega)⟩
        case measure => simp [intOf]; have := HLT.out; omega
      · obtain rfl : N = j := by omega
        clear hlt hj
        have q2 : ¬ (N : Int) < (N : Int) := by omega
        have HS0 := hs
        have HP0 := HP
        have HN0 := hn
        clear hs HP hn
        go_wp2
        go_loopw [39] (fun i wr => ∃ (j n : Nat) (S : Th → Option Ho), j ≤ N ∧ i = .int .i64 j ∧ Hid (Ow w (fun _ => False) wr [Res.lock g n S]) ∧ Hid (RdP t k 0 (N : Int) S) ∧ Hid (n ≤ 2 * N + 4 * j)) (fun i _ => N - (intOf i).toNat)
        case atStart => exact ⟨0, _, _, by omega, rfl, HS0, HP0, hide (by have := HN0.out; omega)⟩
        case round =>
          clear HS0 HP0 HN0
          rename World => w8
          obtain ⟨j, n, S, hj, rfl, hs, HP, hn⟩ := hrel
          by_cases hlt : j < N
          · have HWJ : Hid ((Lit.int .i64 (j : Int)).wf = true) := hide (wf_small (by omega) (by omega))
            have hnb : n ≤ 800000 := by have := hn.out; omega
            have q1 : (j : Int) < (N : Int) := by omega
            have HLT := hide hlt
            clear hlt
            have hs2 := hs.out
            clear hs
            have hs := hs2
            clear hs2
            have HK0 := hide (ow_key_change (S := S) (S' := S) (n' := (n + 2)) hs (i := 0) rfl (j : Int) t k (b := false) (HP.out.bar HN2.out) rfl (by omega) (by omega) HWJ.out ⟨HT.out, HK.out⟩)
            clear hs
            go_wp2_with (first
              | (go_at_call 10; (with_reducible refine HK0.out.mono ?_); rintro e w2 ⟨rfl, hs⟩; clear HK0; have HK1 := hide (ow_key_change (S := S) (S' := S) (n' := (n + 4)) hs (i := 0) rfl (j : Int) t (k ++ as1) (b := false) (HP.out.bar HN2.out) rfl (by omega) (by omega) HWJ.out ⟨HT.out, HKX.out⟩); clear hs)
              | (go_at_call 10; (with_reducible refine HK1.out.mono ?_); rintro e w3 ⟨rfl, hs⟩; clear HK1; have HE := hide hs; clear hs))
            go_roundw
            case rel => exact ⟨j + 1, _, _, by have := HLT.out; omega, by go_num, HE, hide (HP.out), hide (by have := hn.out; omega)⟩
            case measure => simp [intOf]; have := HLT.out; omega
          · obtain rfl : N = j := by omega
            clear hlt hj
            have q2 : ¬ (N : Int) < (N : Int) := by omega
            have HS0 := hs
            have HP0 := HP
            have HN0 := hn
            clear hs HP hn
            go_wp2
            go_loopw [58] (fun i wr => ∃ (j n : Nat) (S : Th → Option Ho), j ≤ M ∧ i = .int .i64 j ∧ Hid (Ow w (fun _ => False) wr [Res.lock g n S]) ∧ Hid (RdP t k (j : Int) (N : Int) S) ∧ Hid (n ≤ 100)) (fun i _ => M - (intOf i).toNat)
            case atStart => exact ⟨0, _, _, by omega, rfl, HS0, HP0, hide (by have := HN0.out; omega)⟩
            case round =>
              clear HS0 HP0 HN0
              rename World => w9
              obtain ⟨j, n, S, hj, rfl, hs, HP, hn⟩ := hrel
              by_cases hlt : j < M
              · have HWJ : Hid ((Lit.int .i64 (j : Int)).wf = true) := hide (wf_small (by omega) (by omega))
                have hnb : n ≤ 800000 := by have := hn.out; omega
                have q1 : (j : Int) < (M : Int) := by omega
                have HLT := hide hlt
                clear hlt
                have hs2 := hs.out
                clear hs
                have hs := hs2
                clear hs2
                have HK0 := hide (ow_drop (S := S) (S' := (dropS S (j : Int))) hs (i := 0) rfl (j : Int) rfl HWJ.out)
                clear hs
                go_wp2_with (first
                  | (go_at_call 12; (with_reducible refine HK0.out.mono ?_); rintro e w2 ⟨rfl, hs⟩; clear HK0; have HE := hide hs; clear hs))
                go_roundw
                case rel => exact ⟨j + 1, _, _, by have := HLT.out; omega, by go_num, HE, hide (by have h := HP.out.less (by have := HNM.out; have := HLT.out; omega); rwa [show (j : Int) + 1 = ((j + 1 : Nat) : Int) by omega] at h), hide (by have := hn.out; omega)⟩
                case measure => simp [intOf]; have := HLT.out; omega
              · obtain rfl : M = j := by omega
                clear hlt hj
                have q2 : ¬ (M : Int) < (M : Int) := by omega
                have HS0 := hs
                have HP0 := HP
                have HN0 := hn
                clear hs HP hn
                have HLAST := hide (RdP.last (lo := (M : Int)) (by have := HP0.out; rwa [HNM.out] at this))
                have HWM : Hid ((Lit.int .i64 (M : Int)).wf = true) := hide (wf_small (by omega) (by omega))
                have HM0 : Hid ((0 : Int) ≠ (M : Int)) := hide (by have := HM1.out; omega)
                have hnb : n ≤ 800000 := by have := HN0.out; omega
                have hs := HS0.out
                clear HS0 HP0 HN0
                have HK0 := hide (ow_key_change (S := S) (S' := (takeAll S (M : Int) (keyW t k))) (n' := (n + 2)) hs (i := 0) rfl (M : Int) t k (b := true) HLAST.out.1 rfl (by omega) (by omega) HWM.out ⟨HT.out, HK.out⟩)
                clear hs
                go_wp2_with (first
                  | (go_at_call 10; (with_reducible refine HK0.out.mono ?_); rintro e w2 ⟨rfl, hs⟩; clear HK0; have HK1 := hide (ow_key_read (S := (takeAll S (M : Int) (keyW t k))) (S' := (takeAll S (M : Int) (keyW t k))) (n' := (n + 3)) hs (i := 0) rfl 0 t k (b := false) (HLAST.out.2.1 0 HM0.out).1 rfl (by omega) (by omega) (wf_small (by decide) (by decide)) ⟨HT.out, HK.out⟩); clear hs)
                  | (go_at_call 10; (with_reducible refine HK1.out.mono ?_); rintro e w3 ⟨rfl, hs⟩; clear HK1; have HK2 := hide (ow_table (S := (takeAll S (M : Int) (keyW t k))) (S' := (takeAll S (M : Int) (keyW t k))) (n' := (n + 4)) hs (i := 0) rfl 0 t (b := false) (HLAST.out.2.1 0 HM0.out).2 rfl (by omega) (by omega) (wf_small (by decide) (by decide)) HT.out); clear hs)
                  | (go_at_call 11; (with_reducible refine HK2.out.mono ?_); rintro e w4 ⟨rfl, hs⟩; clear HK2; have HS3 := hide hs; have HK3 := hide (ow_lklen (S := (takeAll S (M : Int) (keyW t k))) hs (i := 0) rfl HLAST.out.2.2); clear hs)
                  | (go_at_call 13; (with_reducible refine HK3.out.mono ?_); rintro e w5 ⟨rfl, rfl⟩; clear HK3; have hs := HS3.out; clear HS3; have HE := hide hs; clear hs))
                go_ret
                exact ⟨rfl, HE.out.bel⟩
  · have hl1 : (100 : Int) < (k.size : Int) := by omega
    clear hl
    go_enter Try.func4, Try.ntmps4
    go_wp2_with (go_at_call 8; (with_reducible refine (fit_any _).mono ?_); rintro e w0 ⟨rfl, hb⟩; have S0 := hide ((Ow.start w).below hb); clear hb)
    go_ret
    exact ⟨rfl, S0.out.bel⟩
end Go.Proofs.Ytdoeinofcklnhaa
