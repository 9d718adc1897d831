/-
  LockApart's walk.
-/
import Derived.Test.YtdoeinofcklnhaaKeyC
import Derived.Test.YtdoeinofcklnhaaStrsB
namespace Go.Proofs.Ytdoeinofcklnhaa
open Go.RowKit
set_option maxRecDepth 20000
set_option linter.unusedSimpArgs false
set_option linter.unusedVariables false

abbrev kS : KeyShape ByteArray := strK 9 Try.underlying9
abbrev intV : Int → Value := Value.int .i64
theorem mapW : Try.prog.underlying 35 = some (.map kS.k 3) := Try.underlying35
theorem zero_intV (w : World) : (zeroValue 3).run Try.prog w = .ok (intV 0) w := by kernel_rfl
/-- Keys of one table, each changed by one, whom f tells; nothing of the next table but by 99. -/
structure ApP (t : Int) (j : Nat) (f : ByteArray → Option Int) (S : Th → Option Ho) : Prop where
  who : ∀ k i, f k = some i → 0 ≤ i ∧ i < (j : Int)
  key : ∀ k i, f k = some i → ∃ ho, S (keyT t k) = some ho ∧ ho.m = 3 ∧ ∀ o, ho.o o = true ↔ o = i
  keyn : ∀ k, f k = none → S (keyT t k) = none
  tab : ∀ ho, S (tabT t) = some ho → ho.m = 2 ∧ ∀ k i, f k = some i → ho.o i = true
  tabn : ∀ k i, f k = some i → (S (tabT t)).isSome = true
  next : ∀ b k ho, S ⟨t + 1, b, k⟩ = some ho → ∀ o, ho.o o = true → o = 99
theorem next_ne {t : Int} {b b' : Bool} {k k' : ByteArray} : (⟨t, b, k⟩ : Th) ≠ ⟨t + 1, b', k'⟩ := fun e => by
  injection e with e
  omega
section
variable {t : Int} {j : Nat} {f : ByteArray → Option Int} {S : Th → Option Ho} {k : ByteArray} {i : Int}
theorem ApP.start : ApP t 0 (fun _ => none) (fun _ => none) := ⟨(fun _ _ h => by cases h), (fun _ _ h => by cases h), fun _ _ => rfl, (fun _ h => by cases h), (fun _ _ h => by cases h), (fun _ _ _ h => by cases h)⟩
theorem ApP.up (h : ApP t j f S) : ApP t (j + 1) f S := ⟨fun k i hk => by have := h.who k i hk; omega, h.key, h.keyn, h.tab, h.tabn, h.next⟩
/-- Who comes second is barred. -/
theorem ApP.bar (h : ApP t j f S) (hk : f k = some i) : canAll S (j : Int) (keyW t k) = false := by
  obtain ⟨ho, h1, h2, h3⟩ := h.key k i hk
  have := h.who k i hk
  unfold keyW
  rw [canAll_two, canB_bar h1 (j := i) ((h3 i).2 rfl) (by omega) (.inr rfl), Bool.and_false]
theorem ApP.canT (h : ApP t j f S) (who : Int) : canB S who (tabT t) 2 = true := by
  cases e : S (tabT t) with
  | none => exact canB_none e
  | some ho => exact canB_same e (h.tab ho e).1.symm (by decide)
/-- Who comes first has it. -/
theorem ApP.can (h : ApP t j f S) (hk : f k = none) {who : Int} : canAll S who (keyW t k) = true := by
  rw [canAll_W]
  exact ⟨h.canT who, canB_none (h.keyn k hk)⟩
theorem ApP.put (h : ApP t j f S) (hk : f k = none) : ApP t (j + 1) (fun q => if q = k then some (j : Int) else f q) (takeAll S (j : Int) (keyW t k)) := by
  have kk : takeAll S (j : Int) (keyW t k) (keyT t k) = some ⟨3, fun o => decide (o = (j : Int)) || false⟩ := by
    rw [take_W, takeS_at, takeS_ne key_tab, h.keyn k hk]
    rfl
  have ko : ∀ q, q ≠ k → takeAll S (j : Int) (keyW t k) (keyT t q) = S (keyT t q) := fun q hq => by
    rw [take_W, takeS_ne (fun e => by injection e with _ _ e; exact hq e), takeS_ne key_tab]
  have tt : takeAll S (j : Int) (keyW t k) (tabT t) = some ⟨2, fun o => decide (o = (j : Int)) || ((S (tabT t)).getD ⟨2, fun _ => false⟩).o o⟩ := by
    rw [take_W, takeS_ne tab_key, takeS_at]
    cases e : S (tabT t) with
    | none => rfl
    | some ho => simp [(h.tab ho e).1]
  refine ⟨fun q i hq => ?_, fun q i hq => ?_, fun q hq => ?_, fun ho e => ?_, fun q i hq => ?_, fun b q ho e => ?_⟩
  · have hq : (if q = k then some (j : Int) else f q) = some i := hq
    split at hq
    · have := Option.some.inj hq
      omega
    · have := h.who q i hq
      omega
  · have hq : (if q = k then some (j : Int) else f q) = some i := hq
    by_cases e : q = k
    · rw [if_pos e] at hq
      have hji := Option.some.inj hq
      rw [e, ← hji]
      exact ⟨_, kk, rfl, fun o => by simp⟩
    · rw [if_neg e] at hq
      rw [ko q e]
      exact h.key q i hq
  · have hq : (if q = k then some (j : Int) else f q) = none := hq
    split at hq
    · cases hq
    · rename_i e
      rw [ko q e]
      exact h.keyn q hq
  · rw [tt] at e
    obtain rfl := Option.some.inj e
    refine ⟨rfl, fun q i hq => ?_⟩
    have hq : (if q = k then some (j : Int) else f q) = some i := hq
    split at hq
    · obtain rfl := Option.some.inj hq
      simp
    · obtain ⟨ho, e⟩ := Option.isSome_iff_exists.1 (h.tabn q i hq)
      rw [e]
      simp [(h.tab ho e).2 q i hq]
  · rw [tt]
    rfl
  · rw [take_W, takeS_ne (fun e => next_ne e.symm), takeS_ne (fun e => next_ne e.symm)] at e
    exact h.next b q ho e
/-- Who has it may have it again. -/
theorem ApP.again (h : ApP t j f S) (hk : f k = some i) : canAll S i (keyW t k) = true ∧ ApP t j f (takeAll S i (keyW t k)) := by
  obtain ⟨ho, h1, h2, h3⟩ := h.key k i hk
  refine ⟨by rw [canAll_W]; exact ⟨h.canT i, canB_own h1 (fun o ho2 => (h3 o).1 ho2)⟩, ?_⟩
  have kk : takeAll S i (keyW t k) (keyT t k) = some ⟨3, fun o => decide (o = i) || ho.o o⟩ := by
    rw [take_W, takeS_at, takeS_ne key_tab, h1]
    simp [h2]
  have ko : ∀ q, q ≠ k → takeAll S i (keyW t k) (keyT t q) = S (keyT t q) := fun q hq => by
    rw [take_W, takeS_ne (fun e => by injection e with _ _ e; exact hq e), takeS_ne key_tab]
  have tt : takeAll S i (keyW t k) (tabT t) = some ⟨2, fun o => decide (o = i) || ((S (tabT t)).getD ⟨2, fun _ => false⟩).o o⟩ := by
    rw [take_W, takeS_ne tab_key, takeS_at]
    cases e : S (tabT t) with
    | none => rfl
    | some ho => simp [(h.tab ho e).1]
  refine ⟨h.who, fun q x hq => ?_, fun q hq => ?_, fun ho e => ?_, fun q x hq => ?_, fun b q ho e => ?_⟩
  · by_cases e : q = k
    · subst e
      rw [hk] at hq
      obtain rfl := Option.some.inj hq
      exact ⟨_, kk, rfl, fun o => by simp [h3]⟩
    · rw [ko q e]
      exact h.key q x hq
  · have e : q ≠ k := fun e => by subst e; rw [hk] at hq; cases hq
    rw [ko q e]
    exact h.keyn q hq
  · rw [tt] at e
    obtain rfl := Option.some.inj e
    refine ⟨rfl, fun q x hq => ?_⟩
    obtain ⟨ho, e⟩ := Option.isSome_iff_exists.1 (h.tabn q x hq)
    rw [e]
    simp [(h.tab ho e).2 q x hq]
  · rw [tt]
    rfl
  · rw [take_W, takeS_ne (fun e => next_ne e.symm), takeS_ne (fun e => next_ne e.symm)] at e
    exact h.next b q ho e
theorem ApP.read (h : ApP t j f S) (hk : f k = some i) : canAll S i (keyR t k) = true ∧ ApP t j f (takeAll S i (keyR t k)) := by
  obtain ⟨ho, h1, h2, h3⟩ := h.key k i hk
  refine ⟨by rw [canAll_R]; exact canB_own h1 (fun o ho2 => (h3 o).1 ho2), ?_⟩
  have kk : takeAll S i (keyR t k) (keyT t k) = some ⟨3, fun o => decide (o = i) || ho.o o⟩ := by
    rw [take_R, takeS_at, h1]
    simp [h2]
  have ko : ∀ x, x ≠ keyT t k → takeAll S i (keyR t k) x = S x := fun x hx => by rw [take_R, takeS_ne hx]
  refine ⟨h.who, fun q x hq => ?_, fun q hq => ?_, fun ho e => ?_, fun q x hq => ?_, fun b q ho e => ?_⟩
  · by_cases e : q = k
    · subst e
      rw [hk] at hq
      obtain rfl := Option.some.inj hq
      exact ⟨_, kk, rfl, fun o => by simp [h3]⟩
    · rw [ko _ (fun e2 => by injection e2 with _ _ e2; exact e e2)]
      exact h.key q x hq
  · have e : q ≠ k := fun e => by subst e; rw [hk] at hq; cases hq
    rw [ko _ (fun e2 => by injection e2 with _ _ e2; exact e e2)]
    exact h.keyn q hq
  · rw [ko _ tab_key] at e
    exact h.tab ho e
  · rw [ko _ tab_key]
    exact h.tabn q x hq
  · rw [ko _ (fun e => next_ne e.symm)] at e
    exact h.next b q ho e
theorem next_can {S : Th → Option Ho} {x : Th} {m : Int} (h : ∀ ho, S x = some ho → ∀ o, ho.o o = true → o = 99) : canB S 99 x m = true := by
  cases e : S x with
  | none => exact canB_none e
  | some ho => exact canB_own e (h ho e)
theorem next_take {S : Th → Option Ho} {x : Th} {m : Int} {ho : Ho} (h : ∀ ho, S x = some ho → ∀ o, ho.o o = true → o = 99) (hx : takeS S 99 x m x = some ho) : ∀ o, ho.o o = true → o = 99 := by
  intro o ho2
  rw [takeS_at] at hx
  obtain rfl := Option.some.inj hx
  cases e : S x with
  | none => rw [e] at ho2; simpa using ho2
  | some hh =>
    rw [e] at ho2
    simp only [Option.getD_some, Bool.or_eq_true, decide_eq_true_eq] at ho2
    rcases ho2 with h1 | h1
    · exact h1
    · exact h hh e o h1
/-- The same key of the next table. -/
theorem ApP.other (h : ApP t j f S) : canAll S 99 (keyW (t + 1) k) = true ∧ ApP t j f (takeAll S 99 (keyW (t + 1) k)) := by
  refine ⟨by rw [canAll_W]; exact ⟨next_can (h.next _ _), next_can (h.next _ _)⟩, ?_⟩
  have ko : ∀ b q, takeAll S 99 (keyW (t + 1) k) ⟨t, b, q⟩ = S ⟨t, b, q⟩ := fun b q => by rw [take_W, takeS_ne next_ne, takeS_ne next_ne]
  refine ⟨h.who, fun q x hq => ?_, fun q hq => ?_, fun ho e => ?_, fun q x hq => ?_, fun b q ho e => ?_⟩
  · rw [ko]; exact h.key q x hq
  · rw [ko]; exact h.keyn q hq
  · rw [ko] at e; exact h.tab ho e
  · rw [ko]; exact h.tabn q x hq
  · rw [take_W] at e
    by_cases e1 : (⟨t + 1, b, q⟩ : Th) = keyT (t + 1) k
    · rw [e1] at e
      refine next_take (fun ho2 e3 => ?_) e
      rw [takeS_ne key_tab] at e3
      exact h.next _ _ _ e3
    · rw [takeS_ne e1] at e
      by_cases e2 : (⟨t + 1, b, q⟩ : Th) = tabT (t + 1)
      · rw [e2] at e
        exact next_take (fun ho2 e3 => h.next _ _ _ e3) e
      · rw [takeS_ne e2] at e
        exact h.next _ _ _ e
/-- A reader of the table is barred; one of the next isn't. -/
theorem ApP.table (h : ApP t j f S) (hk : f k = some i) (hj : j ≤ 30) : canAll S 99 (tabR t) = false := by
  obtain ⟨ho, e⟩ := Option.isSome_iff_exists.1 (h.tabn k i hk)
  obtain ⟨h1, h2⟩ := h.tab ho e
  have := h.who k i hk
  unfold tabR
  rw [canAll_one]
  exact canB_bar e (j := i) (h2 k i hk) (by omega) (.inl (by rw [h1]; decide))
theorem ApP.tnext (h : ApP t j f S) : canAll S 99 (tabR (t + 1)) = true := by
  unfold tabR
  rw [canAll_one]
  exact next_can (h.next _ _)
end
set_option maxHeartbeats 16000000 in
theorem apart_walk (v : Value) (ks : List ByteArray) (t0 : Int) (w : World) (_hl : ks.length ≤ maxLen) (hv : Row w w.heap.size v (strsV ks)) (_ht : (Lit.int .i64 t0).wf = true) : Calls Try.prog 5 #[v, .int .i64 t0] w fun e w' => e = .returned (.bool true) ∧ Below w.heap.size w w' := by
  obtain ⟨A0, cap, rfl, _, hA⟩ := hv
  rw [strsV_length] at hA ⊢
  have HA := hide hA
  clear hA
  by_cases hlen : ks.length ≤ 30
  · have hl1 : ¬ (30 : Int) < (ks.length : Int) := by omega
    have HFEW := hide hlen
    obtain ⟨m, hm16, hand0⟩ := and_low t0 16 (by omega)
    obtain ⟨t, hand, ht0, ht1⟩ : ∃ t : Int, bits .and .i64 t0 65535 = t ∧ 0 ≤ t ∧ t ≤ 65535 := ⟨(m : Int), hand0, by omega, by omega⟩
    have HT : Hid ((Lit.int .i64 t).wf = true) := hide (wf_small (by omega) (by omega))
    have HT1 : Hid ((Lit.int .i64 (t + 1)).wf = true) := hide (wf_small (by omega) (by omega))
    clear hlen hm16 hand0
    have hmm := @run_makeMap Try.prog
    go_enter Try.func5, Try.ntmps5
    go_wp2_with (first
      | (go_at_call 8; (with_reducible refine (fit_any _).mono ?_); rintro e w0 ⟨rfl, hb⟩; have S0 := hide ((Ow.start w).below hb); clear hb)
      | (go_at_call 9; (with_reducible refine (ow_newlk S0.out).mono ?_); rintro e w1 ⟨g, rfl, hs⟩; have S1 := hide hs; clear hs))
    have HS0 := hide (S1.out.newmap kS intV)
    generalize hw1 : w1.alloc (.map #[] 0) = wb at *
    generalize w1.heap.size = b at *
    clear hw1 hand hmm S0 S1
    go_loopw [24] (fun i wr => ∃ (j n nm : Nat) (S : Th → Option Ho) (f : ByteArray → Option Int) (c : Nat), j ≤ ks.length ∧ i = .int .i64 j ∧ Hid (Ow w (fun _ => False) wr [Res.lock g n S, Res.map kS intV b nm f c]) ∧ Hid (ApP t j f S) ∧ Hid (n ≤ 2 * j) ∧ Hid (nm ≤ j) ∧ Hid (∀ q, q < j → ∃ x, ks[q]? = some x ∧ (f x).isSome = true)) (fun i _ => ks.length - (intOf i).toNat)
    case atStart => exact ⟨0, 0, 0, _, _, 0, by omega, rfl, HS0, hide ApP.start, hide (by omega), hide (by omega), hide (fun q hq => by omega)⟩
    case round =>
      clear HS0
      obtain ⟨j, n, nm, S, f, c, hj, rfl, hs, HP, hn, hm, HFI⟩ := hrel
      by_cases hlt : j < ks.length
      · obtain ⟨bb, o, rfl, hbb, hcell⟩ := HA.out (by omega)
        have hck := (hs.out.bel.cell (p := ⟨bb, o + j, none⟩) hbb).trans (hcell j _ (strsV_get ks j hlt))
        have q0 : (0 : Int) ≤ (j : Int) := by omega
        have q1 : (j : Int) < (ks.length : Int) := by omega
        have HKJ := hide (List.getElem?_eq_getElem hlt)
        generalize hkk : ks[j] = k at *
        have HLT := hide hlt
        have hnb : n ≤ 800000 := by have := hn.out; have := HFEW.out; omega
        clear hkk hlt hbb hcell
        by_cases hl : k.size ≤ 100
        · have hl2 : ¬ (100 : Int) < (k.size : Int) := by omega
          have hkm : kS.ok k := (show k.size ≤ maxLen by unfold maxLen; omega)
          have HK : Hid (k.size ≤ maxLen) := hide hkm
          have HWJ : Hid ((Lit.int .i64 (j : Int)).wf = true) := hide (wf_small (by omega) (by have := HLT.out; have := HFEW.out; omega))
          have HNM : Hid (nm < maxLen) := hide (by have := hm.out; have := HLT.out; have := HFEW.out; unfold maxLen; omega)
          clear hl
          cases hfk : f k with
          | none =>
            have hlk := (hs.out.map (i := 1) rfl).look_ok mapW (z := (0 : Int)) zero_intV k hkm
            rw [hfk] at hlk
            have hl2 : (Instr.lookup 35 (.map (some b)) (.string k) true).run Try.prog wr = .ok (.tuple #[.int .i64 0, .bool false]) wr := hlk
            clear hlk
            have HFK := hide hfk
            have HCAN := hide (HP.out.can (who := (j : Int)) hfk)
            clear hfk hkm
            have hs2 := hs.out
            clear hs
            have hs := hs2
            clear hs2
            have HK0 := hide (ow_key_change (S := S) (S' := (takeAll S (j : Int) (keyW t k))) (n' := (n + 2)) hs (i := 0) rfl (j : Int) t k (b := true) HCAN.out rfl (by omega) (by omega) HWJ.out ⟨HT.out, HK.out⟩)
            clear hs
            go_wp2_with (first
              | (go_at_call 10; (with_reducible refine HK0.out.mono ?_); rintro e w2 ⟨rfl, hs⟩; clear HK0; obtain ⟨w6, hr6, hm6, ht6⟩ := (hs.map (i := 1) rfl).store mapW HNM.out k HK.out (j : Int); have hr7 : (Instr.mapUpdate 35 (.map (some b)) (.string k) (.int .i64 (j : Int))).run Try.prog w2 = .ok () w6 := hr6; have HE := hide (hs.mapped (i := 1) rfl hm6 ht6); clear hs hr6 hm6 ht6))
            go_roundw
            case rel => exact ⟨j + 1, n + 2, nm + 1, _, _, _, by have := HLT.out; omega, by go_num, HE, hide (HP.out.put HFK.out), hide (by have := hn.out; omega), hide (by have := hm.out; omega), hide (fun q hq => by (by_cases e : q = j; exact ⟨k, by rw [e]; exact HKJ.out, by simp⟩; obtain ⟨x, h1, h2⟩ := HFI.out q (by omega); exact ⟨x, h1, by (by_cases e2 : x = k <;> simp [e2, h2])⟩))⟩
            case measure => simp [intOf]; have := HLT.out; omega
          | some z =>
            have hlk := (hs.out.map (i := 1) rfl).look_ok mapW (z := (0 : Int)) zero_intV k hkm
            rw [hfk] at hlk
            have hl2 : (Instr.lookup 35 (.map (some b)) (.string k) true).run Try.prog wr = .ok (.tuple #[.int .i64 z, .bool true]) wr := hlk
            clear hlk
            have HFK := hide hfk
            have HBAR := hide (HP.out.bar hfk)
            clear hfk hkm
            have hs2 := hs.out
            clear hs
            have hs := hs2
            clear hs2
            have HK0 := hide (ow_key_change (S := S) (S' := S) (n' := (n + 2)) hs (i := 0) rfl (j : Int) t k (b := false) HBAR.out rfl (by omega) (by omega) HWJ.out ⟨HT.out, HK.out⟩)
            clear hs
            go_wp2_with (first
              | (go_at_call 10; (with_reducible refine HK0.out.mono ?_); rintro e w2 ⟨rfl, hs⟩; clear HK0; have HE := hide hs; clear hs))
            go_roundw
            case rel => exact ⟨j + 1, n + 2, nm, S, f, c, by have := HLT.out; omega, by go_num, HE, hide HP.out.up, hide (by have := hn.out; omega), hide (by have := hm.out; omega), hide (fun q hq => by (by_cases e : q = j; exact ⟨k, by rw [e]; exact HKJ.out, by rw [HFK.out]; rfl⟩; exact HFI.out q (by omega)))⟩
            case measure => simp [intOf]; have := HLT.out; omega
        · have hl2 : (100 : Int) < (k.size : Int) := by omega
          clear hl
          go_wp2
          go_ret
          exact ⟨rfl, hs.out.bel⟩
      · obtain rfl : j = ks.length := by omega
        clear hlt hj
        have HCC := hide ((hs.out.map (i := 1) rfl).le)
        go_wp2_with (at_range; refine wpList_range_G wr rfl _ 35 rfl 3 mapW b nm f c rfl (hs.out.map (i := 1) rfl) ?_; intro w0 hrg hb0 hs0; have HS0 := hide (hs.out.ranged (i := 1) rfl hrg hb0); clear hrg hb0 hs0)
        go_frame
        have HP0 := HP
        have HN0 : Hid (n + 6 * c ≤ 300) := hide (by have := hn.out; have := hm.out; have := HCC.out; have := HFEW.out; omega)
        generalize wr.heap.size = r at *
        clear hs HP hn hm HCC
        go_loopw [53] (fun v wr => ∃ (left : ByteArray → Bool) (cnt n : Nat) (S : Th → Option Ho), Hid (Ow w (fun _ => False) wr [Res.lock g n S, Res.range kS intV b r nm f c left cnt]) ∧ Hid (ApP t ks.length f S) ∧ Hid (n + 6 * cnt ≤ 300)) (fun _ wr => wr.rangeLeft b r)
        case atStart => exact ⟨_, _, _, _, HS0, HP0, HN0⟩
        case round =>
          clear HS0 HP0 HN0
          rename World => w1
          obtain ⟨left, cnt, n, S, hs, HP, hn⟩ := hrel
          go_wp2_with (at_next; refine wpList_next_G w1 rfl _ rfl b r nm f c left cnt rfl (hs.out.range (i := 1) rfl) ?_ ?_)
          · intro _ _
            have hnb : n ≤ 800000 := by have := hn.out; omega
            by_cases h0 : ks.length = 0
            · have q2 : ((ks.length : Int) == 0) = true := by simp [h0]
              go_wp2
              go_ret
              exact ⟨rfl, hs.out.bel⟩
            · have q2 : ((ks.length : Int) == 0) = false := by simp [h0]
              obtain ⟨x, _, hx⟩ := HFI.out 0 (by omega)
              obtain ⟨z, hz⟩ := Option.isSome_iff_exists.1 hx
              have HBT := hide (HP.out.table hz HFEW.out)
              clear hx hz h0
              have hs2 := hs.out
              clear hs
              have hs := hs2
              clear hs2
              have HK0 := hide (ow_table (S := S) (S' := S) (n' := (n + 1)) hs (i := 0) rfl 99 t (b := false) HBT.out rfl (by omega) (by omega) (wf_small (by decide) (by decide)) HT.out)
              clear hs
              go_wp2_with (first
                | (go_at_call 11; (with_reducible refine HK0.out.mono ?_); rintro e w2 ⟨rfl, hs⟩; clear HK0; have HK1 := hide (ow_table (S := S) (S' := (takeAll S 99 (tabR (t + 1)))) (n' := (n + 2)) hs (i := 0) rfl 99 (t + 1) (b := true) HP.out.tnext rfl (by omega) (by omega) (wf_small (by decide) (by decide)) HT1.out); clear hs)
                | (go_at_call 11; (with_reducible refine HK1.out.mono ?_); rintro e w3 ⟨rfl, hs⟩; clear HK1; have HE := hide hs; clear hs))
              go_ret
              exact ⟨rfl, HE.out.bel⟩
          · intro k i w3 cnt1 hok hfk hlx hrg1 hlt1 hk1 hsz1 hen
            have ev : kS.val k = .string k := rfl
            rw [ev] at hen ⊢
            clear ev
            have HK : Hid (k.size ≤ maxLen) := hide hok
            have hwi := HP.out.who k i hfk
            have HWI : Hid ((Lit.int .i64 i).wf = true) := hide (wf_small (by omega) (by have := HFEW.out; omega))
            have HA1 := hide (HP.out.again hfk)
            have HA2 := hide (HA1.out.2.read hfk)
            have HA3 := hide (HA2.out.2.other (k := k))
            have HLT := hide hlt1
            have hnb : n ≤ 800000 := by have := hn.out; omega
            have HRG := hide ((hs.out.range (i := 1) rfl).left_eq)
            have hs2 := hs.out.stepped (i := 1) rfl hrg1 hk1
            clear hs hlt1 hok hfk hlx hrg1 hk1 hsz1 hwi
            have hs := hs2
            clear hs2
            have HK0 := hide (ow_key_change (S := S) (S' := (takeAll S i (keyW t k))) (n' := (n + 2)) hs (i := 0) rfl i t k (b := true) HA1.out.1 rfl (by omega) (by omega) HWI.out ⟨HT.out, HK.out⟩)
            clear hs
            go_wp2_with (first
              | (go_at_call 10; (with_reducible refine HK0.out.mono ?_); rintro e w2 ⟨rfl, hs⟩; clear HK0; have HK1 := hide (ow_key_read (S := (takeAll S i (keyW t k))) (S' := (takeAll (takeAll S i (keyW t k)) i (keyR t k))) (n' := (n + 3)) hs (i := 0) rfl i t k (b := true) HA2.out.1 rfl (by omega) (by omega) HWI.out ⟨HT.out, HK.out⟩); clear hs)
              | (go_at_call 10; (with_reducible refine HK1.out.mono ?_); rintro e w3 ⟨rfl, hs⟩; clear HK1; have HK2 := hide (ow_key_change (S := (takeAll (takeAll S i (keyW t k)) i (keyR t k))) (S' := (takeAll (takeAll (takeAll S i (keyW t k)) i (keyR t k)) 99 (keyW (t + 1) k))) (n' := (n + 5)) hs (i := 0) rfl 99 (t + 1) k (b := true) HA3.out.1 rfl (by omega) (by omega) (wf_small (by decide) (by decide)) ⟨HT1.out, HK.out⟩); clear hs)
              | (go_at_call 10; (with_reducible refine HK2.out.mono ?_); rintro e w4 ⟨rfl, hs⟩; clear HK2; have HE := hide hs; clear hs))
            go_roundw
            case rel => exact ⟨_, cnt1, n + 5, _, HE, hide HA3.out.2, hide (by have := hn.out; have := HLT.out; omega)⟩
            case measure =>
              rw [(HE.out.range (i := 1) rfl).left_eq, HRG.out]
              have := HLT.out
              omega
  · have hl1 : (30 : Int) < (ks.length : Int) := by omega
    clear hlen
    go_enter Try.func5, Try.ntmps5
    go_wp2_with (go_at_call 8; (with_reducible refine (fit_any _).mono ?_); rintro e w0 ⟨rfl, hb⟩; have S0 := hide ((Ow.start w).below hb); clear hb)
    go_ret
    exact ⟨rfl, S0.out.bel⟩
end Go.Proofs.Ytdoeinofcklnhaa
