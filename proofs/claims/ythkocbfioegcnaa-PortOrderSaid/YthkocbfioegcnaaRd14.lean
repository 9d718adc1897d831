/-
  A reader among other things of a call's own; package port: read.
-/
import Derived.Test.YthkocbfioegcnaaRw14
namespace Go.Proofs.Ythkocbfioegcnaa
open Go.RowKit
set_option maxRecDepth 20000
set_option linter.unusedSimpArgs false
set_option linter.unusedVariables false

theorem Rdr.kept {X : Nat → Prop} {w w' : World} {lo g : Nat} {s : St} (h : Rdr w lo g s) (hk : Kept X w w') (hX : ∀ k, lo ≤ k → k ≤ g → ¬ X k) : Rdr w' lo g s := by
  have hlt := h.lt
  obtain ⟨hlo, A, c, hb, hrow, hk1⟩ := h
  refine ⟨hlo, A, c, hk.blk hb (hX g hlo (Nat.le_refl _)), ?_, hk1⟩
  obtain ⟨A', c', he, hc, hA⟩ := hrow
  injection he with e1 e2 e3
  subst e1 e3
  refine ⟨A, c, by rw [e2], hc, fun hn => ?_⟩
  obtain ⟨b, o, rfl, hbg, hcell⟩ := hA hn
  exact ⟨b, o, rfl, hbg, fun j u hu => (hk.cell (p := ⟨b, o + j, none⟩) (show b < w.heap.size by omega) (hX b (hk1 b rfl) (by omega))).trans (hcell j u hu)⟩
/-- A reader. -/
def Res.rdr (lo g : Nat) (s : St) : Res where
  At := fun W S => Rdr W lo g s ∧ ∀ k, lo ≤ k → k ≤ g → S k
  keep := fun h hk hd => ⟨h.1.kept hk (fun k h1 h2 => hd k (h.2 k h1 h2)), h.2⟩
  mono := fun h hs => ⟨h.1, fun k h1 h2 => hs k (h.2 k h1 h2) (Nat.lt_of_le_of_lt h2 h.1.lt)⟩
theorem Ow.startR {w : World} {lo g : Nat} {s : St} (h : Rdr w lo g s) : Ow w (fun k => lo ≤ k ∧ k ≤ g) w [Res.rdr lo g s] := by
  refine ⟨fun k => lo ≤ k ∧ k ≤ g, ⟨fun k => if lo ≤ k ∧ k ≤ g then 1 else 0, fun k => ?_, fun k hk => ?_, fun i r hi => ?_⟩, Kept.refl _ _, fun k hk => .inl hk⟩
  · show _ ↔ (if lo ≤ k ∧ k ≤ g then 1 else 0) ≠ 0
    by_cases e : lo ≤ k ∧ k ≤ g
    · rw [if_pos e]; exact ⟨fun _ => by decide, fun _ => e⟩
    · rw [if_neg e]; exact ⟨fun h => absurd h e, fun h => absurd rfl h⟩
  · by_cases e : lo ≤ k ∧ k ≤ g
    · exact Nat.lt_of_le_of_lt e.2 h.lt
    · exact absurd (if_neg e) hk
  · match i, hi with
    | 0, hi =>
      obtain rfl := Option.some.inj hi
      exact ⟨h, fun k h1 h2 => if_pos ⟨h1, h2⟩⟩
section
variable {A0 W : World} {F0 : Nat → Prop} {L : List Res} {i lo g : Nat} {s : St}
theorem Ow.rdr (h : Ow A0 F0 W L) (hi : L[i]? = some (Res.rdr lo g s)) : Rdr W lo g s := let ⟨S, h⟩ := h.get hi; h.1
theorem Ow.rdrTurn {W' : World} {s' : St} (h : Ow A0 F0 W L) (hi : L[i]? = some (Res.rdr lo g s)) (hr : Rdr W' lo g s') (hg : W.grownBy W' (some g)) : Ow A0 F0 W' (L.set i (Res.rdr lo g s')) := by
  obtain ⟨S, ⟨h4, h5⟩, h6⟩ := h.split hi
  exact h6 _ _ ((Kept.of_grown hg).mono (fun k e => .inl (by obtain rfl := Option.some.inj e; exact h5 _ h4.lo_le (Nat.le_refl _)))) ⟨hr, fun k h1 h2 => .inl (h5 k h1 h2)⟩
theorem ow_take (h : Ow A0 F0 W L) (hi : L[i]? = some (Res.rdr lo g s)) (n : Int) (hm : s.rest.length ≤ 70368744177664) : Calls Try.prog 32 #[.pointer (some ⟨g, 0, none⟩), .int .i64 n] W fun e W' => ∃ v, e = .returned v ∧ Ow A0 F0 W' (L.set i (Res.rdr lo g (s.take n))) :=
  (take_any n (h.rdr hi) hm).mono fun _ _ ⟨v, e, _, h1, h2⟩ => ⟨v, e, h.rdrTurn hi h1 h2⟩
theorem ow_num (h : Ow A0 F0 W L) (hi : L[i]? = some (Res.rdr lo g s)) (n : Int) (hm : s.rest.length ≤ 70368744177664) : Calls Try.prog 33 #[.pointer (some ⟨g, 0, none⟩), .int .i64 n] W fun e W' => e = .returned (.int .u64 (s.num n : Int)) ∧ Ow A0 F0 W' (L.set i (Res.rdr lo g (s.numSt n))) :=
  (num_any n (h.rdr hi) hm).mono fun _ _ ⟨e, h1, h2⟩ => ⟨e, h.rdrTurn hi h1 h2⟩
theorem ow_text (h : Ow A0 F0 W L) (hi : L[i]? = some (Res.rdr lo g s)) (hm : s.rest.length ≤ 70368744177664) : Calls Try.prog 34 #[.pointer (some ⟨g, 0, none⟩)] W fun e W' => e = .returned (.string ⟨s.text.toArray⟩) ∧ Ow A0 F0 W' (L.set i (Res.rdr lo g s.textSt)) :=
  (text_any_r (h.rdr hi) hm).mono fun _ _ ⟨e, h1, h2⟩ => ⟨e, h.rdrTurn hi h1 h2⟩
theorem ow_bad (h : Ow A0 F0 W L) (hi : L[i]? = some (Res.rdr lo g s)) : Calls Try.prog 35 #[.pointer (some ⟨g, 0, none⟩)] W fun e W' => e = .returned (.bool s.bad) ∧ W = W' := bad_any (h.rdr hi)
end
theorem rdS_length (s : St) : (rdS s).rest.length ≤ s.rest.length := Nat.le_trans (St.textSt_length _) (Nat.le_trans (St.textSt_length _) (St.numSt_length _ _))
set_option maxHeartbeats 8000000 in
/-- Rows, read. -/
theorem pread_any {w : World} {lo g : Nat} {b : List UInt8} (hr : Rdr w lo g ⟨b, false⟩) (hb : b.length ≤ 1000000000) : Calls Try.prog 23 #[.pointer (some ⟨g, 0, none⟩)] w fun e w' => ∃ v, e = .returned v ∧ Ow w (fun k => lo ≤ k ∧ k ≤ g) w' [Res.row rwK v (readL b)] := by
  suffices hsuf : ∀ PP : Value → World → Prop, (∀ v W' s, Ow w (fun k => lo ≤ k ∧ k ≤ g) W' [Res.rdr lo g s, Res.row rwK v (readL b)] → PP v W') → Calls Try.prog 23 #[.pointer (some ⟨g, 0, none⟩)] w fun e W' => ∃ v, e = .returned v ∧ PP v W' from hsuf _ (fun _ _ s h => by
    obtain ⟨F, ⟨lab, h1, h2, h3⟩, h4, h5⟩ := h
    refine ⟨F, ⟨fun k => if lab k = 2 then 1 else if lab k = 1 then 2 else lab k, fun k => ?_, fun k hk => ?_, fun i r hi => ?_⟩, h4, h5⟩
    · rw [h1]
      show lab k ≠ 0 ↔ (if lab k = 2 then 1 else if lab k = 1 then 2 else lab k) ≠ 0
      split
      · omega
      · split <;> omega
    · refine h2 k (fun e => hk ?_)
      show (if lab k = 2 then 1 else if lab k = 1 then 2 else lab k) = 0
      rw [if_neg (by omega), if_neg (by omega)]
      exact e
    · match i, hi with
      | 0, hi =>
        obtain rfl := Option.some.inj hi
        exact Res.mono _ (h3 1 _ rfl) (fun k hk _ => if_pos hk))
  intro PP hPP
  have HPP := hide hPP
  have S0 := hide (Ow.startR hr)
  have HB := hide hb
  have HTK := hide (St.take_length (⟨b, false⟩ : St) 4)
  have HT1 := hide (St.numSt_length ((⟨b, false⟩ : St).take 4) 2)
  have HRD : Hid (rdL (((⟨b, false⟩ : St).take 4).num 2) (((⟨b, false⟩ : St).take 4).numSt 2) = readL b) := hide rfl
  have hnl := readN_lt b
  unfold readN at hnl
  clear hPP hr hb
  go_enter Try.func23, Try.ntmps23
  go_upto_region 4 with (first
    | (go_at_call 32; (with_reducible refine (ow_take S0.out (i := 0) rfl 4 (by have := HB.out; show b.length ≤ _; omega)).mono ?_); rintro e w1 ⟨v1, rfl, hs1⟩; have S1 := hide hs1; clear hs1)
    | (go_at_call 33; (with_reducible refine (ow_num S1.out (i := 0) rfl 2 (by have := HB.out; have h2 := HTK.out; have h2 : _ ≤ b.length := h2; omega)).mono ?_); rintro e w2 ⟨rfl, hs2⟩; have S2 := hide hs2; clear hs2))
  have HLE : Hid ((((⟨b, false⟩ : St).take 4).numSt 2).rest.length ≤ 1000000000) := hide (by have := HB.out; have h2 := HTK.out; have h3 := HT1.out; omega)
  have S3 : Hid (Ow w (fun k => lo ≤ k ∧ k ≤ g) w2 [Res.rdr lo g (((⟨b, false⟩ : St).take 4).numSt 2), Res.row rwK (.slice none 0 0) []]) := hide (S2.out.newrow rwK)
  clear S0 S1 S2 HB HTK HT1
  generalize ((⟨b, false⟩ : St).take 4).num 2 = n at *
  generalize ((⟨b, false⟩ : St).take 4).numSt 2 = s0 at *
  have hn1 : (n : Int) < 65536 := by omega
  have hn2 : n < 65536 := hnl
  clear hnl
  go_loopw [3, 8] (fun u i wr => ∃ (j : Nat) (A : Option Addr) (m c : Nat) (acc : List Rw) (s : St), j ≤ n ∧ i = .int .u64 j ∧ u = .slice A m c ∧ Hid (acc.length ≤ j) ∧ Hid (s.rest.length ≤ 1000000000) ∧ Hid (acc ++ rdL (n - j) s = readL b) ∧ Hid (Ow w (fun k => lo ≤ k ∧ k ≤ g) wr [Res.rdr lo g s, Res.row rwK (.slice A m c) acc])) (fun _ i _ => n - (intOf i).toNat)
  case atStart => exact ⟨0, none, 0, 0, [], s0, by omega, by first | rfl | simp, rfl, hide (Nat.le_refl _), HLE, hide (by rw [List.nil_append, Nat.sub_zero]; exact HRD.out), S3⟩
  case round =>
    obtain ⟨j, A, m, c, acc, s, hj, rfl, rfl, hal, hsl, he, hs⟩ := hrel
    by_cases hlt : j < n
    · have q1 : (j : Int) < (n : Int) := by omega
      have HLT := hide hlt
      have h256 := s.num1_lt
      have hw1 : IntKind.i64.wrap (s.num 1 : Int) = (s.num 1 : Int) := by rw [IntKind.wrap_i64]; omega
      have h257 : (s.num 1 : Int) < 256 := by omega
      have HST : Hid (acc ++ (rdR s :: if (rdS s).bad = true then [] else rdL (n - (j + 1)) (rdS s)) = readL b) := hide (by
        have h := he.out
        rw [show n - j = (n - (j + 1)) + 1 by omega, rdL] at h
        exact h)
      have HL2 := hide (Nat.le_trans (St.numSt_length s 1) hsl.out)
      have HL3 := hide (Nat.le_trans (St.textSt_length (s.numSt 1)) HL2.out)
      have HL4 := hide (Nat.le_trans (rdS_length s) hsl.out)
      clear hlt h256 he
      go_upto_region 6 with (first
        | (go_at_call 33; (with_reducible refine (ow_num hs.out (i := 0) rfl 1 (by have := hsl.out; omega)).mono ?_); rintro e w3 ⟨rfl, hs3⟩; have S4 := hide hs3; clear hs3)
        | (go_at_call 34; (with_reducible refine (ow_text S4.out (i := 0) rfl (by have := HL2.out; omega)).mono ?_); rintro e w4 ⟨rfl, hs4⟩; have S5 := hide hs4; clear hs4 S4)
        | (go_at_call 34; (with_reducible refine (ow_text S5.out (i := 0) rfl (by have := HL3.out; omega)).mono ?_); rintro e w5 ⟨rfl, hs5⟩; obtain ⟨v9, w9, hrun, hs9⟩ := hs5.addK (i := 1) (x := rdR s) (cs := #[.int .i64 (s.num 1 : Int), .string ⟨(s.numSt 1).text.toArray⟩, .string ⟨((s.numSt 1).textSt).text.toArray⟩]) rfl rfl (by have := hal.out; omega) 22; obtain ⟨A9, c9, e9⟩ := (hs9.krow (i := 1) rfl).form; generalize List.length _ = n9 at e9; subst e9; have HR := hide hrun; have S9 := hide hs9; clear hrun hs9 hs5 S5)
        | (at_builtin; refine wpList_app (v := .slice A m c) (u := .slice (some ⟨w5.heap.size, 0, none⟩) 1 1) (by first | rfl | simp [Region.wanted, yielded]) (.tmp 10) (.tmp 19) 22 rfl rfl rfl HR.out ?_))
      have S10 : Hid (Ow w (fun k => lo ≤ k ∧ k ≤ g) w9 [Res.rdr lo g (rdS s), Res.row rwK (.slice A9 n9 c9) (acc ++ [rdR s])]) := hide S9.out
      clear S9 HR hw1 h257
      cases hbd : (rdS s).bad
      · have HBD := hide hbd
        clear hbd
        go_wp2_with (go_at_call 35; (with_reducible refine (ow_bad S10.out (i := 0) rfl).mono ?_); rintro e w10 ⟨rfl, rfl⟩; rw [HBD.out])
        go_roundw
        case rel => exact ⟨j + 1, A9, n9, c9, acc ++ [rdR s], rdS s, by have := HLT.out; omega, by go_num, rfl, hide (by have := hal.out; rw [List.length_append, List.length_singleton]; omega), HL4, hide (by have h := HST.out; rw [HBD.out] at h; rw [List.append_assoc]; exact h), S10⟩
        case measure => simp [intOf]; have := HLT.out; omega
      · have HBD := hide hbd
        clear hbd
        go_wp2_with (go_at_call 35; (with_reducible refine (ow_bad S10.out (i := 0) rfl).mono ?_); rintro e w10 ⟨rfl, rfl⟩; rw [HBD.out])
        go_ret
        refine ⟨_, rfl, HPP.out _ _ (rdS s) ?_⟩
        have h := HST.out
        rw [HBD.out] at h
        rw [← h]
        exact S10.out
    · have q1 : ¬ (j : Int) < (n : Int) := by omega
      have HE : Hid (acc = readL b) := hide (by
        have h := he.out
        rw [show n - j = 0 by omega, rdL, List.append_nil] at h
        exact h)
      go_wp2
      go_ret
      refine ⟨_, rfl, HPP.out _ _ s ?_⟩
      rw [← HE.out]
      exact hs.out
end Go.Proofs.Ythkocbfioegcnaa
