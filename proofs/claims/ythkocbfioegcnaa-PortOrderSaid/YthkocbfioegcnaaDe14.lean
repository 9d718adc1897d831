/-
  Package port: Decode; the law's fit.
-/
import Derived.Test.YthkocbfioegcnaaRd14
import Derived.Test.YthkocbfioegcnaaEnc14
namespace Go.Proofs.Ythkocbfioegcnaa
open Go.RowKit Crc
set_option maxRecDepth 20000
set_option linter.unusedSimpArgs false
set_option linter.unusedVariables false

theorem equal_yes14 (v u : Value) (l m : List UInt8) (w : World) (hv : Rd w v (u8s l)) (hu : Rd w u (u8s m)) (h : l = m) : Calls Try.prog 25 #[v, u] w fun e w' => e = .returned (.bool true) ∧ w = w' := by
  have := equal_any v u l m w hv hu
  rwa [beq_iff_eq.2 h] at this
theorem equal_no14 (v u : Value) (l m : List UInt8) (w : World) (hv : Rd w v (u8s l)) (hu : Rd w u (u8s m)) (h : l ≠ m) : Calls Try.prog 25 #[v, u] w fun e w' => e = .returned (.bool false) ∧ w = w' := by
  have := equal_any v u l m w hv hu
  rwa [beq_eq_false_iff_ne.2 h] at this
theorem read_nil14 : readL [] = [] := rfl
/-- Decode's outcome. -/
def PDec (w : World) (b : List UInt8) (v : Value) (e : Int) (w' : World) : Prop := ∃ m, DecR b m e ∧ rwK.Row w' v m ∧ (∀ k, v.ownBlock = some k → w.heap.size ≤ k) ∧ Below w.heap.size w w'
set_option maxHeartbeats 8000000 in
theorem pdecode_any {w : World} {v : Value} {b : List UInt8} (hv : Rd w v (u8s b)) (hb : b.length ≤ 1000000000) : Calls Try.prog 15 #[v] w fun e w' => ∃ u c, e = .returned (.tuple #[u, .int .i64 c]) ∧ PDec w b u c w' := by
  suffices hsuf : ∀ PP : Value → Int → World → Prop, (∀ u c W', PDec w b u c W' → PP u c W') → Calls Try.prog 15 #[v] w fun e W' => ∃ u c, e = .returned (.tuple #[u, .int .i64 c]) ∧ PP u c W' from hsuf _ (fun _ _ _ h => h)
  intro PP hPP
  have HPP := hide hPP
  have HV := hide hv
  have HB := hide hb
  obtain ⟨A0, c0, rfl, _⟩ := id hv
  generalize (u8s b).length = n0 at *
  have HL := hide (readL_length b)
  clear hPP hv hb
  go_enter Try.func15, Try.ntmps15
  go_upto_region 2 with (first
    | (go_at_call 24; (with_reducible refine (new_any _ b _ (by have := HB.out; omega) HV.out).mono ?_); rintro e w1 ⟨g, rfl, hr, hb1⟩; have HR := hide hr; have HB1 := hide hb1; clear hr hb1; unfold ptr)
    | (go_at_call 23; (with_reducible refine (pread_any HR.out HB.out).mono ?_); rintro e w2 ⟨v2, rfl, hs⟩; have HB2 := hide (HB1.out.trans (hs.kept.below HB1.out.size (fun k hk => hk.1))); have HVR := hide (hs.krow (i := 0) rfl); have HOW := hide (show ∀ k, v2.ownBlock = some k → w.heap.size ≤ k from fun k e => by
        obtain ⟨F, hF⟩ := hs
        obtain ⟨lab, h1, h2, h3⟩ := hF.ex
        have h4 := h3 0 _ rfl
        have h5 : lab k = 1 := h4.2 k e
        rcases hF.new k ((h1 k).2 (by omega)) with h6 | h6
        · exact h6.1
        · exact Nat.le_trans HB1.out.size h6); clear hs HR))
  obtain ⟨A2, c2, e2⟩ := HVR.out.form
  have HLN := hide (show ((readL b).length : Int) = ((readL b).length : Nat) from rfl)
  obtain ⟨n2, hn2⟩ : ∃ n, (readL b).length = n := ⟨_, rfl⟩
  rw [hn2] at e2
  subst e2
  by_cases hris : Ris (readL b)
  · have HRIS := hide hris
    have HENC := hide (pencode_yes (Rws.of_row HVR.out) HL.out hris)
    by_cases heq : portL (readL b) = b
    · have HEQ := hide heq
      have HPO : Hid (PortOf b (readL b)) := hide ⟨hris, HL.out, heq⟩
      clear hris heq
      by_cases hfew : n2 ≤ 30
      · have q1 : ¬ (30 : Int) < (n2 : Int) := by omega
        have HF := hide (show (readL b).length ≤ 30 by omega)
        clear hn2 hfew HLN
        go_wp2_with (first
          | (go_at_call 14; (with_reducible refine HENC.out.mono ?_); rintro e w3 ⟨v3, rfl, hm3, hb3⟩; have HM3 := hide hm3; have HB3 := hide (HB2.out.trans (hb3.mono HB2.out.size)); have HV3 := hide (HVR.out.below hb3); clear hm3 hb3)
          | (go_at_call 25; (with_reducible refine (equal_yes14 _ _ _ _ _ HM3.out.rd (HV.out.below HB3.out) HEQ.out).mono ?_); rintro e w4 ⟨rfl, rfl⟩))
        refine bodyPost_ret (v := .tuple #[.slice A2 n2 c2, .int .i64 0]) (by simp [results, Try.results15, go_sem]) rfl ⟨_, _, rfl, ?_⟩
        exact HPP.out _ _ _ ⟨readL b, .ok _ HPO.out HF.out, HV3.out, HOW.out, HB3.out⟩
      · have q1 : (30 : Int) < (n2 : Int) := by omega
        have HF := hide (show 30 < (readL b).length by omega)
        clear hn2 hfew HLN
        go_wp2_with (first
          | (go_at_call 14; (with_reducible refine HENC.out.mono ?_); rintro e w3 ⟨v3, rfl, hm3, hb3⟩; have HM3 := hide hm3; have HB3 := hide (HB2.out.trans (hb3.mono HB2.out.size)); clear hm3 hb3)
          | (go_at_call 25; (with_reducible refine (equal_yes14 _ _ _ _ _ HM3.out.rd (HV.out.below HB3.out) HEQ.out).mono ?_); rintro e w4 ⟨rfl, rfl⟩))
        refine bodyPost_ret (v := .tuple #[.slice none 0 0, .int .i64 7]) (by simp [results, Try.results15, go_sem]) rfl ⟨_, _, rfl, ?_⟩
        exact HPP.out _ _ _ ⟨[], .quota _ HPO.out HF.out, Kd.Row.nil _ _, (fun k e => by cases e), HB3.out⟩
    · have HEQ := hide heq
      have HNO := hide (DecR.of_read (b := b) (fun h => heq h.2))
      clear hris heq hn2 HLN
      go_wp2_with (first
        | (go_at_call 14; (with_reducible refine HENC.out.mono ?_); rintro e w3 ⟨v3, rfl, hm3, hb3⟩; have HM3 := hide hm3; have HB3 := hide (HB2.out.trans (hb3.mono HB2.out.size)); clear hm3 hb3)
        | (go_at_call 25; (with_reducible refine (equal_no14 _ _ _ _ _ HM3.out.rd (HV.out.below HB3.out) HEQ.out).mono ?_); rintro e w4 ⟨rfl, rfl⟩))
      refine bodyPost_ret (v := .tuple #[.slice none 0 0, .int .i64 9]) (by simp [results, Try.results15, go_sem]) rfl ⟨_, _, rfl, ?_⟩
      exact HPP.out _ _ _ ⟨[], HNO.out, Kd.Row.nil _ _, (fun k e => by cases e), HB3.out⟩
  · have HENC := hide (pencode_no (Rws.of_row HVR.out) (by have := HL.out; omega) hris)
    have HNO := hide (DecR.of_read (b := b) (fun h => hris (risB_iff.1 h.1)))
    have HNE : Hid ([] ≠ b) := hide (fun e => hris (by rw [← e, read_nil14]; exact Ris.nil))
    clear hris hn2 HLN
    go_wp2_with (first
      | (go_at_call 14; (with_reducible refine HENC.out.mono ?_); rintro e w3 ⟨rfl, hb3⟩; have HB3 := hide (HB2.out.trans (hb3.mono HB2.out.size)); clear hb3)
      | (go_at_call 25; (with_reducible refine (equal_no14 _ _ [] _ _ (Rd.nil_ _ _ _) (HV.out.below HB3.out) HNE.out).mono ?_); rintro e w4 ⟨rfl, rfl⟩))
    refine bodyPost_ret (v := .tuple #[.slice none 0 0, .int .i64 9]) (by simp [results, Try.results15, go_sem]) rfl ⟨_, _, rfl, ?_⟩
    exact HPP.out _ _ _ ⟨[], HNO.out, Kd.Row.nil _ _, (fun k e => by cases e), HB3.out⟩
theorem portL_nil : (portL []).length = 10 := by rw [portL_length]; rfl
set_option maxHeartbeats 4000000 in
theorem fit_any (w : World) : Calls Try.prog 11 #[] w fun e w' => e = .returned (.bool true) ∧ Below w.heap.size w w' := by
  have HE := fun w => pencode_yes (w := w) (Rws.nil w) (by simp) Ris.nil
  have HE := hide HE
  go_enter Try.func11, Try.ntmps11
  go_upto_region 2 with (first
    | (go_at_call 14; (with_reducible refine (HE.out _).mono ?_); rintro e w1 ⟨v1, rfl, hm1, hb1⟩; have HM1 := hide hm1; have HB1 := hide hb1; clear hm1 hb1)
    | (go_at_call 15; (with_reducible refine (pdecode_any HM1.out.rd (by rw [portL_nil]; omega)).mono ?_); rintro e w2 ⟨u2, c2, rfl, m, hd, hr2, _, hb2⟩; obtain ⟨rfl, rfl⟩ := dec_port Ris.nil (by simp) hd; obtain ⟨A2, k2, rfl⟩ := hr2.form; have HB2 := hide (HB1.out.trans (hb2.mono HB1.out.size)); clear hd hr2 hb2))
  go_wp2_with (go_at_call 14; (with_reducible refine (HE.out _).mono ?_); rintro e w3 ⟨v3, rfl, hm3, hb3⟩; obtain ⟨A3, k3, rfl⟩ := hm3.form; have HB3 := hide (HB2.out.trans (hb3.mono HB2.out.size)); clear hm3 hb3; rw [portL_nil])
  go_ret
  exact ⟨rfl, HB3.out⟩
end Go.Proofs.Ythkocbfioegcnaa
