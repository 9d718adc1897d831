/-
  PortAny' walk.
-/
import Derived.Test.YthkocbfioegcnaaFr14
namespace Go.Proofs.Ythkocbfioegcnaa
open Go.RowKit
set_option maxRecDepth 20000
set_option linter.unusedSimpArgs false
set_option linter.unusedVariables false

set_option maxHeartbeats 8000000 in
theorem any_walk (v : Value) (l : List Rw) (at_ : Int) (x : UInt8) (w : World) (hv : RwRow w w.heap.size v l) (hat : (Lit.int .i64 at_).wf = true) : Calls Try.prog 4 #[v, .int .i64 at_, .int .u8 (x.toNat : Int)] w fun e W' => e = .returned (.bool true) ∧ Below w.heap.size w W' := by
  obtain ⟨A, c, rfl⟩ := (Rws.of_in hv (Below.refl _ _)).form
  have HV := hide (fun W hb => Rws.of_in (w' := W) hv hb)
  clear hv
  cases hL : lightR l
  · have HL := hide hL
    clear hL
    go_enter Try.func4, Try.ntmps4
    go_wp2_with (first
      | (go_at_call 11; (with_reducible refine (fit_any _).mono ?_); rintro e w0 ⟨rfl, hb⟩; have HB0 := hide hb; clear hb)
      | (go_at_call 12; (with_reducible refine (light_any (HV.out _ HB0.out)).mono ?_); rintro e w1 ⟨rfl, hb⟩; rw [HL.out]; have HB1 := hide (HB0.out.trans (hb.mono HB0.out.size)); have S1 := hide ((Ow.start w).below HB1.out); clear hb))
    go_ret
    exact ⟨rfl, HB1.out⟩
  · have HL := hide hL
    have H60 := hide (lightR_iff.1 hL).1
    clear hL
    go_enter Try.func4, Try.ntmps4
    go_upto_region 6 with (first
      | (go_at_call 11; (with_reducible refine (fit_any _).mono ?_); rintro e w0 ⟨rfl, hb⟩; have HB0 := hide hb; clear hb)
      | (go_at_call 12; (with_reducible refine (light_any (HV.out _ HB0.out)).mono ?_); rintro e w1 ⟨rfl, hb⟩; rw [HL.out]; have HB1 := hide (HB0.out.trans (hb.mono HB0.out.size)); have S1 := hide ((Ow.start w).below HB1.out); clear hb)
      | (go_at_call 13; (with_reducible refine (ow_ris S1.out (HV.out _ HB1.out) H60.out).mono ?_); rintro e w2 ⟨A2, c2, r, rfl, hris, hr30, hs⟩; have HR := hide hris; have H30 := hide hr30; have S2 := hide hs; have hr31 : (r.length : Int) ≤ 30 := (by omega); clear hris hr30 hs S1)
      | (go_at_call 14; (with_reducible refine (ow_penc S2.out (S2.out.rws (i := 0) rfl) HR.out H30.out).mono ?_); rintro e w3 ⟨A3, c3, rfl, hs3⟩; have S3 := hide hs3; clear hs3))
    have HPL := hide (portL_few HR.out H30.out)
    have HPG := hide (show 10 ≤ (portL r).length by rw [portL_length]; omega)
    obtain ⟨g3, k3, e3, hg3⟩ := (S3.out.krow (i := 1) rfl).block (by have := HPG.out; omega)
    injection e3 with e3 _ e4
    subst e3 e4
    obtain ⟨n, hn⟩ : ∃ n, (portL r).length = n := ⟨_, rfl⟩
    rw [hn] at S3 HPL HPG
    try rw [hn]
    have HN := hide hn
    clear hn
    have hn1 : (n : Int) ≤ 1200 := by have := HPL.out; omega
    have hn2 : ¬ (n : Int) < 10 := by have := HPG.out; omega
    obtain ⟨m1, hm1⟩ : ∃ m1 : Nat, (n : Int) - 1 = (m1 : Int) := ⟨n - 1, by have := HPG.out; omega⟩

    have hsl : ∀ W, (Instr.slice 26 (.slice (some ⟨g3, 0, none⟩) n c3) none (some (.int .i64 (m1 : Int))) none).run Try.prog W = .ok (.slice (some ⟨g3, 0, none⟩) m1 c3) W := fun W => run_low (P := Try.prog) slice8 size8 (some ⟨g3, 0, none⟩) n c3 m1 (by have := (S3.out.krow (i := 1) rfl).cap; omega) W
    have HRL : Hid (Rd w3 (.slice (some ⟨g3, 0, none⟩) m1 c3) (u8s ((portL r).take ((portL r).length - 1)))) := hide (by
      have h := (S3.out.rd8 (i := 1) rfl).low (k := m1) (by omega)
      rw [HN.out, show n - 1 = m1 by omega]
      exact h)
    go_upto_region 9 with (first
      | (go_at_call 15; (with_reducible refine (ow_pdec S3.out HRL.out (by have := HPL.out; have := HN.out; rw [List.length_take]; omega)).mono ?_); rintro e w4 ⟨A4, c4, ms, z, rfl, hd, hs4⟩; have hz9 := dec_short HR.out H30.out hd; subst hz9; have S4 := hide hs4; clear hs4 hd S3))
    obtain ⟨i, hin, hix⟩ := idx_of at_ (n := n) (by have := HPG.out; omega) (by have := HPL.out; omega)
    obtain ⟨y, hy⟩ : ∃ y, (portL r)[i]? = some y := ⟨_, List.getElem?_eq_getElem (by rw [HN.out]; exact hin)⟩
    obtain ⟨i0, f0⟩ := S4.out.byte (i := 1) rfl hy
    have q0 : (0 : Int) ≤ (i : Int) := by omega
    have q1 : (i : Int) < (n : Int) := by omega
    go_upto_region 10 with (fail)
    have S5 := hide (S4.out.byteset (i := 1) rfl (j := i) (by rw [HN.out]; exact hin) x)
    generalize (w4.setCell ⟨g3, i, none⟩ (.int .u8 (x.toNat : Int))) = w5 at *
    have HBL : Hid (((portL r).set i x).length ≤ 1200) := hide (by rw [List.length_set]; have := HPL.out; have := HN.out; omega)
    clear S4 hy i0 f0 q0 q1 hin hix hsl HRL
    go_wp2_with (first
      | (go_at_call 15; (with_reducible refine (ow_pdec S5.out (S5.out.rd8 (i := 1) rfl) (by have := HBL.out; omega)).mono ?_); rintro e w6 ⟨A6, c6, m6, z6, rfl, hd, hs6⟩; have S6 := hide hs6; have HD := hide hd; clear hs6 hd)
      | (go_at_call 17; (with_reducible refine (ow_prows S6.out (S6.out.rd8 (i := 1) rfl) (by have := HBL.out; omega)).mono ?_); rintro e w7 ⟨A7, c7, m7, z7, rfl, hd, hs7⟩; obtain ⟨hm9, hz9⟩ := HD.out.one hd; subst hm9 hz9; have S7 := hide hs7; clear hs7 hd S5))
    go_ret
    exact ⟨by simp, S7.out.bel⟩
end Go.Proofs.Ythkocbfioegcnaa
