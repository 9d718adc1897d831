/-
  PortSums' walk.
-/
import Derived.Test.YthkocbfioegcnaaFr14
namespace Go.Proofs.Ythkocbfioegcnaa
open Go.RowKit
set_option maxRecDepth 20000
set_option linter.unusedSimpArgs false
set_option linter.unusedVariables false

theorem xor_u8 (y x : UInt8) : bits .xor .u8 (y.toNat : Int) (x.toNat : Int) = ((y ^^^ x).toNat : Int) := by
  have h1 : bits .xor .u8 (y.toNat : Int) (x.toNat : Int) = IntKind.u8.wrap (((BitVec.ofInt 8 (y.toNat : Int) ^^^ BitVec.ofInt 8 (x.toNat : Int)).toNat : Int)) := rfl
  have h2 : BitVec.ofInt 8 (y.toNat : Int) = y.toBitVec := by apply BitVec.eq_of_toNat_eq; simp
  have h3 : BitVec.ofInt 8 (x.toNat : Int) = x.toBitVec := by apply BitVec.eq_of_toNat_eq; simp
  rw [h1, h2, h3]
  show IntKind.u8.wrap (((y ^^^ x).toBitVec.toNat : Nat) : Int) = ((y ^^^ x).toNat : Int)
  have := (y ^^^ x).toNat_lt
  show ((((y ^^^ x).toNat : Nat) : Int)) % 256 = _
  omega
theorem xor_ne {y x : UInt8} (h : x ≠ 0) : y ^^^ x ≠ y := by
  intro e
  apply h
  have h := congrArg (fun z => y ^^^ z) e
  have h : y ^^^ (y ^^^ x) = y ^^^ y := h
  rw [← UInt8.xor_assoc, UInt8.xor_self, UInt8.zero_xor] at h
  exact h
theorem set_self {l : List UInt8} {i : Nat} {y : UInt8} (h : l[i]? = some y) : l.set i y = l := by
  apply List.ext_getElem?
  intro j
  by_cases e : i = j
  · subst e
    rw [List.getElem?_set_self (List.getElem?_eq_some_iff.1 h).1, h]
  · rw [List.getElem?_set_ne e]
set_option maxHeartbeats 8000000 in
theorem sums_walk (v : Value) (l : List Rw) (at_ : Int) (x : UInt8) (w : World) (hv : RwRow w w.heap.size v l) (hat : (Lit.int .i64 at_).wf = true) : Calls Try.prog 9 #[v, .int .i64 at_, .int .u8 (x.toNat : Int)] w fun e W' => e = .returned (.bool true) ∧ Below w.heap.size w W' := by
  obtain ⟨A, c, rfl⟩ := (Rws.of_in hv (Below.refl _ _)).form
  have HV := hide (fun W hb => Rws.of_in (w' := W) hv hb)
  clear hv
  cases hL : lightR l
  · have HL := hide hL
    clear hL
    go_enter Try.func9, Try.ntmps9
    go_wp2_with (first
      | (go_at_call 11; (with_reducible refine (fit_any _).mono ?_); rintro e w0 ⟨rfl, hb⟩; have HB0 := hide hb; clear hb)
      | (go_at_call 12; (with_reducible refine (light_any (HV.out _ HB0.out)).mono ?_); rintro e w1 ⟨rfl, hb⟩; rw [HL.out]; have HB1 := hide (HB0.out.trans (hb.mono HB0.out.size)); have S1 := hide ((Ow.start w).below HB1.out); clear hb))
    go_ret
    exact ⟨rfl, HB1.out⟩
  · have HL := hide hL
    have H60 := hide (lightR_iff.1 hL).1
    clear hL
    go_enter Try.func9, Try.ntmps9
    go_upto_region 6 with (first
      | (go_at_call 11; (with_reducible refine (fit_any _).mono ?_); rintro e w0 ⟨rfl, hb⟩; have HB0 := hide hb; clear hb)
      | (go_at_call 12; (with_reducible refine (light_any (HV.out _ HB0.out)).mono ?_); rintro e w1 ⟨rfl, hb⟩; rw [HL.out]; have HB1 := hide (HB0.out.trans (hb.mono HB0.out.size)); have S1 := hide ((Ow.start w).below HB1.out); clear hb)
      | (go_at_call 13; (with_reducible refine (ow_ris S1.out (HV.out _ HB1.out) H60.out).mono ?_); rintro e w2 ⟨A2, c2, r, rfl, hris, hr30, hs⟩; have HR := hide hris; have H30 := hide hr30; have S2 := hide hs; have hr31 : (r.length : Int) ≤ 30 := (by omega); clear hris hr30 hs S1)
      | (go_at_call 14; (with_reducible refine (ow_penc S2.out (S2.out.rws (i := 0) rfl) HR.out H30.out).mono ?_); rintro e w3 ⟨A3, c3, rfl, hs3⟩; have S3 := hide hs3; clear hs3))
    have HPL := hide (portL_few HR.out H30.out)
    have HPG := hide (show 10 ≤ (portL r).length by rw [portL_length]; omega)
    obtain ⟨g3, k3, e3, hg3⟩ := (S3.out.krow (i := 1) rfl).block (by have := HPG.out; omega)
    injection e3 with e3 _ e4
    subst e3 e4
    obtain ⟨n, hn⟩ : ∃ n, (portL r).length = n := ⟨_, rfl⟩
    rw [hn] at S3 HPL HPG
    try rw [hn]
    have HN := hide hn
    clear hn
    have hn1 : (n : Int) ≤ 1200 := by have := HPL.out; omega
    have hn2 : ¬ (n : Int) < 10 := by have := HPG.out; omega
    obtain ⟨i, hin, hix⟩ := idx_of at_ (n := n) (by have := HPG.out; omega) (by have := HPL.out; omega)
    obtain ⟨y, hy⟩ : ∃ y, (portL r)[i]? = some y := ⟨_, List.getElem?_eq_getElem (by rw [HN.out]; exact hin)⟩
    obtain ⟨i0, f0⟩ := S3.out.byte (i := 1) rfl hy
    have q0 : (0 : Int) ≤ (i : Int) := by omega
    have q1 : (i : Int) < (n : Int) := by omega
    go_upto_region 9 with (fail)
    rw [xor_u8 y x]
    have S5 := hide (S3.out.byteset (i := 1) rfl (j := i) (by rw [HN.out]; exact hin) (y ^^^ x))
    generalize (w3.setCell ⟨g3, i, none⟩ (.int .u8 ((y ^^^ x).toNat : Int))) = w5 at *
    have HBL : Hid (((portL r).set i (y ^^^ x)).length ≤ 1200) := hide (by rw [List.length_set]; have := HPL.out; have := HN.out; omega)
    have HY := hide hy
    clear S3 hy i0 f0 q0 q1 hin hix
    by_cases hx : x = 0
    · have fx : ((x.toNat : Int) == 0) = true := by rw [hx]; rfl
      have HX := hide hx
      clear hx
      go_wp2_with (first
        | (go_at_call 15; (with_reducible refine (ow_pdec S5.out (S5.out.rd8 (i := 1) rfl) (by have := HBL.out; omega)).mono ?_); rintro e w6 ⟨A6, c6, m6, z6, rfl, hd, hs6⟩; rw [HX.out, show y ^^^ (0 : UInt8) = y from by simp, set_self HY.out] at hd; obtain ⟨hm9, hz9⟩ := dec_port HR.out H30.out hd; subst hm9 hz9; have S6 := hide hs6; clear hs6 hd))
      go_ret
      exact ⟨by simp, S6.out.bel⟩
    · have fx : ((x.toNat : Int) == 0) = false := by
        rw [beq_eq_false_iff_ne]
        intro e
        exact hx (UInt8.toNat_inj.1 (by show x.toNat = 0; omega))
      have HX := hide hx
      clear hx
      go_wp2_with (first
        | (go_at_call 15; (with_reducible refine (ow_pdec S5.out (S5.out.rd8 (i := 1) rfl) (by have := HBL.out; omega)).mono ?_); rintro e w6 ⟨A6, c6, m6, z6, rfl, hd, hs6⟩; have hz9 := dec_turned HY.out (xor_ne HX.out) hd; subst hz9; have hm9 := dec_empty hd (by decide); subst hm9; have S6 := hide hs6; clear hs6 hd))
      go_ret
      exact ⟨by simp, S6.out.bel⟩
end Go.Proofs.Ythkocbfioegcnaa
