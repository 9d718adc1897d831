/-
  PortTorn' walk.
-/
import Derived.Test.YthkocbfioegcnaaFr14
namespace Go.Proofs.Ythkocbfioegcnaa
open Go.RowKit
set_option maxRecDepth 20000
set_option linter.unusedSimpArgs false
set_option linter.unusedVariables false

theorem mine_copy {w : World} {x : Value} {m : List UInt8} (hx : Rd w x (u8s m)) (hl : m.length ≤ 1000000) (ty : TypeId) :
    ∃ v' w', (Builtin.append_ #[26, 26] ty #[.slice none 0 0, x]).run Try.prog w = .ok v' w' ∧ Mine w' w.heap.size v' m ∧ Below w.heap.size w w' := by
  have h0 : Mine w w.heap.size (.slice none 0 0) [] := own_nil _ _ _
  obtain ⟨v', w', h1, h2, h3⟩ := mine_app h0 hx (by show 0 + m.length ≤ _; omega) (Nat.le_refl _) ty
  exact ⟨v', w', h1, h2, (Below.refl _ _).grown h3 (Nat.le_refl _) (fun k hk => by cases hk)⟩
set_option maxHeartbeats 8000000 in
theorem torn_walk (v : Value) (l : List Rw) (at_ : Int) (v2 : Value) (mo : List UInt8) (w : World) (hv : RwRow w w.heap.size v l) (hat : (Lit.int .i64 at_).wf = true) (hm : Rd w v2 (u8s mo)) : Calls Try.prog 8 #[v, .int .i64 at_, v2] w fun e W' => e = .returned (.bool true) ∧ Below w.heap.size w W' := by
  obtain ⟨A, c, rfl⟩ := (Rws.of_in hv (Below.refl _ _)).form
  have HV := hide (fun W hb => Rws.of_in (w' := W) hv hb)
  clear hv
  obtain ⟨AM, cM, rfl, _⟩ := id hm
  rw [u8s_length] at hm ⊢
  have HMO := hide (fun W (hb : Below w.heap.size w W) => Rd.below hm hb)
  clear hm
  cases hL : lightR l
  · have HL := hide hL
    clear hL
    go_enter Try.func8, Try.ntmps8
    go_wp2_with (first
      | (go_at_call 11; (with_reducible refine (fit_any _).mono ?_); rintro e w0 ⟨rfl, hb⟩; have HB0 := hide hb; clear hb)
      | (go_at_call 12; (with_reducible refine (light_any (HV.out _ HB0.out)).mono ?_); rintro e w1 ⟨rfl, hb⟩; rw [HL.out]; have HB1 := hide (HB0.out.trans (hb.mono HB0.out.size)); have S1 := hide ((Ow.start w).below HB1.out); clear hb))
    go_ret
    exact ⟨rfl, HB1.out⟩
  · have HL := hide hL
    have H60 := hide (lightR_iff.1 hL).1
    clear hL
    by_cases hml : mo.length ≤ 100
    · have HML := hide hml
      have hm1 : ¬ (100 : Int) < (mo.length : Int) := by omega
      have hm2 : decide ((100 : Int) < (mo.length : Int)) = false := decide_eq_false hm1
      have hm3 : decide (100 < mo.length) = false := decide_eq_false (by omega)
      go_enter Try.func8, Try.ntmps8
      go_upto_region 6 with (first
        | (go_at_call 11; (with_reducible refine (fit_any _).mono ?_); rintro e w0 ⟨rfl, hb⟩; have HB0 := hide hb; clear hb)
        | (go_at_call 12; (with_reducible refine (light_any (HV.out _ HB0.out)).mono ?_); rintro e w1 ⟨rfl, hb⟩; rw [HL.out]; have HB1 := hide (HB0.out.trans (hb.mono HB0.out.size)); have S1 := hide ((Ow.start w).below HB1.out); clear hb)
        | (go_at_call 13; (with_reducible refine (ow_ris S1.out (HV.out _ HB1.out) H60.out).mono ?_); rintro e w2 ⟨A2, c2, r, rfl, hris, hr30, hs⟩; have HR := hide hris; have H30 := hide hr30; have S2 := hide hs; have hr31 : (r.length : Int) ≤ 30 := (by omega); clear hris hr30 hs S1)
        | (go_at_call 14; (with_reducible refine (ow_penc S2.out (S2.out.rws (i := 0) rfl) HR.out H30.out).mono ?_); rintro e w3 ⟨A3, c3, rfl, hs3⟩; have S3 := hide hs3; clear hs3))
      have HPL := hide (portL_few HR.out H30.out)
      have HPG := hide (show 10 ≤ (portL r).length by rw [portL_length]; omega)
      obtain ⟨g3, k3, e3, hg3⟩ := (S3.out.krow (i := 1) rfl).block (by have := HPG.out; omega)
      injection e3 with e3 _ e4
      subst e3 e4
      obtain ⟨n, hn⟩ : ∃ n, (portL r).length = n := ⟨_, rfl⟩
      rw [hn] at S3 HPL HPG
      try rw [hn]
      have HN := hide hn
      clear hn
      have hn1 : (n : Int) ≤ 1200 := by have := HPL.out; omega
      have hn2 : ¬ (n : Int) < 10 := by have := HPG.out; omega
      obtain ⟨i, hin, hix⟩ := idx_of at_ (n := n) (by have := HPG.out; omega) (by have := HPL.out; omega)
      have q0 : (0 : Int) ≤ (i : Int) := by omega
      have q1 : (i : Int) < (n : Int) := by omega
      have hsl : ∀ W, (Instr.slice 26 (.slice (some ⟨g3, 0, none⟩) n c3) none (some (.int .i64 (i : Int))) none).run Try.prog W = .ok (.slice (some ⟨g3, 0, none⟩) i c3) W := fun W => run_low (P := Try.prog) slice8 size8 (some ⟨g3, 0, none⟩) n c3 i (by have := (S3.out.krow (i := 1) rfl).cap; omega) W
      have HRL : Hid (Rd w3 (.slice (some ⟨g3, 0, none⟩) i c3) (u8s ((portL r).take i))) := hide ((S3.out.rd8 (i := 1) rfl).low (k := i) (by omega))
      have HCL : Hid (((portL r).take i).length ≤ 100000) := hide (by rw [List.length_take]; have := HPL.out; have := HN.out; omega)
      have HML2 : Hid ((portL r ++ mo).length ≤ 100000) := hide (by rw [List.length_append]; have := HPL.out; have := HN.out; have := HML.out; omega)
      by_cases hmz : mo.length = 0
      · have HNIL : Hid (mo = []) := hide (List.eq_nil_of_length_eq_zero hmz)
        have hmp : ¬ (0 : Int) < (mo.length : Int) := by omega
        have hmq : decide ((0 : Int) < (mo.length : Int)) = false := decide_eq_false hmp
        have hmr : decide (0 < mo.length) = false := decide_eq_false (by omega)
        clear hmz hml
        go_upto_region 10 with (first
          | (go_at_call 15; (with_reducible refine (ow_pdec S3.out HRL.out HCL.out).mono ?_); rintro e w4 ⟨A4, c4, m4, z4, rfl, hd, hs4⟩; have S4 := hide hs4; have HD4 := hide hd; clear hs4 hd S3))
        obtain ⟨vax, wax, hrax, hmax, hbax⟩ := mine_copy (S4.out.rd8 (i := 1) rfl) (by have := HPL.out; have := HN.out; omega) 26
        obtain ⟨vbx, wbx, hrbx, hmbx, hgbx⟩ := mine_app (m := mo) hmax (HMO.out _ ((S4.out.below hbax).bel)) (by have := HPL.out; have := HN.out; have := HML.out; omega) hbax.size 26
        have hbbx : Below w4.heap.size w4 wbx := hmax.bel hbax hbax.size hgbx
        have SBx := hide (S4.out.mine hbbx hmbx)
        have HRAx := hide hrax
        have HRBx := hide hrbx
        clear hrax hmax hbax hrbx hmbx hgbx hbbx
        go_upto_region 11 with (first
          | (at_builtin; refine wpList_app2 (by first | rfl | simp [Region.wanted, yielded]) (.const (.slice none 0 0)) (.tmp 50) 26 26 rfl rfl rfl HRAx.out ?_)
          | (at_builtin; refine wpList_app2 (by first | rfl | simp [Region.wanted, yielded]) (.tmp 51) (.tmp 52) 26 26 rfl rfl rfl HRBx.out ?_)
          | (go_at_call 15; (with_reducible refine (ow_pdec SBx.out (SBx.out.rd8 (i := 3) rfl) HML2.out).mono ?_); rintro e w5 ⟨A5, c5, m5, z5, rfl, hd, hs5⟩; have S5 := hide hs5; have HD5 := hide hd; clear hs5 hd))
        obtain ⟨vay, way, hray, hmay, hbay⟩ := mine_copy (S5.out.rd8 (i := 1) rfl) (by have := HPL.out; have := HN.out; omega) 26
        obtain ⟨vby, wby, hrby, hmby, hgby⟩ := mine_app (m := mo) hmay (HMO.out _ ((S5.out.below hbay).bel)) (by have := HPL.out; have := HN.out; have := HML.out; omega) hbay.size 26
        have hbby : Below w5.heap.size w5 wby := hmay.bel hbay hbay.size hgby
        have SBy := hide (S5.out.mine hbby hmby)
        have HRAy := hide hray
        have HRBy := hide hrby
        clear hray hmay hbay hrby hmby hgby hbby
        go_upto_region 12 with (first
          | (at_builtin; refine wpList_app2 (by first | rfl | simp [Region.wanted, yielded]) (.const (.slice none 0 0)) (.tmp 58) 26 26 rfl rfl rfl HRAy.out ?_)
          | (at_builtin; refine wpList_app2 (by first | rfl | simp [Region.wanted, yielded]) (.tmp 59) (.tmp 60) 26 26 rfl rfl rfl HRBy.out ?_)
          | (go_at_call 17; (with_reducible refine (ow_prows SBy.out (SBy.out.rd8 (i := 5) rfl) HML2.out).mono ?_); rintro e w6 ⟨A6, c6, m6, z6, rfl, hd, hs6⟩; obtain ⟨hm9, hz9⟩ := HD5.out.one hd; subst hm9 hz9; have S6 := hide hs6; clear hs6 hd))
        have HRL2 : Hid (Rd w6 (.slice (some ⟨g3, 0, none⟩) i c3) (u8s ((portL r).take i))) := hide ((S6.out.rd8 (i := 1) rfl).low (k := i) (by omega))
        have hz5 : z5 = 0 := (HD5.out.one (.ok r (by have h := port_of HR.out H30.out; rw [HNIL.out]; simpa using h) H30.out)).2
        subst hz5
        go_wp2_with (first
          | (go_at_call 17; (with_reducible refine (ow_prows S6.out HRL2.out HCL.out).mono ?_); rintro e w7 ⟨A7, c7, m7, z7, rfl, hd, hs7⟩; obtain ⟨hm9, hz9⟩ := HD4.out.one hd; subst hm9 hz9; have S7 := hide hs7; clear hs7 hd))
        go_ret
        exact ⟨by simp, S7.out.bel⟩
      · have hmp : (0 : Int) < (mo.length : Int) := by omega
        have hmq : decide ((0 : Int) < (mo.length : Int)) = true := decide_eq_true hmp
        have hmr : decide (0 < mo.length) = true := decide_eq_true (by omega)
        clear hmz hml
        go_upto_region 10 with (first
          | (go_at_call 15; (with_reducible refine (ow_pdec S3.out HRL.out HCL.out).mono ?_); rintro e w4 ⟨A4, c4, m4, z4, rfl, hd, hs4⟩; have S4 := hide hs4; have HD4 := hide hd; clear hs4 hd S3))
        obtain ⟨vax, wax, hrax, hmax, hbax⟩ := mine_copy (S4.out.rd8 (i := 1) rfl) (by have := HPL.out; have := HN.out; omega) 26
        obtain ⟨vbx, wbx, hrbx, hmbx, hgbx⟩ := mine_app (m := mo) hmax (HMO.out _ ((S4.out.below hbax).bel)) (by have := HPL.out; have := HN.out; have := HML.out; omega) hbax.size 26
        have hbbx : Below w4.heap.size w4 wbx := hmax.bel hbax hbax.size hgbx
        have SBx := hide (S4.out.mine hbbx hmbx)
        have HRAx := hide hrax
        have HRBx := hide hrbx
        clear hrax hmax hbax hrbx hmbx hgbx hbbx
        go_upto_region 11 with (first
          | (at_builtin; refine wpList_app2 (by first | rfl | simp [Region.wanted, yielded]) (.const (.slice none 0 0)) (.tmp 50) 26 26 rfl rfl rfl HRAx.out ?_)
          | (at_builtin; refine wpList_app2 (by first | rfl | simp [Region.wanted, yielded]) (.tmp 51) (.tmp 52) 26 26 rfl rfl rfl HRBx.out ?_)
          | (go_at_call 15; (with_reducible refine (ow_pdec SBx.out (SBx.out.rd8 (i := 3) rfl) HML2.out).mono ?_); rintro e w5 ⟨A5, c5, m5, z5, rfl, hd, hs5⟩; have S5 := hide hs5; have HD5 := hide hd; clear hs5 hd))
        obtain ⟨vay, way, hray, hmay, hbay⟩ := mine_copy (S5.out.rd8 (i := 1) rfl) (by have := HPL.out; have := HN.out; omega) 26
        obtain ⟨vby, wby, hrby, hmby, hgby⟩ := mine_app (m := mo) hmay (HMO.out _ ((S5.out.below hbay).bel)) (by have := HPL.out; have := HN.out; have := HML.out; omega) hbay.size 26
        have hbby : Below w5.heap.size w5 wby := hmay.bel hbay hbay.size hgby
        have SBy := hide (S5.out.mine hbby hmby)
        have HRAy := hide hray
        have HRBy := hide hrby
        clear hray hmay hbay hrby hmby hgby hbby
        go_upto_region 12 with (first
          | (at_builtin; refine wpList_app2 (by first | rfl | simp [Region.wanted, yielded]) (.const (.slice none 0 0)) (.tmp 58) 26 26 rfl rfl rfl HRAy.out ?_)
          | (at_builtin; refine wpList_app2 (by first | rfl | simp [Region.wanted, yielded]) (.tmp 59) (.tmp 60) 26 26 rfl rfl rfl HRBy.out ?_)
          | (go_at_call 17; (with_reducible refine (ow_prows SBy.out (SBy.out.rd8 (i := 5) rfl) HML2.out).mono ?_); rintro e w6 ⟨A6, c6, m6, z6, rfl, hd, hs6⟩; obtain ⟨hm9, hz9⟩ := HD5.out.one hd; subst hm9 hz9; have S6 := hide hs6; clear hs6 hd))
        have HRL2 : Hid (Rd w6 (.slice (some ⟨g3, 0, none⟩) i c3) (u8s ((portL r).take i))) := hide ((S6.out.rd8 (i := 1) rfl).low (k := i) (by omega))
        go_wp2_with (first
          | (go_at_call 17; (with_reducible refine (ow_prows S6.out HRL2.out HCL.out).mono ?_); rintro e w7 ⟨A7, c7, m7, z7, rfl, hd, hs7⟩; obtain ⟨hm9, hz9⟩ := HD4.out.one hd; subst hm9 hz9; have S7 := hide hs7; clear hs7 hd))
        go_ret
        exact ⟨by simp, S7.out.bel⟩
    · have hm1 : (100 : Int) < (mo.length : Int) := by omega
      have hm2 : decide ((100 : Int) < (mo.length : Int)) = true := decide_eq_true hm1
      have hm3 : decide (100 < mo.length) = true := decide_eq_true (by omega)
      clear hml
      go_enter Try.func8, Try.ntmps8
      go_wp2_with (first
        | (go_at_call 11; (with_reducible refine (fit_any _).mono ?_); rintro e w0 ⟨rfl, hb⟩; have HB0 := hide hb; clear hb)
        | (go_at_call 12; (with_reducible refine (light_any (HV.out _ HB0.out)).mono ?_); rintro e w1 ⟨rfl, hb⟩; rw [HL.out]; have HB1 := hide (HB0.out.trans (hb.mono HB0.out.size)); have S1 := hide ((Ow.start w).below HB1.out); clear hb))
      go_ret
      exact ⟨rfl, HB1.out⟩
end Go.Proofs.Ythkocbfioegcnaa
