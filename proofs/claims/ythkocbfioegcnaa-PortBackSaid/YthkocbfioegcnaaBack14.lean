/-
  PortBack' walk.
-/
import Derived.Test.YthkocbfioegcnaaFr14
namespace Go.Proofs.Ythkocbfioegcnaa
open Go.RowKit
set_option maxRecDepth 20000
set_option linter.unusedSimpArgs false
set_option linter.unusedVariables false

set_option maxHeartbeats 8000000 in
theorem back_walk (v : Value) (l : List Rw) (w : World) (hv : RwRow w w.heap.size v l) : Calls Try.prog 3 #[v] w fun e W' => e = .returned (.bool true) ∧ Below w.heap.size w W' := by
  obtain ⟨A, c, rfl⟩ := (Rws.of_in hv (Below.refl _ _)).form
  have HV := hide (fun W hb => Rws.of_in (w' := W) hv hb)
  clear hv
  cases hL : lightR l
  · have HL := hide hL
    clear hL
    go_enter Try.func3, Try.ntmps3
    go_wp2_with (first
      | (go_at_call 11; (with_reducible refine (fit_any _).mono ?_); rintro e w0 ⟨rfl, hb⟩; have HB0 := hide hb; clear hb)
      | (go_at_call 12; (with_reducible refine (light_any (HV.out _ HB0.out)).mono ?_); rintro e w1 ⟨rfl, hb⟩; rw [HL.out]; have HB1 := hide (HB0.out.trans (hb.mono HB0.out.size)); have S1 := hide ((Ow.start w).below HB1.out); clear hb))
    go_ret
    exact ⟨rfl, HB1.out⟩
  · have HL := hide hL
    have H60 := hide (lightR_iff.1 hL).1
    clear hL
    go_enter Try.func3, Try.ntmps3
    go_upto_region 8 with (first
      | (go_at_call 11; (with_reducible refine (fit_any _).mono ?_); rintro e w0 ⟨rfl, hb⟩; have HB0 := hide hb; clear hb)
      | (go_at_call 12; (with_reducible refine (light_any (HV.out _ HB0.out)).mono ?_); rintro e w1 ⟨rfl, hb⟩; rw [HL.out]; have HB1 := hide (HB0.out.trans (hb.mono HB0.out.size)); have S1 := hide ((Ow.start w).below HB1.out); clear hb)
      | (go_at_call 13; (with_reducible refine (ow_ris S1.out (HV.out _ HB1.out) H60.out).mono ?_); rintro e w2 ⟨A2, c2, r, rfl, hris, hr30, hs⟩; have HR := hide hris; have H30 := hide hr30; have S2 := hide hs; have hr31 : (r.length : Int) ≤ 30 := (by omega); clear hris hr30 hs S1)
      | (go_at_call 14; (with_reducible refine (ow_penc S2.out (S2.out.rws (i := 0) rfl) HR.out H30.out).mono ?_); rintro e w3 ⟨A3, c3, rfl, hs3⟩; have S3 := hide hs3; clear hs3)
      | (go_at_call 15; (with_reducible refine (ow_pdec S3.out (S3.out.rd8 (i := 1) rfl) (by have := portL_few HR.out H30.out; omega)).mono ?_); rintro e w4 ⟨A4, c4, m, z, rfl, hd, hs4⟩; obtain ⟨hm9, hz9⟩ := dec_port HR.out H30.out hd; have hm9 := hm9.symm; subst hm9 hz9; have S4 := hide hs4; clear hs4 hd))
    have HP := hide (S4.out.rd8 (i := 1) rfl)
    have HRW := hide (S4.out.rws (i := 0) rfl)
    have HFW : Hid (r.length < 65536 ∧ ∀ x ∈ r, x.k.size ≤ 1000 ∧ x.v.size ≤ 1000) := hide ⟨by have := H30.out; omega, fun x hx => by have := okR_iff.1 (HR.out.ok x hx); omega⟩
    refine region_grows [Say.rd (portL r).length (portL r), Say.is (.string ⟨(portL r).toArray⟩), Say.is (.slice A2 r.length c2), Say.rd (portL r).length (portL r), Say.is (.string ⟨(portL r).toArray⟩), Say.is (.bool false), Say.is (.bool false), Say.is (.int .i64 0), Say.is (.bool false), Say.is (.bool false), Say.is (.bool false), Say.is (.slice A4 r.length c4), Say.is (.int .i64 (r.length : Int)), Say.is (.slice A2 r.length c2), Say.is (.int .i64 (r.length : Int)), Say.is (.bool false), Say.is (.bool false)] (by kernel_rfl) (by kernel_rfl) (by kernel_rfl) (by kernel_rfl) ?_ ?_
    · intro i o ho a w2 hb hsz old dep
      match i, ho with
      | 0, ho =>
        obtain rfl := Option.some.inj ho
        have o3 : a.tmps.getD 3 undef = _ := old 3 (by kernel_rfl)
        rw [if_pos (wanted_none rfl)]
        refine grow_same (v := .slice A3 (portL r).length c3) ?_ ⟨_, _, rfl, (HP.out.below hb)⟩
        clear old dep ho hsz hb
        go_simp
      | 1, ho =>
        obtain rfl := Option.some.inj ho
        obtain ⟨A0, C0, d0, r0⟩ : ∃ A c, a.tmps.getD 21 undef = .slice A (portL r).length c ∧ Rd w2 (.slice A (portL r).length c) (u8s (portL r)) := dep 0 _ _ (by kernel_rfl) rfl rfl
        have e0 : a.tmps[21]?.getD undef = _ := (Array.getD_eq_getD_getElem? ..).symm.trans d0
        rw [if_pos (wanted_none rfl)]
        have hcv := conv_rdn rfl r0
        refine grow_same (v := .string ⟨(portL r).toArray⟩) ?_ rfl
        clear old dep ho hsz hb r0
        go_simp
      | 2, ho =>
        obtain rfl := Option.some.inj ho
        have o0 : a.tmps.getD 0 undef = _ := old 0 (by kernel_rfl)
        rw [if_pos (wanted_none rfl)]
        refine grow_same (v := .slice A2 r.length c2) ?_ rfl
        clear old dep ho hsz hb
        go_simp
      | 3, ho =>
        obtain rfl := Option.some.inj ho
        have d2 : a.tmps.getD 23 undef = .slice A2 r.length c2 := dep 2 _ _ (by kernel_rfl) rfl rfl
        have e2 : a.tmps[23]?.getD undef = _ := (Array.getD_eq_getD_getElem? ..).symm.trans d2
        rw [if_pos (wanted_none rfl)]
        refine grow_enters (f := 16) (args := #[.slice A2 r.length c2]) ?_ (bytes_rd (HRW.out.below hb) HFW.out)
        clear old dep ho hsz hb
        go_simp
      | 4, ho =>
        obtain rfl := Option.some.inj ho
        obtain ⟨A3, C3, d3, r3⟩ : ∃ A c, a.tmps.getD 24 undef = .slice A (portL r).length c ∧ Rd w2 (.slice A (portL r).length c) (u8s (portL r)) := dep 3 _ _ (by kernel_rfl) rfl rfl
        have e3 : a.tmps[24]?.getD undef = _ := (Array.getD_eq_getD_getElem? ..).symm.trans d3
        rw [if_pos (wanted_none rfl)]
        have hcv := conv_rdn rfl r3
        refine grow_same (v := .string ⟨(portL r).toArray⟩) ?_ rfl
        clear old dep ho hsz hb r3
        go_simp
      | 5, ho =>
        obtain rfl := Option.some.inj ho
        have d1 : a.tmps.getD 22 undef = .string ⟨(portL r).toArray⟩ := dep 1 _ _ (by kernel_rfl) rfl rfl
        have e1 : a.tmps[22]?.getD undef = _ := (Array.getD_eq_getD_getElem? ..).symm.trans d1
        have d4 : a.tmps.getD 25 undef = .string ⟨(portL r).toArray⟩ := dep 4 _ _ (by kernel_rfl) rfl rfl
        have e4 : a.tmps[25]?.getD undef = _ := (Array.getD_eq_getD_getElem? ..).symm.trans d4
        rw [if_pos (wanted_none rfl)]
        refine grow_same (v := .bool false) ?_ rfl
        clear old dep ho hsz hb
        go_simp
      | 6, ho =>
        obtain rfl := Option.some.inj ho
        have d5 : a.tmps.getD 26 undef = .bool false := dep 5 _ _ (by kernel_rfl) rfl rfl
        have e5 : a.tmps[26]?.getD undef = _ := (Array.getD_eq_getD_getElem? ..).symm.trans d5
        rw [if_pos (wanted_none rfl)]
        refine grow_same (v := .bool false) ?_ rfl
        clear old dep ho hsz hb
        go_simp
      | 7, ho =>
        obtain rfl := Option.some.inj ho
        have o5 : a.tmps.getD 5 undef = _ := old 5 (by kernel_rfl)
        have d6 : a.tmps.getD 27 undef = .bool false := dep 6 _ _ (by kernel_rfl) rfl rfl
        have e6 : a.tmps[27]?.getD undef = _ := (Array.getD_eq_getD_getElem? ..).symm.trans d6
        rw [if_pos (wanted_some rfl rfl rfl (by rw [hsz]; exact of_decide_eq_true rfl) d6)]
        refine grow_same (v := .int .i64 0) ?_ rfl
        clear old dep ho hsz hb
        go_simp
      | 8, ho =>
        obtain rfl := Option.some.inj ho
        have d7 : a.tmps.getD 28 undef = .int .i64 0 := dep 7 _ _ (by kernel_rfl) rfl rfl
        have e7 : a.tmps[28]?.getD undef = _ := (Array.getD_eq_getD_getElem? ..).symm.trans d7
        have d6 : a.tmps.getD 27 undef = .bool false := dep 6 _ _ (by kernel_rfl) rfl rfl
        have e6 : a.tmps[27]?.getD undef = _ := (Array.getD_eq_getD_getElem? ..).symm.trans d6
        rw [if_pos (wanted_some rfl rfl rfl (by rw [hsz]; exact of_decide_eq_true rfl) d6)]
        refine grow_same (v := .bool false) ?_ rfl
        clear old dep ho hsz hb
        go_simp
      | 9, ho =>
        obtain rfl := Option.some.inj ho
        have d6 : a.tmps.getD 27 undef = .bool false := dep 6 _ _ (by kernel_rfl) rfl rfl
        have e6 : a.tmps[27]?.getD undef = _ := (Array.getD_eq_getD_getElem? ..).symm.trans d6
        have d8 : a.tmps.getD 29 undef = .bool false := dep 8 _ _ (by kernel_rfl) rfl rfl
        have e8 : a.tmps[29]?.getD undef = _ := (Array.getD_eq_getD_getElem? ..).symm.trans d8
        rw [if_pos (wanted_none rfl)]
        refine grow_same (v := .bool false) ?_ rfl
        clear old dep ho hsz hb
        go_simp
      | 10, ho =>
        obtain rfl := Option.some.inj ho
        have d9 : a.tmps.getD 30 undef = .bool false := dep 9 _ _ (by kernel_rfl) rfl rfl
        have e9 : a.tmps[30]?.getD undef = _ := (Array.getD_eq_getD_getElem? ..).symm.trans d9
        rw [if_pos (wanted_none rfl)]
        refine grow_same (v := .bool false) ?_ rfl
        clear old dep ho hsz hb
        go_simp
      | 11, ho =>
        obtain rfl := Option.some.inj ho
        have o4 : a.tmps.getD 4 undef = _ := old 4 (by kernel_rfl)
        have d10 : a.tmps.getD 31 undef = .bool false := dep 10 _ _ (by kernel_rfl) rfl rfl
        have e10 : a.tmps[31]?.getD undef = _ := (Array.getD_eq_getD_getElem? ..).symm.trans d10
        rw [if_pos (wanted_some rfl rfl rfl (by rw [hsz]; exact of_decide_eq_true rfl) d10)]
        refine grow_same (v := .slice A4 r.length c4) ?_ rfl
        clear old dep ho hsz hb
        go_simp
      | 12, ho =>
        obtain rfl := Option.some.inj ho
        have d11 : a.tmps.getD 32 undef = .slice A4 r.length c4 := dep 11 _ _ (by kernel_rfl) rfl rfl
        have e11 : a.tmps[32]?.getD undef = _ := (Array.getD_eq_getD_getElem? ..).symm.trans d11
        have d10 : a.tmps.getD 31 undef = .bool false := dep 10 _ _ (by kernel_rfl) rfl rfl
        have e10 : a.tmps[31]?.getD undef = _ := (Array.getD_eq_getD_getElem? ..).symm.trans d10
        rw [if_pos (wanted_some rfl rfl rfl (by rw [hsz]; exact of_decide_eq_true rfl) d10)]
        refine grow_same (v := .int .i64 (r.length : Int)) ?_ rfl
        clear old dep ho hsz hb
        go_simp
      | 13, ho =>
        obtain rfl := Option.some.inj ho
        have o0 : a.tmps.getD 0 undef = _ := old 0 (by kernel_rfl)
        have d10 : a.tmps.getD 31 undef = .bool false := dep 10 _ _ (by kernel_rfl) rfl rfl
        have e10 : a.tmps[31]?.getD undef = _ := (Array.getD_eq_getD_getElem? ..).symm.trans d10
        rw [if_pos (wanted_some rfl rfl rfl (by rw [hsz]; exact of_decide_eq_true rfl) d10)]
        refine grow_same (v := .slice A2 r.length c2) ?_ rfl
        clear old dep ho hsz hb
        go_simp
      | 14, ho =>
        obtain rfl := Option.some.inj ho
        have d13 : a.tmps.getD 34 undef = .slice A2 r.length c2 := dep 13 _ _ (by kernel_rfl) rfl rfl
        have e13 : a.tmps[34]?.getD undef = _ := (Array.getD_eq_getD_getElem? ..).symm.trans d13
        have d10 : a.tmps.getD 31 undef = .bool false := dep 10 _ _ (by kernel_rfl) rfl rfl
        have e10 : a.tmps[31]?.getD undef = _ := (Array.getD_eq_getD_getElem? ..).symm.trans d10
        rw [if_pos (wanted_some rfl rfl rfl (by rw [hsz]; exact of_decide_eq_true rfl) d10)]
        refine grow_same (v := .int .i64 (r.length : Int)) ?_ rfl
        clear old dep ho hsz hb
        go_simp
      | 15, ho =>
        obtain rfl := Option.some.inj ho
        have d12 : a.tmps.getD 33 undef = .int .i64 (r.length : Int) := dep 12 _ _ (by kernel_rfl) rfl rfl
        have e12 : a.tmps[33]?.getD undef = _ := (Array.getD_eq_getD_getElem? ..).symm.trans d12
        have d14 : a.tmps.getD 35 undef = .int .i64 (r.length : Int) := dep 14 _ _ (by kernel_rfl) rfl rfl
        have e14 : a.tmps[35]?.getD undef = _ := (Array.getD_eq_getD_getElem? ..).symm.trans d14
        have d10 : a.tmps.getD 31 undef = .bool false := dep 10 _ _ (by kernel_rfl) rfl rfl
        have e10 : a.tmps[31]?.getD undef = _ := (Array.getD_eq_getD_getElem? ..).symm.trans d10
        rw [if_pos (wanted_some rfl rfl rfl (by rw [hsz]; exact of_decide_eq_true rfl) d10)]
        refine grow_same (v := .bool false) ?_ rfl
        clear old dep ho hsz hb
        go_simp
      | 16, ho =>
        obtain rfl := Option.some.inj ho
        have d10 : a.tmps.getD 31 undef = .bool false := dep 10 _ _ (by kernel_rfl) rfl rfl
        have e10 : a.tmps[31]?.getD undef = _ := (Array.getD_eq_getD_getElem? ..).symm.trans d10
        have d15 : a.tmps.getD 36 undef = .bool false := dep 15 _ _ (by kernel_rfl) rfl rfl
        have e15 : a.tmps[36]?.getD undef = _ := (Array.getD_eq_getD_getElem? ..).symm.trans d15
        rw [if_pos (wanted_none rfl)]
        refine grow_same (v := .bool false) ?_ rfl
        clear old dep ho hsz hb
        go_simp
      | i + 17, ho => exact absurd ho (by simp)
    · intro a w5 hb hsz hdf fin keep
      obtain ⟨tm, df⟩ := a
      have hx := frame_of [21, 22, 23, 24, 25, 26, 27, 28, 29, 30, 31, 32, 33, 34, 35, 36, 37] (by kernel_rfl) hsz keep
      dsimp only at hdf hx
      simp only [List.foldl_cons, List.foldl_nil] at hx
      subst hdf
      clear hsz keep
      obtain ⟨A21, C21, kn, R21⟩ : ∃ A c, tm.getD 21 undef = .slice A (portL r).length c ∧ Rd w5 (.slice A (portL r).length c) (u8s (portL r)) := fin 0 _ _ rfl rfl
      rw [kn] at hx
      clear kn
      clear R21
      have kn : tm.getD 22 undef = .string ⟨(portL r).toArray⟩ := fin 1 _ _ rfl rfl
      rw [kn] at hx
      clear kn
      have kn : tm.getD 23 undef = .slice A2 r.length c2 := fin 2 _ _ rfl rfl
      rw [kn] at hx
      clear kn
      obtain ⟨A24, C24, kn, R24⟩ : ∃ A c, tm.getD 24 undef = .slice A (portL r).length c ∧ Rd w5 (.slice A (portL r).length c) (u8s (portL r)) := fin 3 _ _ rfl rfl
      rw [kn] at hx
      clear kn
      clear R24
      have kn : tm.getD 25 undef = .string ⟨(portL r).toArray⟩ := fin 4 _ _ rfl rfl
      rw [kn] at hx
      clear kn
      have kn : tm.getD 26 undef = .bool false := fin 5 _ _ rfl rfl
      rw [kn] at hx
      clear kn
      have kn : tm.getD 27 undef = .bool false := fin 6 _ _ rfl rfl
      rw [kn] at hx
      clear kn
      have kn : tm.getD 28 undef = .int .i64 0 := fin 7 _ _ rfl rfl
      rw [kn] at hx
      clear kn
      have kn : tm.getD 29 undef = .bool false := fin 8 _ _ rfl rfl
      rw [kn] at hx
      clear kn
      have kn : tm.getD 30 undef = .bool false := fin 9 _ _ rfl rfl
      rw [kn] at hx
      clear kn
      have kn : tm.getD 31 undef = .bool false := fin 10 _ _ rfl rfl
      rw [kn] at hx
      clear kn
      have kn : tm.getD 32 undef = .slice A4 r.length c4 := fin 11 _ _ rfl rfl
      rw [kn] at hx
      clear kn
      have kn : tm.getD 33 undef = .int .i64 (r.length : Int) := fin 12 _ _ rfl rfl
      rw [kn] at hx
      clear kn
      have kn : tm.getD 34 undef = .slice A2 r.length c2 := fin 13 _ _ rfl rfl
      rw [kn] at hx
      clear kn
      have kn : tm.getD 35 undef = .int .i64 (r.length : Int) := fin 14 _ _ rfl rfl
      rw [kn] at hx
      clear kn
      have kn : tm.getD 36 undef = .bool false := fin 15 _ _ rfl rfl
      rw [kn] at hx
      clear kn
      have kn : tm.getD 37 undef = .bool false := fin 16 _ _ rfl rfl
      rw [kn] at hx
      clear kn
      clear fin
      simp only [List.setIfInBounds_toArray, List.set_cons_succ, List.set_cons_zero] at hx
      subst hx
      have HS := hide (S4.out.below hb)
      clear hb S4 S3 S2 HP HRW HFW
      go_wp2
      go_loopw [40] (fun i wr => ∃ j : Nat, j ≤ r.length ∧ i = .int .i64 j ∧ Hid (Ow w (fun _ => False) wr [Res.row rwK (.slice A2 r.length c2) r, Res.row b8K (.slice A3 (portL r).length c3) (portL r), Res.row rwK (.slice A4 r.length c4) r])) (fun i _ => r.length - (intOf i).toNat)
      case atStart => exact ⟨0, by omega, rfl, HS⟩
      case round =>
        obtain ⟨j, hj, rfl, hs⟩ := hrel
        by_cases hlt : j < r.length
        · obtain ⟨x, hc⟩ : ∃ x, r[j]? = some x := ⟨_, List.getElem?_eq_getElem hlt⟩
          obtain ⟨b, o, rfl, i0, i1, i2⟩ := (hs.out.rws (i := 0) rfl).at_ (Below.refl _ _) hc
          obtain ⟨b', o', rfl, k0, k1, k2⟩ := (hs.out.rws (i := 2) rfl).at_ (Below.refl _ _) hc
          have q0 : (0 : Int) ≤ (j : Int) := by omega
          have q1 : (j : Int) < (r.length : Int) := by omega
          have HLT := hide hlt
          clear hlt hc
          go_wp2_with (go_quiet (fail))
          go_roundw
          case rel => exact ⟨j + 1, by have := HLT.out; omega, by go_num, hide (hs.out.below (below_drewN _ nq))⟩
          case measure => simp [intOf]; have := HLT.out; omega
        · have q1 : ¬ (j : Int) < (r.length : Int) := by omega
          go_wp2
          go_ret
          exact ⟨rfl, hs.out.bel⟩
end Go.Proofs.Ythkocbfioegcnaa
