/-
  PortWrong' walk.
-/
import Derived.Test.YthkocbfioegcnaaWrongP14
namespace Go.Proofs.Ythkocbfioegcnaa
open Go.RowKit
set_option maxRecDepth 20000
set_option linter.unusedSimpArgs false
set_option linter.unusedVariables false

abbrev key16 : ByteArray := ⟨#[48, 49, 50, 51, 52, 53, 54, 55, 56, 57, 97, 98, 99, 100, 101, 102]⟩
set_option maxHeartbeats 8000000 in
theorem wrong_walk (v : Value) (l : List Rw) (n : Int) (w : World) (hv : RwRow w w.heap.size v l) (hn : (Lit.int .i64 n).wf = true) : Calls Try.prog 5 #[v, .int .i64 n] w fun e W' => e = .returned (.bool true) ∧ Below w.heap.size w W' := by
  obtain ⟨A, c, rfl⟩ := (Rws.of_in hv (Below.refl _ _)).form
  have HV := hide (fun W hb => Rws.of_in (w' := W) hv hb)
  clear hv
  cases hL : lightR l
  · have HL := hide hL
    clear hL
    go_enter Try.func5, Try.ntmps5
    go_wp2_with (first
      | (go_at_call 11; (with_reducible refine (fit_any _).mono ?_); rintro e w0 ⟨rfl, hb⟩; have HB0 := hide hb; clear hb)
      | (go_at_call 12; (with_reducible refine (light_any (HV.out _ HB0.out)).mono ?_); rintro e w1 ⟨rfl, hb⟩; rw [HL.out]; have HB1 := hide (HB0.out.trans (hb.mono HB0.out.size)); have S1 := hide ((Ow.start w).below HB1.out); clear hb))
    go_ret
    exact ⟨rfl, HB1.out⟩
  · have HL := hide hL
    have H60 := hide (lightR_iff.1 hL).1
    clear hL
    go_enter Try.func5, Try.ntmps5
    go_upto_region 6 with (first
      | (go_at_call 11; (with_reducible refine (fit_any _).mono ?_); rintro e w0 ⟨rfl, hb⟩; have HB0 := hide hb; clear hb)
      | (go_at_call 12; (with_reducible refine (light_any (HV.out _ HB0.out)).mono ?_); rintro e w1 ⟨rfl, hb⟩; rw [HL.out]; have HB1 := hide (HB0.out.trans (hb.mono HB0.out.size)); have S1 := hide ((Ow.start w).below HB1.out); clear hb)
      | (go_at_call 13; (with_reducible refine (ow_ris S1.out (HV.out _ HB1.out) H60.out).mono ?_); rintro e w2 ⟨A2, c2, r, rfl, hris, hr30, hs⟩; have HR := hide hris; have H30 := hide hr30; have S2 := hide hs; have hr31 : (r.length : Int) ≤ 30 := (by omega); clear hris hr30 hs S1))
    obtain ⟨M, hM16, hand⟩ := and15 n
    obtain ⟨p31, hp31, hand2⟩ := and31 n
    have HAND2 := hide hand2
    have HP31 := hide hp31
    clear hand2 hp31
    go_wp2
    clear hand
    have S20 : Hid (Ow w (fun _ => False) w2 [Res.row rwK (.slice A2 r.length c2) r, Res.row rwK (.slice none 0 0) (manyL 0)]) := hide (S2.out.newrow rwK)
    clear S2
    go_loopw [5, 26] (fun u i wr => ∃ (j : Nat) (A3 : Option Addr) (n3 c3 : Nat), j ≤ 31 + M ∧ i = .int .i64 j ∧ u = .slice A3 n3 c3 ∧ Hid (Ow w (fun _ => False) wr [Res.row rwK (.slice A2 r.length c2) r, Res.row rwK (.slice A3 n3 c3) (manyL j)])) (fun _ i _ => 31 + M - (intOf i).toNat)
    case atStart => exact ⟨0, none, 0, 0, by omega, rfl, rfl, S20⟩
    case round =>
      clear S20
      obtain ⟨j, A3, n3, c3, hj, rfl, rfl, hs⟩ := hrel
      by_cases hlt : j < 31 + M
      · have q0 : (0 : Int) ≤ (j : Int) := by omega
        have q1 : (j : Int) < 31 + (M : Int) := by omega
        have q2 : (j : Int) < 60 := by omega
        have HLT := hide hlt
        have SX := hide (hs.out.box 5 #[.int .u8 (j : Int)])
        have hcv : (convert 26 9 (.slice (some ⟨wr.heap.size, 0, none⟩) 1 1)).run Try.prog (wr.alloc (.cells #[.int .u8 (j : Int)] 5)) = .ok (.string (oneB j)) (wr.alloc (.cells #[.int .u8 (j : Int)] 5)) := by
          have e : ((UInt8.ofNat j).toNat : Int) = (j : Int) := by rw [UInt8.toNat_ofNat']; omega
          have h := conv_rdn (n := 1) (l := [UInt8.ofNat j]) rfl (Rd.new_ (xs := u8s [UInt8.ofNat j]) wr (g := wr.heap.size) (n := 1) (c := 1) #[.int .u8 (j : Int)] 5 (0, 0) rfl rfl (Nat.le_refl _) (by show [Value.int .u8 (j : Int)] = [Value.int .u8 ((UInt8.ofNat j).toNat : Int)]; rw [e]))
          exact h
        obtain ⟨v9, w9, hrun, hs9⟩ := SX.out.addK (i := 1) (x := ⟨0, oneB j, ⟨#[]⟩⟩) (cs := #[.int .i64 0, .string (oneB j), .string ⟨#[]⟩]) rfl rfl (by rw [manyL_length]; omega) 22
        obtain ⟨A9, c9, e9⟩ := (hs9.krow (i := 1) rfl).form
        generalize List.length _ = n9 at e9
        subst e9
        rw [World.size_alloc] at hrun
        have HR9 := hide hrun
        have S9 : Hid (Ow w (fun _ => False) w9 [Res.row rwK (.slice A2 r.length c2) r, Res.row rwK (.slice A9 n9 c9) (manyL (j + 1))]) := hide (by rw [manyL_succ]; exact hs9.take 2)
        generalize oneB j = ks at *
        clear hrun hs9 hlt SX
        go_wp2_with (at_builtin; refine wpList_app (v := .slice A3 n3 c3) (u := .slice (some ⟨wr.heap.size + 1, 0, none⟩) 1 1) (by first | rfl | simp [Region.wanted, yielded]) (.tmp 29) (.tmp 35) 22 rfl rfl rfl HR9.out ?_)
        go_roundw
        case rel => exact ⟨j + 1, A9, n9, c9, by have := HLT.out; omega, by go_num, rfl, S9⟩
        case measure => simp [intOf]; have := HLT.out; omega
      · obtain rfl : 31 + M = j := by omega
        have q1 : ¬ 31 + (M : Int) < 31 + (M : Int) := by omega
        have q3 : ¬ ((31 + M : Nat) : Int) < 31 + (M : Int) := by omega
        have HMR := hide (manyL_ris (31 + M) (by omega))
        have HMN := hide (manyL_length (31 + M))
        have HM16 := hide hM16
        generalize manyL (31 + M) = ml at *
        have HMF : Hid (ml.length < 65536 ∧ ∀ z ∈ ml, z.k.size ≤ 1000 ∧ z.v.size ≤ 1000) := hide ⟨by have := HMN.out; have := HM16.out; omega, fun z hz => by have := okR_iff.1 (HMR.out.ok z hz); omega⟩
        have HMP : Hid ((portL ml).length ≤ 100000) := hide (by
          have h := HMR.out.size
          have h2 : ml.length * 39 ≤ 46 * 39 := Nat.mul_le_mul_right _ (by have := HMN.out; have := HM16.out; omega)
          rw [portL_length]
          omega)
        clear hlt hj
        go_upto_region 13 with (first
      | (go_at_call 16; (with_reducible refine (ow_pbytes hs.out (hs.out.rws (i := 1) rfl) HMF.out).mono ?_); rintro e w3 ⟨Abw3, cbw3, rfl, hs⟩; have SBw3 := hide hs; clear hs)
      | (go_at_call 15; (with_reducible refine (ow_pdec SBw3.out (SBw3.out.rd8 (i := 2) rfl) HMP.out).mono ?_); rintro e w4 ⟨Adw4, cdw4, mw4, zw4, rfl, hd, hs⟩; have hz9 : zw4 = 7 := (hd.one (.quota ml ⟨HMR.out, HMF.out.1, rfl⟩ (by have := HMN.out; omega))).2; subst hz9; have S4 := hide hs; clear hs hd))
        have S5 : Hid (Ow w (fun _ => False) w4 [Res.row rwK (.slice A2 r.length c2) r]) := hide (S4.out.take 1)
        clear S4
        by_cases h2 : r.length < 2
        · have q5 : (r.length : Int) < 2 := by omega
          go_wp2
          go_ret
          exact ⟨rfl, S5.out.bel⟩
        · have q5 : ¬ (r.length : Int) < 2 := by omega
          have hand2 := HAND2.out
          obtain ⟨p, hp, hpe⟩ : ∃ p : Nat, p + 1 < r.length ∧ (p31 : Int).tmod ((r.length : Int) - 1) = (p : Int) := by
            refine ⟨p31 % (r.length - 1), by have := Nat.mod_lt p31 (show 0 < r.length - 1 by omega); omega, ?_⟩
            rw [Int.tmod_eq_emod_of_nonneg (by omega), show ((r.length : Int) - 1) = ((r.length - 1 : Nat) : Int) by omega]
            rfl
          have q6 : ¬ ((r.length : Int) - 1 = 0) := by omega
          go_upto_region 18 with (fail)
          obtain ⟨x, hx⟩ : ∃ x, r[p]? = some x := ⟨_, List.getElem?_eq_getElem (by omega)⟩
          obtain ⟨y, hy⟩ : ∃ y, r[p + 1]? = some y := ⟨_, List.getElem?_eq_getElem (by omega)⟩
          obtain ⟨g, cg, eg, _⟩ := (S5.out.krow (i := 0) rfl).block (by omega)
          injection eg with eg1 _ eg2
          subst eg1 eg2
          have HX := hide hx
          have HY := hide hy
          have z0 : (0 : Int) ≤ (p : Int) := by omega
          have z1 : (p : Int) + 1 < (r.length : Int) := by omega
          have z2 : (p : Int) < (r.length : Int) := by omega
          have z3 : ((p : Int) + 1).toNat = p + 1 := by omega
          have z4 : (0 : Int) ≤ (p : Int) + 1 := by omega
          have z5 : IntKind.i64.wrap ((p : Int) + 1) = (p : Int) + 1 := by rw [IntKind.wrap_i64]; omega
          clear hx hy hand2 hpe q5 q6
          generalize w4 = W at *
          have hr := S5.out.krow (i := 0) rfl
          have HI := hide hr
          have HI2 := hide (row_put3 hr (j := p) (by omega) y)
          have HY2 : Hid ((r.set p y)[p + 1]? = some y) := hide (by rw [List.getElem?_set_ne (by omega)]; exact HY.out)
          have HI3 := hide (row_put3 HI2.out (j := p + 1) (by rw [List.length_set]; omega) x)
          clear hr
          refine region_phases (ops := _) (valV [some (.slice (some ⟨g, 0, none⟩) r.length c2), some (.int .i64 (p : Int)), some (.slice (some ⟨g, 0, none⟩) r.length c2), some (.int .i64 (p : Int)), some (.int .i64 ((p + 1 : Nat) : Int)), some (.slice (some ⟨g, 0, none⟩) r.length c2), some (.int .i64 (p : Int)), some (.int .i64 ((p + 1 : Nat) : Int)), some (.pointer (some ⟨g, (p + 1) * 3, none⟩)), some (.agg #[.int .i64 y.t, .string y.k, .string y.v]), some (.slice (some ⟨g, 0, none⟩) r.length c2), some (.int .i64 (p : Int)), some (.pointer (some ⟨g, p * 3, none⟩)), some (.agg #[.int .i64 x.t, .string x.k, .string x.v]), some (.pointer (some ⟨g, p * 3, none⟩)), none, some (.pointer (some ⟨g, (p + 1) * 3, none⟩)), none]) (phased [⟨17, 16, fun _ w => Heaps (set3 (set3 W g (p * 3) y) g ((p + 1) * 3) x) w⟩, ⟨15, 14, fun _ w => Heaps (set3 W g (p * 3) y) w⟩] (fun w => Heaps W w)) (by kernel_rfl) (by kernel_rfl) (by kernel_rfl) (by kernel_rfl) (phased_ext (by kernel_rfl)) ?_ ?_ ?_
          · exact Heaps.drew W
          · intro i o ho L a w2 hph hsz hLi hnot hyes old dep
            match i, ho with
            | 0, ho =>
              obtain rfl := Option.some.inj ho
              rw [if_pos (wanted_none rfl)]
              have o0 := old 0 (by kernel_rfl)
              refine wp_yields (v := .slice (some ⟨g, 0, none⟩) r.length c2) (w' := w2) ?_ (fun u hu => Option.some.inj (Option.some.inj hu)) (phased_quiet hLi (by rfl) hph)
              clear dep old ho hsz hph hnot hyes hLi
              go_simp
            | 1, ho =>
              obtain rfl := Option.some.inj ho
              rw [if_pos (wanted_none rfl)]
              have o9 := old 9 (by kernel_rfl)
              refine wp_yields (v := .int .i64 (p : Int)) (w' := w2) ?_ (fun u hu => Option.some.inj (Option.some.inj hu)) (phased_quiet hLi (by rfl) hph)
              clear dep old ho hsz hph hnot hyes hLi
              go_simp
            | 2, ho =>
              obtain rfl := Option.some.inj ho
              rw [if_pos (wanted_none rfl)]
              have o0 := old 0 (by kernel_rfl)
              refine wp_yields (v := .slice (some ⟨g, 0, none⟩) r.length c2) (w' := w2) ?_ (fun u hu => Option.some.inj (Option.some.inj hu)) (phased_quiet hLi (by rfl) hph)
              clear dep old ho hsz hph hnot hyes hLi
              go_simp
            | 3, ho =>
              obtain rfl := Option.some.inj ho
              rw [if_pos (wanted_none rfl)]
              have o9 := old 9 (by kernel_rfl)
              refine wp_yields (v := .int .i64 (p : Int)) (w' := w2) ?_ (fun u hu => Option.some.inj (Option.some.inj hu)) (phased_quiet hLi (by rfl) hph)
              clear dep old ho hsz hph hnot hyes hLi
              go_simp
            | 4, ho =>
              obtain rfl := Option.some.inj ho
              rw [if_pos (wanted_none rfl)]
              have d3 : a.tmps.getD 58 undef = .int .i64 (p : Int) := dep 3 _ _ (by kernel_rfl) rfl rfl _ rfl
              have e3 : a.tmps[58]?.getD undef = .int .i64 (p : Int) := (Array.getD_eq_getD_getElem? ..).symm.trans d3
              refine wp_yields (v := .int .i64 ((p + 1 : Nat) : Int)) (w' := w2) ?_ (fun u hu => Option.some.inj (Option.some.inj hu)) (phased_quiet hLi (by rfl) hph)
              clear dep old ho hsz hph hnot hyes hLi
              go_simp
            | 5, ho =>
              obtain rfl := Option.some.inj ho
              rw [if_pos (wanted_none rfl)]
              have o0 := old 0 (by kernel_rfl)
              refine wp_yields (v := .slice (some ⟨g, 0, none⟩) r.length c2) (w' := w2) ?_ (fun u hu => Option.some.inj (Option.some.inj hu)) (phased_quiet hLi (by rfl) hph)
              clear dep old ho hsz hph hnot hyes hLi
              go_simp
            | 6, ho =>
              obtain rfl := Option.some.inj ho
              rw [if_pos (wanted_none rfl)]
              have o9 := old 9 (by kernel_rfl)
              refine wp_yields (v := .int .i64 (p : Int)) (w' := w2) ?_ (fun u hu => Option.some.inj (Option.some.inj hu)) (phased_quiet hLi (by rfl) hph)
              clear dep old ho hsz hph hnot hyes hLi
              go_simp
            | 7, ho =>
              obtain rfl := Option.some.inj ho
              rw [if_pos (wanted_none rfl)]
              have d6 : a.tmps.getD 61 undef = .int .i64 (p : Int) := dep 6 _ _ (by kernel_rfl) rfl rfl _ rfl
              have e6 : a.tmps[61]?.getD undef = .int .i64 (p : Int) := (Array.getD_eq_getD_getElem? ..).symm.trans d6
              refine wp_yields (v := .int .i64 ((p + 1 : Nat) : Int)) (w' := w2) ?_ (fun u hu => Option.some.inj (Option.some.inj hu)) (phased_quiet hLi (by rfl) hph)
              clear dep old ho hsz hph hnot hyes hLi
              go_simp
            | 8, ho =>
              obtain rfl := Option.some.inj ho
              rw [if_pos (wanted_none rfl)]
              have d5 : a.tmps.getD 60 undef = .slice (some ⟨g, 0, none⟩) r.length c2 := dep 5 _ _ (by kernel_rfl) rfl rfl _ rfl
              have e5 : a.tmps[60]?.getD undef = .slice (some ⟨g, 0, none⟩) r.length c2 := (Array.getD_eq_getD_getElem? ..).symm.trans d5
              have d7 : a.tmps.getD 62 undef = .int .i64 ((p + 1 : Nat) : Int) := dep 7 _ _ (by kernel_rfl) rfl rfl _ rfl
              have e7 : a.tmps[62]?.getD undef = .int .i64 ((p + 1 : Nat) : Int) := (Array.getD_eq_getD_getElem? ..).symm.trans d7
              refine wp_yields (v := .pointer (some ⟨g, (p + 1) * 3, none⟩)) (w' := w2) ?_ (fun u hu => Option.some.inj (Option.some.inj hu)) (phased_quiet hLi (by rfl) hph)
              clear dep old ho hsz hph hnot hyes hLi
              go_simp
            | 9, ho =>
              obtain rfl := Option.some.inj ho
              rw [if_pos (wanted_none rfl)]
              have d8 : a.tmps.getD 63 undef = .pointer (some ⟨g, (p + 1) * 3, none⟩) := dep 8 _ _ (by kernel_rfl) rfl rfl _ rfl
              have e8 : a.tmps[63]?.getD undef = .pointer (some ⟨g, (p + 1) * 3, none⟩) := (Array.getD_eq_getD_getElem? ..).symm.trans d8
              have hA : Heaps W w2 := phased_first (fun p hp => by simp only [List.mem_cons, List.not_mem_nil, or_false] at hp; rcases hp with rfl | rfl; exact hnot 17 (by kernel_rfl); exact hnot 15 (by kernel_rfl)) hph
              obtain ⟨c0, c1, c2⟩ := row_at (HI.out.below hA.below) HY.out
              refine wp_yields (v := .agg #[.int .i64 y.t, .string y.k, .string y.v]) (w' := w2) ?_ (fun u hu => Option.some.inj (Option.some.inj hu)) (phased_quiet hLi (by rfl) hph)
              clear dep old ho hsz hph hnot hyes hLi hA
              go_simp
            | 10, ho =>
              obtain rfl := Option.some.inj ho
              rw [if_pos (wanted_none rfl)]
              have o0 := old 0 (by kernel_rfl)
              refine wp_yields (v := .slice (some ⟨g, 0, none⟩) r.length c2) (w' := w2) ?_ (fun u hu => Option.some.inj (Option.some.inj hu)) (phased_quiet hLi (by rfl) hph)
              clear dep old ho hsz hph hnot hyes hLi
              go_simp
            | 11, ho =>
              obtain rfl := Option.some.inj ho
              rw [if_pos (wanted_none rfl)]
              have o9 := old 9 (by kernel_rfl)
              refine wp_yields (v := .int .i64 (p : Int)) (w' := w2) ?_ (fun u hu => Option.some.inj (Option.some.inj hu)) (phased_quiet hLi (by rfl) hph)
              clear dep old ho hsz hph hnot hyes hLi
              go_simp
            | 12, ho =>
              obtain rfl := Option.some.inj ho
              rw [if_pos (wanted_none rfl)]
              have d10 : a.tmps.getD 65 undef = .slice (some ⟨g, 0, none⟩) r.length c2 := dep 10 _ _ (by kernel_rfl) rfl rfl _ rfl
              have e10 : a.tmps[65]?.getD undef = .slice (some ⟨g, 0, none⟩) r.length c2 := (Array.getD_eq_getD_getElem? ..).symm.trans d10
              have d11 : a.tmps.getD 66 undef = .int .i64 (p : Int) := dep 11 _ _ (by kernel_rfl) rfl rfl _ rfl
              have e11 : a.tmps[66]?.getD undef = .int .i64 (p : Int) := (Array.getD_eq_getD_getElem? ..).symm.trans d11
              refine wp_yields (v := .pointer (some ⟨g, p * 3, none⟩)) (w' := w2) ?_ (fun u hu => Option.some.inj (Option.some.inj hu)) (phased_quiet hLi (by rfl) hph)
              clear dep old ho hsz hph hnot hyes hLi
              go_simp
            | 13, ho =>
              obtain rfl := Option.some.inj ho
              rw [if_pos (wanted_none rfl)]
              have d12 : a.tmps.getD 67 undef = .pointer (some ⟨g, p * 3, none⟩) := dep 12 _ _ (by kernel_rfl) rfl rfl _ rfl
              have e12 : a.tmps[67]?.getD undef = .pointer (some ⟨g, p * 3, none⟩) := (Array.getD_eq_getD_getElem? ..).symm.trans d12
              have hA : Heaps W w2 := phased_first (fun p hp => by simp only [List.mem_cons, List.not_mem_nil, or_false] at hp; rcases hp with rfl | rfl; exact hnot 17 (by kernel_rfl); exact hnot 15 (by kernel_rfl)) hph
              obtain ⟨c0, c1, c2⟩ := row_at (HI.out.below hA.below) HX.out
              refine wp_yields (v := .agg #[.int .i64 x.t, .string x.k, .string x.v]) (w' := w2) ?_ (fun u hu => Option.some.inj (Option.some.inj hu)) (phased_quiet hLi (by rfl) hph)
              clear dep old ho hsz hph hnot hyes hLi hA
              go_simp
            | 14, ho =>
              obtain rfl := Option.some.inj ho
              rw [if_pos (wanted_none rfl)]
              have d0 : a.tmps.getD 55 undef = .slice (some ⟨g, 0, none⟩) r.length c2 := dep 0 _ _ (by kernel_rfl) rfl rfl _ rfl
              have e0 : a.tmps[55]?.getD undef = .slice (some ⟨g, 0, none⟩) r.length c2 := (Array.getD_eq_getD_getElem? ..).symm.trans d0
              have d1 : a.tmps.getD 56 undef = .int .i64 (p : Int) := dep 1 _ _ (by kernel_rfl) rfl rfl _ rfl
              have e1 : a.tmps[56]?.getD undef = .int .i64 (p : Int) := (Array.getD_eq_getD_getElem? ..).symm.trans d1
              refine wp_yields (v := .pointer (some ⟨g, p * 3, none⟩)) (w' := w2) ?_ (fun u hu => Option.some.inj (Option.some.inj hu)) (phased_quiet hLi (by rfl) hph)
              clear dep old ho hsz hph hnot hyes hLi
              go_simp
            | 15, ho =>
              obtain rfl := Option.some.inj ho
              rw [if_pos (wanted_none rfl)]
              have d9 : a.tmps.getD 64 undef = .agg #[.int .i64 y.t, .string y.k, .string y.v] := dep 9 _ _ (by kernel_rfl) rfl rfl _ rfl
              have e9 : a.tmps[64]?.getD undef = .agg #[.int .i64 y.t, .string y.k, .string y.v] := (Array.getD_eq_getD_getElem? ..).symm.trans d9
              have d14 : a.tmps.getD 69 undef = .pointer (some ⟨g, p * 3, none⟩) := dep 14 _ _ (by kernel_rfl) rfl rfl _ rfl
              have e14 : a.tmps[69]?.getD undef = .pointer (some ⟨g, p * 3, none⟩) := (Array.getD_eq_getD_getElem? ..).symm.trans d14
              have hA : Heaps W w2 := phased_first (fun p hp => by simp only [List.mem_cons, List.not_mem_nil, or_false] at hp; rcases hp with rfl | rfl; exact hnot 17 (by kernel_rfl); exact hLi) hph
              obtain ⟨c0, c1, c2⟩ := row_at (HI.out.below hA.below) HX.out
              have z0 := (HI.out.below hA.below).frozen (p * 3)
              have z1 := (HI.out.below hA.below).frozen (p * 3 + 1)
              have z2 := (HI.out.below hA.below).frozen (p * 3 + 2)
              refine wp_skips (w' := set3 w2 g (p * 3) y) ?_ (fun u hu => by cases Option.some.inj hu) ?_
              · clear dep old ho hsz hnot hyes hLi hph hA
                unfold set3
                go_simp
              · unfold phased phased
                rw [if_neg (by simp [also, hnot 17 (by kernel_rfl)]), if_pos (by simp [also])]
                exact ⟨by simp [also, hyes 14 (by kernel_rfl)], hA.set3 _ _ _⟩
            | 16, ho =>
              obtain rfl := Option.some.inj ho
              rw [if_pos (wanted_none rfl)]
              have d2 : a.tmps.getD 57 undef = .slice (some ⟨g, 0, none⟩) r.length c2 := dep 2 _ _ (by kernel_rfl) rfl rfl _ rfl
              have e2 : a.tmps[57]?.getD undef = .slice (some ⟨g, 0, none⟩) r.length c2 := (Array.getD_eq_getD_getElem? ..).symm.trans d2
              have d4 : a.tmps.getD 59 undef = .int .i64 ((p + 1 : Nat) : Int) := dep 4 _ _ (by kernel_rfl) rfl rfl _ rfl
              have e4 : a.tmps[59]?.getD undef = .int .i64 ((p + 1 : Nat) : Int) := (Array.getD_eq_getD_getElem? ..).symm.trans d4
              refine wp_yields (v := .pointer (some ⟨g, (p + 1) * 3, none⟩)) (w' := w2) ?_ (fun u hu => Option.some.inj (Option.some.inj hu)) (phased_quiet hLi (by rfl) hph)
              clear dep old ho hsz hph hnot hyes hLi
              go_simp
            | 17, ho =>
              obtain rfl := Option.some.inj ho
              rw [if_pos (wanted_none rfl)]
              have d13 : a.tmps.getD 68 undef = .agg #[.int .i64 x.t, .string x.k, .string x.v] := dep 13 _ _ (by kernel_rfl) rfl rfl _ rfl
              have e13 : a.tmps[68]?.getD undef = .agg #[.int .i64 x.t, .string x.k, .string x.v] := (Array.getD_eq_getD_getElem? ..).symm.trans d13
              have d16 : a.tmps.getD 70 undef = .pointer (some ⟨g, (p + 1) * 3, none⟩) := dep 16 _ _ (by kernel_rfl) rfl rfl _ rfl
              have e16 : a.tmps[70]?.getD undef = .pointer (some ⟨g, (p + 1) * 3, none⟩) := (Array.getD_eq_getD_getElem? ..).symm.trans d16
              unfold phased phased at hph
              rw [if_neg (by rw [hLi]; decide), if_pos (hyes 15 (by kernel_rfl))] at hph
              have hA : Heaps (set3 W g (p * 3) y) w2 := hph.2
              obtain ⟨c0, c1, c2⟩ := row_at (HI2.out.below hA.below) HY2.out
              have z0 := (HI2.out.below hA.below).frozen ((p + 1) * 3)
              have z1 := (HI2.out.below hA.below).frozen ((p + 1) * 3 + 1)
              have z2 := (HI2.out.below hA.below).frozen ((p + 1) * 3 + 2)
              refine wp_skips (w' := set3 w2 g ((p + 1) * 3) x) ?_ (fun u hu => by cases Option.some.inj hu) ?_
              · clear dep old ho hsz hnot hyes hLi hph hA
                unfold set3
                go_simp
              · unfold phased
                rw [if_pos (by simp [also])]
                exact ⟨by simp [also, hyes 16 (by kernel_rfl)], hA.set3 _ _ _⟩
            | i + 18, ho => exact absurd ho (by simp)
          · intro a w6 hph hsz hdf fin keep
            unfold phased at hph
            rw [if_pos rfl] at hph
            have S6 := hide (show Ow w (fun _ => False) w6 [Res.row rwK (.slice (some ⟨g, 0, none⟩) r.length c2) ((r.set p y).set (p + 1) x)] from by
              have hK := (set3_kept W g (p * 3) y).trans_same (set3_kept _ g ((p + 1) * 3) x)
              exact (S5.out.rowset (i := 0) rfl HI3.out (hK.mono (fun k e => .inl (by rw [e]; rfl))) (fun k e => e)).below hph.2.below)
            obtain ⟨tm, df⟩ := a
            dsimp only at hdf
            subst hdf
            have hx := frame_of [55, 56, 57, 58, 59, 60, 61, 62, 63, 64, 65, 66, 67, 68, 69, 70] (by kernel_rfl) hsz keep
            dsimp only at hx
            simp only [List.foldl_cons, List.foldl_nil] at hx
            clear hsz keep hph fin
            generalize tm.getD 55 undef = y55 at hx
            generalize tm.getD 56 undef = y56 at hx
            generalize tm.getD 57 undef = y57 at hx
            generalize tm.getD 58 undef = y58 at hx
            generalize tm.getD 59 undef = y59 at hx
            generalize tm.getD 60 undef = y60 at hx
            generalize tm.getD 61 undef = y61 at hx
            generalize tm.getD 62 undef = y62 at hx
            generalize tm.getD 63 undef = y63 at hx
            generalize tm.getD 64 undef = y64 at hx
            generalize tm.getD 65 undef = y65 at hx
            generalize tm.getD 66 undef = y66 at hx
            generalize tm.getD 67 undef = y67 at hx
            generalize tm.getD 68 undef = y68 at hx
            generalize tm.getD 69 undef = y69 at hx
            generalize tm.getD 70 undef = y70 at hx
            simp only [List.setIfInBounds_toArray, List.set_cons_succ, List.set_cons_zero] at hx
            subst hx
            clear HI HI2 HY2 HI3 S5
            have HNR := hide (swap_not HR.out HX.out HY.out)
            have HOK := hide (swap_ok HR.out HX.out HY.out)
            have HRL : Hid (((r.set p y).set (p + 1) x).length = r.length) := hide (by rw [List.length_set, List.length_set])
            generalize (r.set p y).set (p + 1) x = r' at *
            obtain ⟨n9, hn9⟩ : ∃ n, r.length = n := ⟨_, rfl⟩
            have HF' : Hid (r'.length < 65536 ∧ ∀ z ∈ r', z.k.size ≤ 1000 ∧ z.v.size ≤ 1000) := hide ⟨by have := H30.out; have := HRL.out; omega, fun z hz => by have := okR_iff.1 (HOK.out z hz); omega⟩
            have HPL' : Hid ((portL r').length ≤ 100000) := hide (by
              have h := rowsL_le (l := r') (m := 36) (fun z hz => by have := okR_iff.1 (HOK.out z hz); omega)
              have h2 : r'.length * 39 ≤ 30 * 39 := Nat.mul_le_mul_right _ (by have := H30.out; have := HRL.out; omega)
              rw [portL_length]
              omega)
            clear hn9
            go_upto_region 20 with (first
              | (go_at_call 16; (with_reducible refine (ow_pbytes S6.out (S6.out.rws (i := 0) rfl) HF'.out).mono ?_); rintro e w7 ⟨Abw7, cbw7, rfl, hs⟩; have SBw7 := hide hs; clear hs)
              | (go_at_call 15; (with_reducible refine (ow_pdec SBw7.out (SBw7.out.rd8 (i := 1) rfl) HPL'.out).mono ?_); rintro e w8 ⟨Adw8, cdw8, mw8, zw8, rfl, hd, hs⟩; have hz9 := dec_wrong HNR.out (ok_fits HOK.out) HF'.out.1 hd; subst hz9; have S8 := hide hs; clear hs hd))
            have HB4 : Hid (Rws (w8.alloc (.cells #[.int .i64 4, .string ⟨#[]⟩, .string ⟨#[]⟩] 32)) (.slice (some ⟨w8.heap.size, 0, none⟩) 1 1) [(⟨4, ⟨#[]⟩, ⟨#[]⟩⟩ : Rw)]) := hide (rws_one (heap_new w8 _))
            have S9 := hide (S8.out.box 32 #[.int .i64 4, .string ⟨#[]⟩, .string ⟨#[]⟩])
            go_upto_region 21 with (first
              | (go_at_call 16; (with_reducible refine (ow_pbytes S9.out HB4.out ⟨by simp, fun x hx => by rw [List.mem_singleton.1 hx]; exact ⟨by decide, by decide⟩⟩).mono ?_); rintro e w10 ⟨Abw10, cbw10, rfl, hs⟩; have SBw10 := hide hs; clear hs)
              | (go_at_call 15; (with_reducible refine (ow_pdec SBw10.out (SBw10.out.rd8 (i := 4) rfl) (by rw [portL_length]; simp [rowsL, rowL])).mono ?_); rintro e w11 ⟨Adw11, cdw11, mw11, zw11, rfl, hd, hs⟩; have hz9 := dec_wrong (not_ris (x := ⟨4, ⟨#[]⟩, ⟨#[]⟩⟩) rfl) (fun x hx => by rw [List.mem_singleton.1 hx]; exact ⟨by decide, by decide, by decide, by decide⟩) (by simp) hd; subst hz9; have S11 := hide hs; clear hs hd))
            have HB5 : Hid (Rws (w11.alloc (.cells #[.int .i64 0, .string key16, .string ⟨#[]⟩] 32)) (.slice (some ⟨w11.heap.size, 0, none⟩) 1 1) [(⟨0, key16, ⟨#[]⟩⟩ : Rw)]) := hide (rws_one (heap_new w11 _))
            have S12 := hide (S11.out.box 32 #[.int .i64 0, .string key16, .string ⟨#[]⟩])
            unfold key16 at HB5 S12
            go_wp2_with (first
              | (go_at_call 16; (with_reducible refine (ow_pbytes S12.out HB5.out ⟨by simp, fun x hx => by rw [List.mem_singleton.1 hx]; exact ⟨by decide, by decide⟩⟩).mono ?_); rintro e w13 ⟨Abw13, cbw13, rfl, hs⟩; have SBw13 := hide hs; clear hs)
              | (go_at_call 15; (with_reducible refine (ow_pdec SBw13.out (SBw13.out.rd8 (i := 7) rfl) (by rw [portL_length]; simp [rowsL, rowL])).mono ?_); rintro e w14 ⟨Adw14, cdw14, mw14, zw14, rfl, hd, hs⟩; have hz9 := dec_wrong (not_ris (x := ⟨0, key16, ⟨#[]⟩⟩) rfl) (fun x hx => by rw [List.mem_singleton.1 hx]; exact ⟨by decide, by decide, by decide, by decide⟩) (by simp) hd; subst hz9; have S14 := hide hs; clear hs hd))
            go_ret
            exact ⟨by simp, S14.out.bel⟩
end Go.Proofs.Ythkocbfioegcnaa
