/-
  PortApart' walk.
-/
import Derived.Test.YthkocbfioegcnaaFr14
namespace Go.Proofs.Ythkocbfioegcnaa
open Go.RowKit
set_option maxRecDepth 20000
set_option linter.unusedSimpArgs false
set_option linter.unusedVariables false

set_option maxHeartbeats 8000000 in
theorem apart_walk (v : Value) (l : List Rw) (v1 : Value) (k : List Rw) (w : World) (hv : RwRow w w.heap.size v l) (hk : RwRow w w.heap.size v1 k) : Calls Try.prog 7 #[v, v1] w fun e W' => e = .returned (.bool true) ∧ Below w.heap.size w W' := by
  obtain ⟨A, c, rfl⟩ := (Rws.of_in hv (Below.refl _ _)).form
  have HV := hide (fun W hb => Rws.of_in (w' := W) hv hb)
  clear hv
  obtain ⟨Ak, ck, rfl⟩ := (Rws.of_in hk (Below.refl _ _)).form
  have HVK := hide (fun W hb => Rws.of_in (w' := W) hk hb)
  clear hk
  cases hL : lightR l
  · have HL := hide hL
    clear hL
    go_enter Try.func7, Try.ntmps7
    go_wp2_with (first
      | (go_at_call 11; (with_reducible refine (fit_any _).mono ?_); rintro e w0 ⟨rfl, hb⟩; have HB0 := hide hb; clear hb)
      | (go_at_call 12; (with_reducible refine (light_any (HV.out _ HB0.out)).mono ?_); rintro e w1 ⟨rfl, hb⟩; rw [HL.out]; have HB1 := hide (HB0.out.trans (hb.mono HB0.out.size)); clear hb))
    go_ret
    exact ⟨rfl, HB1.out⟩
  · have HL := hide hL
    have H60 := hide (lightR_iff.1 hL).1
    clear hL
    cases hLK : lightR k
    · have HLK := hide hLK
      clear hLK
      go_enter Try.func7, Try.ntmps7
      go_wp2_with (first
        | (go_at_call 11; (with_reducible refine (fit_any _).mono ?_); rintro e w0 ⟨rfl, hb⟩; have HB0 := hide hb; clear hb)
        | (go_at_call 12; (with_reducible refine (light_any (HV.out _ HB0.out)).mono ?_); rintro e w1 ⟨rfl, hb⟩; rw [HL.out]; have HB1 := hide (HB0.out.trans (hb.mono HB0.out.size)); clear hb)
        | (go_at_call 12; (with_reducible refine (light_any (HVK.out _ HB1.out)).mono ?_); rintro e w2 ⟨rfl, hb⟩; rw [HLK.out]; have HB2 := hide (HB1.out.trans (hb.mono HB1.out.size)); have S2 := hide ((Ow.start w).below HB2.out); clear hb))
      go_ret
      exact ⟨rfl, HB2.out⟩
    · have HLK := hide hLK
      have HK60 := hide (lightR_iff.1 hLK).1
      clear hLK
      go_enter Try.func7, Try.ntmps7
      go_upto_region 7 with (first
        | (go_at_call 11; (with_reducible refine (fit_any _).mono ?_); rintro e w0 ⟨rfl, hb⟩; have HB0 := hide hb; clear hb)
        | (go_at_call 12; (with_reducible refine (light_any (HV.out _ HB0.out)).mono ?_); rintro e w1 ⟨rfl, hb⟩; rw [HL.out]; have HB1 := hide (HB0.out.trans (hb.mono HB0.out.size)); clear hb)
        | (go_at_call 12; (with_reducible refine (light_any (HVK.out _ HB1.out)).mono ?_); rintro e w2 ⟨rfl, hb⟩; rw [HLK.out]; have HB2 := hide (HB1.out.trans (hb.mono HB1.out.size)); have S2 := hide ((Ow.start w).below HB2.out); clear hb)
        | (go_at_call 13; (with_reducible refine (ow_ris S2.out (HV.out _ HB2.out) H60.out).mono ?_); rintro e w3 ⟨A2, c2, r, rfl, hris, hr30, hs⟩; have HR := hide hris; have H30 := hide hr30; have S3 := hide hs; have hr31 : (r.length : Int) ≤ 30 := (by omega); clear hris hr30 hs S2)
        | (go_at_call 13; (with_reducible refine (ow_ris S3.out (HVK.out _ S3.out.bel) HK60.out).mono ?_); rintro e w4 ⟨A3, c3, q, rfl, hris, hr30, hs⟩; have HQ := hide hris; have HQ30 := hide hr30; have S4 := hide hs; have hq31 : (q.length : Int) ≤ 30 := (by omega); clear hris hr30 hs S3)
        | (go_at_call 14; (with_reducible refine (ow_penc S4.out (S4.out.rws (i := 0) rfl) HR.out H30.out).mono ?_); rintro e w5 ⟨A5, c5, rfl, hs⟩; have S5 := hide hs; clear hs S4)
        | (go_at_call 14; (with_reducible refine (ow_penc S5.out (S5.out.rws (i := 1) rfl) HQ.out HQ30.out).mono ?_); rintro e w6 ⟨A6, c6, rfl, hs⟩; have S6 := hide hs; clear hs S5))
      obtain ⟨m, hm, hmr, hmq, hme⟩ : ∃ m : Nat, min (r.length : Int) (q.length : Int) = (m : Int) ∧ m ≤ r.length ∧ m ≤ q.length ∧ (r.length = q.length → m = r.length) := ⟨min r.length q.length, by omega, by omega, by omega, by omega⟩
      obtain ⟨b0, hb0⟩ : ∃ b, ((r.length : Int) == (q.length : Int)) = b := ⟨_, rfl⟩
      have HB0' : Hid (b0 = true ↔ r.length = q.length ∧ r.take 0 = q.take 0) := hide (by rw [← hb0, beq_iff_eq]; simp; omega)
      have HMR := hide hmr
      have HMQ := hide hmq
      have HME := hide hme
      clear hme
      go_wp2
      go_loopw [7, 37] (fun s i wr => ∃ (j : Nat) (b : Bool), j ≤ m ∧ i = .int .i64 j ∧ s = .bool b ∧ Hid (b = true ↔ r.length = q.length ∧ r.take j = q.take j) ∧ Hid (Ow w (fun _ => False) wr [Res.row rwK (.slice A2 r.length c2) r, Res.row rwK (.slice A3 q.length c3) q, Res.row b8K (.slice A5 (portL r).length c5) (portL r), Res.row b8K (.slice A6 (portL q).length c6) (portL q)])) (fun _ i _ => m - (intOf i).toNat)
      case atStart => exact ⟨0, b0, by omega, rfl, rfl, HB0', S6⟩
      case round =>
        clear HB0' S6
        obtain ⟨j, b, hj, rfl, rfl, HBJ, hs⟩ := hrel
        by_cases hlt : j < m
        · obtain ⟨x, hc⟩ : ∃ x, r[j]? = some x := ⟨_, List.getElem?_eq_getElem (by omega)⟩
          obtain ⟨y, hd⟩ : ∃ y, q[j]? = some y := ⟨_, List.getElem?_eq_getElem (by omega)⟩
          obtain ⟨bb, o, rfl, i0, i1, i2⟩ := (hs.out.rws (i := 0) rfl).at_ (Below.refl _ _) hc
          obtain ⟨bb', o', rfl, k0, k1, k2⟩ := (hs.out.rws (i := 1) rfl).at_ (Below.refl _ _) hd
          have q0 : (0 : Int) ≤ (j : Int) := by omega
          have q1 : (j : Int) < (m : Int) := by omega
          have q2 : (j : Int) < (r.length : Int) := by omega
          have q3 : (j : Int) < (q.length : Int) := by omega
          have HLT := hide hlt
          have HT1 : Hid (r.take (j + 1) = r.take j ++ [x]) := hide (by rw [List.take_add_one, hc]; rfl)
          have HT2 : Hid (q.take (j + 1) = q.take j ++ [y]) := hide (by rw [List.take_add_one, hd]; rfl)
          clear hlt hc hd
          have HNO : Hid (x ≠ y → ¬ (r.length = q.length ∧ r.take (j + 1) = q.take (j + 1))) := hide (fun hne h => hne (by
            have h2 := h.2
            rw [HT1.out, HT2.out] at h2
            exact List.singleton_inj.1 (List.append_inj_right' h2 rfl)))
          cases b
          · have HF : Hid (¬ (r.length = q.length ∧ r.take (j + 1) = q.take (j + 1))) := hide (fun h => by
              have h2 := h.2
              rw [HT1.out, HT2.out] at h2
              have := HBJ.out.2 ⟨h.1, List.append_inj_left' h2 rfl⟩
              cases this)
            go_upto_region 12 with (go_quiet (fail))
            go_wp2
            go_roundw
            case rel => exact ⟨j + 1, false, by have := HLT.out; omega, by go_num, rfl, hide (⟨fun h => (by cases h), fun h => absurd h HF.out⟩), hide (hs.out.below (below_drewN _ nq))⟩
            case measure => simp [intOf]; have := HLT.out; omega
          · by_cases e : x = y
            · subst e
              go_upto_region 12 with (go_quiet (fail))
              go_wp2
              go_roundw
              case rel => exact ⟨j + 1, true, by have := HLT.out; omega, by go_num, rfl, hide (⟨fun _ => ⟨(HBJ.out.1 rfl).1, by rw [HT1.out, HT2.out, (HBJ.out.1 rfl).2]⟩, fun _ => rfl⟩), hide (hs.out.below (below_drewN _ nq))⟩
              case measure => simp [intOf]; have := HLT.out; omega
            · by_cases e1 : x.t = y.t
              · have f1 : (x.t == y.t) = true := by rw [beq_iff_eq]; exact e1
                by_cases e2 : x.k = y.k
                · have f2 : (x.k.toList == y.k.toList) = true := by rw [beq_toList, decide_eq_true_eq]; exact e2
                  have f3 : (x.v.toList == y.v.toList) = false := by
                    rw [beq_toList, decide_eq_false_iff_not]
                    intro e3
                    apply e
                    obtain ⟨a1, a2, a3⟩ := x
                    obtain ⟨b1, b2, b3⟩ := y
                    dsimp only at e1 e2 e3
                    rw [e1, e2, e3]
                  have HE := hide e
                  clear e e1 e2
                  go_upto_region 12 with (go_quiet (fail))
                  go_wp2
                  go_roundw
                  case rel => exact ⟨j + 1, false, by have := HLT.out; omega, by go_num, rfl, hide (⟨fun h => (by cases h), fun h => absurd h (HNO.out HE.out)⟩), hide (hs.out.below (below_drewN _ nq))⟩
                  case measure => simp [intOf]; have := HLT.out; omega
                · have f2 : (x.k.toList == y.k.toList) = false := by rw [beq_toList, decide_eq_false_iff_not]; exact e2
                  have HE := hide e
                  clear e e1 e2
                  go_upto_region 12 with (go_quiet (fail))
                  go_wp2
                  go_roundw
                  case rel => exact ⟨j + 1, false, by have := HLT.out; omega, by go_num, rfl, hide (⟨fun h => (by cases h), fun h => absurd h (HNO.out HE.out)⟩), hide (hs.out.below (below_drewN _ nq))⟩
                  case measure => simp [intOf]; have := HLT.out; omega
              · have f1 : (x.t == y.t) = false := by rw [beq_eq_false_iff_ne]; exact e1
                have HE := hide e
                clear e e1
                go_upto_region 12 with (go_quiet (fail))
                go_wp2
                go_roundw
                case rel => exact ⟨j + 1, false, by have := HLT.out; omega, by go_num, rfl, hide (⟨fun h => (by cases h), fun h => absurd h (HNO.out HE.out)⟩), hide (hs.out.below (below_drewN _ nq))⟩
                case measure => simp [intOf]; have := HLT.out; omega
        · obtain rfl : m = j := by omega
          have q1 : ¬ (m : Int) < (m : Int) := by omega
          have hcv1 := conv_rdn (n := (portL r).length) rfl (hs.out.rd8 (i := 2) rfl)
          have hcv2 := conv_rdn (n := (portL q).length) rfl (hs.out.rd8 (i := 3) rfl)
          by_cases e : r = q
          · obtain rfl : b = true := HBJ.out.2 ⟨by rw [e], by rw [e]⟩
            have f1 : (portL r == portL q) = true := by rw [beq_iff_eq, e]
            clear e hlt hmr hmq hj
            go_wp2
            go_ret
            exact ⟨by simp, hs.out.bel⟩
          · have hbf : b = false := by
              cases b
              · rfl
              · obtain ⟨h1, h2⟩ := HBJ.out.1 rfl
                have h3 := HME.out h1
                rw [List.take_of_length_le (by omega), List.take_of_length_le (by omega)] at h2
                exact absurd h2 e
            subst hbf
            have f1 : (portL r == portL q) = false := by
              rw [beq_eq_false_iff_ne]
              intro h
              have h2 := read_port HR.out.fits (by have := H30.out; omega)
              rw [h, read_port HQ.out.fits (by have := HQ30.out; omega)] at h2
              exact e h2.symm
            clear e hlt hmr hmq hj
            go_wp2
            go_ret
            exact ⟨by simp, hs.out.bel⟩
end Go.Proofs.Ythkocbfioegcnaa
