/-
  The walk of RecordJoins.
-/
import Derived.Test.YtofnldmbokdkbaaJoinB
namespace Go.Proofs.Ytofnldmbokdkbaa
open Go.RowKit

set_option linter.unusedSimpArgs false
set_option linter.unusedVariables false

theorem Blk8.all {w : World} {g : Nat} {t : TypeId} {x0 x1 x2 x3 x4 x5 x6 x7 : Value} (h : Blk w g t #[x0, x1, x2, x3, x4, x5, x6, x7]) : w.cell? ⟨g, 0, none⟩ = some x0 ∧ w.cell? ⟨g, 1, none⟩ = some x1 ∧ w.cell? ⟨g, 2, none⟩ = some x2 ∧ w.cell? ⟨g, 3, none⟩ = some x3 ∧
    w.cell? ⟨g, 4, none⟩ = some x4 ∧ w.cell? ⟨g, 5, none⟩ = some x5 ∧ w.cell? ⟨g, 6, none⟩ = some x6 ∧ w.cell? ⟨g, 7, none⟩ = some x7 :=
  ⟨h.cell 0 _ rfl, h.cell 1 _ rfl, h.cell 2 _ rfl, h.cell 3 _ rfl, h.cell 4 _ rfl, h.cell 5 _ rfl, h.cell 6 _ rfl, h.cell 7 _ rfl⟩
set_option maxHeartbeats 8000000 in
theorem rjoins_walk (v : Value) (cs : List SeedD) (w : World) (hv : SeedRow w w.heap.size v cs) :
    Calls Try.prog 7 #[v] w fun e w' => e = .returned (.bool true) ∧ Below w.heap.size w w' := by
  obtain ⟨Av, cv, ev, _, _⟩ := id hv
  subst ev
  have HV := hide hv
  clear hv
  obtain ⟨i0, hi, hz0, hz1, hz2⟩ := info_parts info8
  by_cases h20 : 20 < cs.length
  · go_enter Try.func7, Try.ntmps7
    go_wp2_with (go_at_call 10; ((with_reducible refine (fit_any _).mono ?_); rintro e w1 ⟨rfl, hb1⟩))
    go_ret
    exact ⟨rfl, hb1⟩
  · go_enter Try.func7, Try.ntmps7
    go_wp2_with (go_at_call 10; ((with_reducible refine (fit_any _).mono ?_); rintro e w1 ⟨rfl, hb1⟩))
    go_loopw [3, 21] (fun u i wr => ∃ j : Nat, j ≤ cs.length ∧ i = .int .i64 j ∧ Mine wr w.heap.size u (frs (cs.take j)) ∧ Below w.heap.size w wr) (fun _ i _ => cs.length - (intOf i).toNat)
    case atStart => exact ⟨0, by omega, rfl, by exact own_nil w1 w.heap.size 5, hb1⟩
    case round =>
      obtain ⟨j, hj, rfl, hm, hb⟩ := hrel
      by_cases hlt : j < cs.length
      · obtain ⟨b, o, cap, he, A2, n, c2, hn, hrange, hrow⟩ := seed_at HV.out hb hlt
        injection he with e1 e2 e3
        subst e1
        subst e3
        have HRG := hide hrange
        have XIC := hide infoSeed
        have HN := hide hn
        have HU := hide (HV.out.us cs[j] (List.getElem_mem hlt))
        have HB := hide hb
        have hj0 : (0 : Int) ≤ (j : Int) := by omega
        have hj1 : (j : Int) < (cs.length : Int) := by omega
        have HB5 := hide (hb.alloc hb.size (.cells #[.int .i64 cs[j].k, .int .i64 cs[j].t, .int .i64 cs[j].p, .int .i64 cs[j].s, .int .u8 (cs[j].b.toNat : Int), .int .u8 (cs[j].a.toNat : Int), .int .u8 (cs[j].i.toNat : Int), .slice A2 n c2] 24))
        have HR5 := hide ((show Rd wr (.slice A2 n c2) (u64s cs[j].ds) from hrow.more hb.size).alloc (.cells #[.int .i64 cs[j].k, .int .i64 cs[j].t, .int .i64 cs[j].p, .int .i64 cs[j].s, .int .u8 (cs[j].b.toNat : Int), .int .u8 (cs[j].a.toNat : Int), .int .u8 (cs[j].i.toNat : Int), .slice A2 n c2] 24))
        clear hrange hrow hn
        have HM := hide hm
        obtain ⟨r, hr⟩ : ∃ r, seedR cs[j] = r := ⟨_, rfl⟩
        have HR := hide hr
        have HO := hide (show r.Ok by rw [← hr]; exact seedR_ok cs[j] HU.out)
        have HF := hide (show frs (cs.take j) ++ r.frame = frs (cs.take (j + 1)) by rw [frs_take cs j hlt, hr])
        have HL := hide (show (frs (cs.take j)).length + r.frame.length ≤ 100000 by have h1 := frs_length (cs.take j) (fun x hx => HV.out.us x (List.mem_of_mem_take hx)); rw [List.length_take] at h1; have h2 := HO.out.most; omega)
        clear hr hm hb
        generalize frs (cs.take j) = lj at *
        by_cases h100 : 100 < n
        · go_wp2_with ((with_reducible refine wpList_load_mid rfl 24 (.tmp 23) rfl b (o + j * 8) rfl [.int .i64 cs[j].k, .int .i64 cs[j].t, .int .i64 cs[j].p, .int .i64 cs[j].s, .int .u8 (cs[j].b.toNat : Int), .int .u8 (cs[j].a.toNat : Int), .int .u8 (cs[j].i.toNat : Int), .slice A2 n c2] _ ?_ Try.underlying24 ?_ ?_ ?_); exact HRG.out; rfl; exact XIC.out)
          go_ret
          exact ⟨rfl, HB5.out⟩
        · go_wp2_with (first
            | ((with_reducible refine wpList_load_mid rfl 24 (.tmp 23) rfl b (o + j * 8) rfl [.int .i64 cs[j].k, .int .i64 cs[j].t, .int .i64 cs[j].p, .int .i64 cs[j].s, .int .u8 (cs[j].b.toNat : Int), .int .u8 (cs[j].a.toNat : Int), .int .u8 (cs[j].i.toNat : Int), .slice A2 n c2] _ ?_ Try.underlying24 ?_ ?_ ?_); exact HRG.out; rfl; exact XIC.out)
            | (go_at_call 11; ((with_reducible refine (seed_r cs[j] A2 n c2 _ HN.out HR.out HR5.out).mono ?_); rintro e w6 ⟨A6, c6, rfl, R6, hb6⟩; have B6 := HB5.out.trans (hb6.mono HB5.out.size)))
            | (go_at_call 12; ((with_reducible refine (enc_told r A6 c6 _ HO.out R6).mono ?_); rintro e w7 ⟨A7, c7, rfl, m7, hb7⟩; have B7 := B6.trans (hb7.mono B6.size); have M7 := ((HM.out.alloc (.cells #[.int .i64 cs[j].k, .int .i64 cs[j].t, .int .i64 cs[j].p, .int .i64 cs[j].s, .int .u8 (cs[j].b.toNat : Int), .int .u8 (cs[j].a.toNat : Int), .int .u8 (cs[j].i.toNat : Int), .slice A2 n c2] 24)).below hb6).below hb7))
            | (at_builtin; refine wpList_append_rd rfl (.tmp 29) (.tmp 32) 25 rfl (base := w.heap.size) 5 i0 (.int .u8 0) 1 Try.underlying25 hi hz0 hz1 hz2 rfl _ lj.length (u8s lj) rfl M7 (.slice A7 r.frame.length c7) (u8s r.frame) rfl m7.rd (oneCell_u8s _) (by rw [u8s_length]; have := HL.out; unfold maxLen; omega) (by rw [u8s_length]; have := HL.out; omega) B7.size ?_; intro v8 w8 own8 grow8 at8; have B8 := B7.grown grow8 B7.size M7.low; have M8 : Mine w8 w.heap.size v8 (lj ++ r.frame) := mine_rd own8))
          go_round
          case rel => exact ⟨j + 1, by omega, by go_num, by rw [← HF.out]; exact M8, B8⟩
          case measure => simp [intOf]; omega
      · obtain rfl : j = cs.length := by omega
        rw [List.take_length] at hm
        have HR0 := hide hm.rd
        obtain ⟨A9, c9, hu9⟩ := hm.form
        subst hu9
        have HB0 := hide hb
        clear hm hb
        go_wp2
        go_loopw [3, 37] (fun u i wr => ∃ j : Nat, j ≤ cs.length ∧ i = .int .i64 j ∧ Rd wr u (u8s (frs (cs.drop j))) ∧ Below w.heap.size w wr) (fun _ i _ => cs.length - (intOf i).toNat)
        case atStart => exact ⟨0, by omega, rfl, by rw [List.drop_zero]; exact HR0.out, HB0.out⟩
        case round =>
          obtain ⟨j, hj, rfl, hm, hb⟩ := hrel
          obtain ⟨A3, c3, eu, hc3, _⟩ := id hm
          by_cases hlt : j < cs.length
          · obtain ⟨b, o, cap, he, A2, n, c2, hn, hrange, hrow⟩ := seed_at HV.out hb hlt
            injection he with e1 e2 e3
            subst e1
            subst e3
            have HRG := hide hrange
            have XIC := hide infoSeed
            have HN := hide hn
            have HU := hide (HV.out.us cs[j] (List.getElem_mem hlt))
            have HB := hide hb
            have hj0 : (0 : Int) ≤ (j : Int) := by omega
            have hj1 : (j : Int) < (cs.length : Int) := by omega
            have HB5 := hide (hb.alloc hb.size (.cells #[.int .i64 cs[j].k, .int .i64 cs[j].t, .int .i64 cs[j].p, .int .i64 cs[j].s, .int .u8 (cs[j].b.toNat : Int), .int .u8 (cs[j].a.toNat : Int), .int .u8 (cs[j].i.toNat : Int), .slice A2 n c2] 24))
            have HR5 := hide ((show Rd wr (.slice A2 n c2) (u64s cs[j].ds) from hrow.more hb.size).alloc (.cells #[.int .i64 cs[j].k, .int .i64 cs[j].t, .int .i64 cs[j].p, .int .i64 cs[j].s, .int .u8 (cs[j].b.toNat : Int), .int .u8 (cs[j].a.toNat : Int), .int .u8 (cs[j].i.toNat : Int), .slice A2 n c2] 24))
            clear hrange hrow hn
            obtain ⟨r, hr⟩ : ∃ r, seedR cs[j] = r := ⟨_, rfl⟩
            have HR := hide hr
            have HO := hide (show r.Ok by rw [← hr]; exact seedR_ok cs[j] HU.out)
            have HF := hide (show frs (cs.drop j) = r.frame ++ frs (cs.drop (j + 1)) by rw [frs_drop cs j hlt, hr])
            have HL := hide (show (frs (cs.drop (j + 1))).length ≤ 1000000 by have h1 := frs_length (cs.drop (j + 1)) (fun x hx => HV.out.us x (List.mem_of_mem_drop hx)); rw [List.length_drop] at h1; omega)
            obtain ⟨nl, hnl⟩ : ∃ nl, (frs (cs.drop j)).length = nl := ⟨_, rfl⟩
            rw [u8s_length, hnl] at eu hc3
            subst eu
            have hkn := hide (show r.frame.length ≤ nl by have := congrArg List.length HF.out; rw [List.length_append, hnl] at this; omega)
            have HRD := hide hm
            have HNX := hide (show (frs (cs.drop j)).drop r.frame.length = frs (cs.drop (j + 1)) by rw [HF.out]; exact List.drop_left ..)
            clear hr hm hb hc3
            obtain ⟨ln, hln⟩ : ∃ ln, frs (cs.drop (j + 1)) = ln := ⟨_, rfl⟩
            rw [hln] at HF HL HNX
            have HLN := hide hln
            clear hln
            generalize frs (cs.drop j) = lj at *
            have hhigh := fun W => run_high (P := Try.prog) slice8 size8 A3 nl c3 r.frame.length hkn.out W
            go_wp2_with (first
              | ((with_reducible refine wpList_load_mid rfl 24 (.tmp 39) rfl b (o + j * 8) rfl [.int .i64 cs[j].k, .int .i64 cs[j].t, .int .i64 cs[j].p, .int .i64 cs[j].s, .int .u8 (cs[j].b.toNat : Int), .int .u8 (cs[j].a.toNat : Int), .int .u8 (cs[j].i.toNat : Int), .slice A2 n c2] _ ?_ Try.underlying24 ?_ ?_ ?_); exact HRG.out; rfl; exact XIC.out)
              | (go_at_call 13; ((with_reducible refine (decode_frame HO.out HF.out HL.out (HRD.out.alloc (.cells #[.int .i64 cs[j].k, .int .i64 cs[j].t, .int .i64 cs[j].p, .int .i64 cs[j].s, .int .u8 (cs[j].b.toNat : Int), .int .u8 (cs[j].a.toNat : Int), .int .u8 (cs[j].i.toNat : Int), .slice A2 n c2] 24))).mono ?_); rintro e wD ⟨A8, c8, rfl, R8, hbD⟩; have BD := HB5.out.trans (hbD.mono HB5.out.size))))
            have HSB := hide ((show Blk (wr.alloc (.cells #[.int .i64 cs[j].k, .int .i64 cs[j].t, .int .i64 cs[j].p, .int .i64 cs[j].s, .int .u8 (cs[j].b.toNat : Int), .int .u8 (cs[j].a.toNat : Int), .int .u8 (cs[j].i.toNat : Int), .slice A2 n c2] 24)) wr.heap.size 24 #[.int .i64 cs[j].k, .int .i64 cs[j].t, .int .i64 cs[j].p, .int .i64 cs[j].s, .int .u8 (cs[j].b.toNat : Int), .int .u8 (cs[j].a.toNat : Int), .int .u8 (cs[j].i.toNat : Int), .slice A2 n c2] from heap_new wr _).below hbD)
            have HSA := hide (HSB.out.alloc (.cells #[.int .i64 (r.k : Int), .int .i64 (r.t : Int), .int .i64 (r.p : Int), .int .i64 (r.s : Int), .string r.b, .string r.a, .string r.i, .slice A8 r.ds.length c8] 28))
            have HS7 := hide ((HR5.out.below hbD).alloc (.cells #[.int .i64 (r.k : Int), .int .i64 (r.t : Int), .int .i64 (r.p : Int), .int .i64 (r.s : Int), .string r.b, .string r.a, .string r.i, .slice A8 r.ds.length c8] 28))
            have HD7 := hide (R8.alloc (.cells #[.int .i64 (r.k : Int), .int .i64 (r.t : Int), .int .i64 (r.p : Int), .int .i64 (r.s : Int), .string r.b, .string r.a, .string r.i, .slice A8 r.ds.length c8] 28))
            have HQ : Blk (wD.alloc (.cells #[.int .i64 (r.k : Int), .int .i64 (r.t : Int), .int .i64 (r.p : Int), .int .i64 (r.s : Int), .string r.b, .string r.a, .string r.i, .slice A8 r.ds.length c8] 28)) wD.heap.size 28 #[.int .i64 (r.k : Int), .int .i64 (r.t : Int), .int .i64 (r.p : Int), .int .i64 (r.s : Int), .string r.b, .string r.a, .string r.i, .slice A8 r.ds.length c8] := heap_new wD _
            obtain ⟨q0, q1, q2, q3, q4, q5, q6, q7⟩ := Blk8.all HQ
            obtain ⟨s0_, s1_, s2_, s3_, s4_, s5_, s6_, s7_⟩ := Blk8.all HSA.out
            have hlq := hide HQ.lt
            have hls := hide HSA.out.lt
            have HB7 := hide (BD.alloc BD.size (.cells #[.int .i64 (r.k : Int), .int .i64 (r.t : Int), .int .i64 (r.p : Int), .int .i64 (r.s : Int), .string r.b, .string r.a, .string r.i, .slice A8 r.ds.length c8] 28))
            have HN7 := hide (((HRD.out.alloc (.cells #[.int .i64 cs[j].k, .int .i64 cs[j].t, .int .i64 cs[j].p, .int .i64 cs[j].s, .int .u8 (cs[j].b.toNat : Int), .int .u8 (cs[j].a.toNat : Int), .int .u8 (cs[j].i.toNat : Int), .slice A2 n c2] 24)).below hbD).alloc (.cells #[.int .i64 (r.k : Int), .int .i64 (r.t : Int), .int .i64 (r.p : Int), .int .i64 (r.s : Int), .string r.b, .string r.a, .string r.i, .slice A8 r.ds.length c8] 28))
            clear HQ R8 BD hbD
            refine region_grows [Say.is (.bool true), Say.is (.bool false), Say.is (.bool false), Say.is (.agg #[.int .i64 (r.k : Int), .int .i64 (r.t : Int), .int .i64 (r.p : Int), .int .i64 (r.s : Int), .string r.b, .string r.a, .string r.i, .slice A8 r.ds.length c8]), Say.is (.agg #[.int .i64 cs[j].k, .int .i64 cs[j].t, .int .i64 cs[j].p, .int .i64 cs[j].s, .int .u8 (cs[j].b.toNat : Int), .int .u8 (cs[j].a.toNat : Int), .int .u8 (cs[j].i.toNat : Int), .slice A2 n c2]), Say.rcd r, Say.is (.bool true), Say.is (.bool false), Say.is (.bool false)] (by kernel_rfl) (by kernel_rfl) (by kernel_rfl) (by kernel_rfl) ?_ ?_
            · intro i o ho a w2 hb hsz old dep
              match i, ho with
              | 0, ho =>
                obtain rfl := Option.some.inj ho
                have o10 : a.tmps.getD 10 undef = _ := old 10 (by kernel_rfl)
                rw [if_pos (wanted_none rfl)]
                refine grow_same (v := .bool true) ?_ rfl
                clear old dep ho hsz hb
                go_simp
              | 1, ho =>
                obtain rfl := Option.some.inj ho
                have d0 : a.tmps.getD 47 undef = .bool true := dep 0 _ _ (by kernel_rfl) rfl rfl
                have e0 : a.tmps[47]?.getD undef = _ := (Array.getD_eq_getD_getElem? ..).symm.trans d0
                rw [if_pos (wanted_none rfl)]
                refine grow_same (v := .bool false) ?_ rfl
                clear old dep ho hsz hb
                go_simp
              | 2, ho =>
                obtain rfl := Option.some.inj ho
                have d1 : a.tmps.getD 48 undef = .bool false := dep 1 _ _ (by kernel_rfl) rfl rfl
                have e1 : a.tmps[48]?.getD undef = _ := (Array.getD_eq_getD_getElem? ..).symm.trans d1
                rw [if_pos (wanted_none rfl)]
                refine grow_same (v := .bool false) ?_ rfl
                clear old dep ho hsz hb
                go_simp
              | 3, ho =>
                obtain rfl := Option.some.inj ho
                have o8 : a.tmps.getD 8 undef = _ := old 8 (by kernel_rfl)
                have d2 : a.tmps.getD 49 undef = .bool false := dep 2 _ _ (by kernel_rfl) rfl rfl
                have e2 : a.tmps[49]?.getD undef = _ := (Array.getD_eq_getD_getElem? ..).symm.trans d2
                rw [if_pos (wanted_some rfl rfl rfl (by rw [hsz]; exact of_decide_eq_true rfl) d2)]
                have g0 := (hb.cell (p := ⟨wD.heap.size, 0, none⟩) hlq.out).trans q0
                have g1 := (hb.cell (p := ⟨wD.heap.size, 1, none⟩) hlq.out).trans q1
                have g2 := (hb.cell (p := ⟨wD.heap.size, 2, none⟩) hlq.out).trans q2
                have g3 := (hb.cell (p := ⟨wD.heap.size, 3, none⟩) hlq.out).trans q3
                have g4 := (hb.cell (p := ⟨wD.heap.size, 4, none⟩) hlq.out).trans q4
                have g5 := (hb.cell (p := ⟨wD.heap.size, 5, none⟩) hlq.out).trans q5
                have g6 := (hb.cell (p := ⟨wD.heap.size, 6, none⟩) hlq.out).trans q6
                have g7 := (hb.cell (p := ⟨wD.heap.size, 7, none⟩) hlq.out).trans q7
                refine grow_same (v := .agg #[.int .i64 (r.k : Int), .int .i64 (r.t : Int), .int .i64 (r.p : Int), .int .i64 (r.s : Int), .string r.b, .string r.a, .string r.i, .slice A8 r.ds.length c8]) ?_ rfl
                clear old dep ho hsz hb
                go_simp
              | 4, ho =>
                obtain rfl := Option.some.inj ho
                have o7 : a.tmps.getD 7 undef = _ := old 7 (by kernel_rfl)
                have d2 : a.tmps.getD 49 undef = .bool false := dep 2 _ _ (by kernel_rfl) rfl rfl
                have e2 : a.tmps[49]?.getD undef = _ := (Array.getD_eq_getD_getElem? ..).symm.trans d2
                rw [if_pos (wanted_some rfl rfl rfl (by rw [hsz]; exact of_decide_eq_true rfl) d2)]
                have g0 := (hb.cell (p := ⟨wr.heap.size, 0, none⟩) hls.out).trans s0_
                have g1 := (hb.cell (p := ⟨wr.heap.size, 1, none⟩) hls.out).trans s1_
                have g2 := (hb.cell (p := ⟨wr.heap.size, 2, none⟩) hls.out).trans s2_
                have g3 := (hb.cell (p := ⟨wr.heap.size, 3, none⟩) hls.out).trans s3_
                have g4 := (hb.cell (p := ⟨wr.heap.size, 4, none⟩) hls.out).trans s4_
                have g5 := (hb.cell (p := ⟨wr.heap.size, 5, none⟩) hls.out).trans s5_
                have g6 := (hb.cell (p := ⟨wr.heap.size, 6, none⟩) hls.out).trans s6_
                have g7 := (hb.cell (p := ⟨wr.heap.size, 7, none⟩) hls.out).trans s7_
                refine grow_same (v := .agg #[.int .i64 cs[j].k, .int .i64 cs[j].t, .int .i64 cs[j].p, .int .i64 cs[j].s, .int .u8 (cs[j].b.toNat : Int), .int .u8 (cs[j].a.toNat : Int), .int .u8 (cs[j].i.toNat : Int), .slice A2 n c2]) ?_ rfl
                clear old dep ho hsz hb
                go_simp
              | 5, ho =>
                obtain rfl := Option.some.inj ho
                have d4 : a.tmps.getD 51 undef = .agg #[.int .i64 cs[j].k, .int .i64 cs[j].t, .int .i64 cs[j].p, .int .i64 cs[j].s, .int .u8 (cs[j].b.toNat : Int), .int .u8 (cs[j].a.toNat : Int), .int .u8 (cs[j].i.toNat : Int), .slice A2 n c2] := dep 4 _ _ (by kernel_rfl) rfl rfl
                have e4 : a.tmps[51]?.getD undef = _ := (Array.getD_eq_getD_getElem? ..).symm.trans d4
                have d2 : a.tmps.getD 49 undef = .bool false := dep 2 _ _ (by kernel_rfl) rfl rfl
                have e2 : a.tmps[49]?.getD undef = _ := (Array.getD_eq_getD_getElem? ..).symm.trans d2
                rw [if_pos (wanted_some rfl rfl rfl (by rw [hsz]; exact of_decide_eq_true rfl) d2)]
                refine grow_enters (f := 11) (args := #[.agg #[.int .i64 cs[j].k, .int .i64 cs[j].t, .int .i64 cs[j].p, .int .i64 cs[j].s, .int .u8 (cs[j].b.toNat : Int), .int .u8 (cs[j].a.toNat : Int), .int .u8 (cs[j].i.toNat : Int), .slice A2 n c2]]) ?_ (seed_grow _ HN.out HR.out (HS7.out.below hb))
                clear old dep ho hsz hb
                go_simp
              | 6, ho =>
                obtain rfl := Option.some.inj ho
                have d3 : a.tmps.getD 50 undef = .agg #[.int .i64 (r.k : Int), .int .i64 (r.t : Int), .int .i64 (r.p : Int), .int .i64 (r.s : Int), .string r.b, .string r.a, .string r.i, .slice A8 r.ds.length c8] := dep 3 _ _ (by kernel_rfl) rfl rfl
                have e3 : a.tmps[50]?.getD undef = _ := (Array.getD_eq_getD_getElem? ..).symm.trans d3
                have s5 : (Say.rcd r).p w2 (a.tmps.getD 52 undef) := dep 5 _ _ (by kernel_rfl) rfl rfl
                have d2 : a.tmps.getD 49 undef = .bool false := dep 2 _ _ (by kernel_rfl) rfl rfl
                have e2 : a.tmps[49]?.getD undef = _ := (Array.getD_eq_getD_getElem? ..).symm.trans d2
                rw [if_pos (wanted_some rfl rfl rfl (by rw [hsz]; exact of_decide_eq_true rfl) d2)]
                obtain ⟨A9, c9, e52, R52⟩ := s5
                have e5 : a.tmps[52]?.getD undef = _ := (Array.getD_eq_getD_getElem? ..).symm.trans e52
                refine grow_enters (f := 16) (args := #[.agg #[.int .i64 (r.k : Int), .int .i64 (r.t : Int), .int .i64 (r.p : Int), .int .i64 (r.s : Int), .string r.b, .string r.a, .string r.i, .slice A8 r.ds.length c8], .agg #[.int .i64 (r.k : Int), .int .i64 (r.t : Int), .int .i64 (r.p : Int), .int .i64 (r.s : Int), .string r.b, .string r.a, .string r.i, .slice A9 r.ds.length c9]]) ?_ (same_grow1 _ HO.out (HD7.out.below hb) R52)
                clear old dep ho hsz hb R52 e52
                go_simp
              | 7, ho =>
                obtain rfl := Option.some.inj ho
                have d6 : a.tmps.getD 53 undef = .bool true := dep 6 _ _ (by kernel_rfl) rfl rfl
                have e6 : a.tmps[53]?.getD undef = _ := (Array.getD_eq_getD_getElem? ..).symm.trans d6
                have d2 : a.tmps.getD 49 undef = .bool false := dep 2 _ _ (by kernel_rfl) rfl rfl
                have e2 : a.tmps[49]?.getD undef = _ := (Array.getD_eq_getD_getElem? ..).symm.trans d2
                rw [if_pos (wanted_some rfl rfl rfl (by rw [hsz]; exact of_decide_eq_true rfl) d2)]
                refine grow_same (v := .bool false) ?_ rfl
                clear old dep ho hsz hb
                go_simp
              | 8, ho =>
                obtain rfl := Option.some.inj ho
                have d2 : a.tmps.getD 49 undef = .bool false := dep 2 _ _ (by kernel_rfl) rfl rfl
                have e2 : a.tmps[49]?.getD undef = _ := (Array.getD_eq_getD_getElem? ..).symm.trans d2
                have d7 : a.tmps.getD 54 undef = .bool false := dep 7 _ _ (by kernel_rfl) rfl rfl
                have e7 : a.tmps[54]?.getD undef = _ := (Array.getD_eq_getD_getElem? ..).symm.trans d7
                rw [if_pos (wanted_none rfl)]
                refine grow_same (v := .bool false) ?_ rfl
                clear old dep ho hsz hb
                go_simp
              | i + 9, ho => exact absurd ho (by simp)
            · intro a wZ hb hsz hdf fin keep
              obtain ⟨tm, df⟩ := a
              have hx := frame_of [47, 48, 49, 50, 51, 52, 53, 54, 55] (by kernel_rfl) hsz keep
              dsimp only at hdf hx
              simp only [List.foldl_cons, List.foldl_nil] at hx
              subst hdf
              clear hsz keep
              have kn : tm.getD 47 undef = .bool true := fin 0 _ _ rfl rfl
              rw [kn] at hx
              clear kn
              have kn : tm.getD 48 undef = .bool false := fin 1 _ _ rfl rfl
              rw [kn] at hx
              clear kn
              have kn : tm.getD 49 undef = .bool false := fin 2 _ _ rfl rfl
              rw [kn] at hx
              clear kn
              have kn : tm.getD 50 undef = .agg #[.int .i64 (r.k : Int), .int .i64 (r.t : Int), .int .i64 (r.p : Int), .int .i64 (r.s : Int), .string r.b, .string r.a, .string r.i, .slice A8 r.ds.length c8] := fin 3 _ _ rfl rfl
              rw [kn] at hx
              clear kn
              have kn : tm.getD 51 undef = .agg #[.int .i64 cs[j].k, .int .i64 cs[j].t, .int .i64 cs[j].p, .int .i64 cs[j].s, .int .u8 (cs[j].b.toNat : Int), .int .u8 (cs[j].a.toNat : Int), .int .u8 (cs[j].i.toNat : Int), .slice A2 n c2] := fin 4 _ _ rfl rfl
              rw [kn] at hx
              clear kn
              generalize tm.getD 52 undef = y52 at hx
              have kn : tm.getD 53 undef = .bool true := fin 6 _ _ rfl rfl
              rw [kn] at hx
              clear kn
              have kn : tm.getD 54 undef = .bool false := fin 7 _ _ rfl rfl
              rw [kn] at hx
              clear kn
              have kn : tm.getD 55 undef = .bool false := fin 8 _ _ rfl rfl
              rw [kn] at hx
              clear kn
              clear fin
              simp only [List.setIfInBounds_toArray, List.set_cons_succ, List.set_cons_zero] at hx
              subst hx
              have BZ := HB7.out.trans (hb.mono HB7.out.size)
              have NZ := HN7.out.below hb
              clear hb
              go_wp2
              go_round
              case rel => exact ⟨j + 1, by omega, by go_num, by rw [HLN.out, ← HNX.out]; exact Rd.high NZ hkn.out, BZ⟩
              case measure => simp [intOf]; omega
          · obtain rfl : j = cs.length := by omega
            rw [List.drop_length] at hm eu hc3
            have e0 : (frs []) = [] := rfl
            rw [e0] at hm eu hc3
            replace eu : _ = Value.slice A3 0 c3 := eu
            subst eu
            have HB0 := hide hb
            have hm2 : Rd wr (.slice A3 0 c3) (u8s []) := hm
            clear hm hb hc3
            go_wp2_with (go_at_call 13; ((with_reducible refine (decode_no (by simp) hm2 decB_nil).mono ?_); rintro e wD ⟨rfl, hbD⟩; have BD := HB0.out.trans (hbD.mono HB0.out.size)))
            go_ret
            exact ⟨rfl, BD.alloc BD.size _⟩
end Go.Proofs.Ytofnldmbokdkbaa
