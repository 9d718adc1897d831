/-
  LaneAgain's walk.
-/
import Derived.Test.YtlmoiepbnnfebaaJnd
import Derived.WalkKit
namespace Go.Proofs.Ytlmoiepbnnfebaa
open Go.RowKit
set_option maxRecDepth 20000
set_option linter.unusedSimpArgs false
set_option linter.unusedVariables false

set_option maxHeartbeats 8000000 in
theorem again_walk (v : Value) (cs : List SeedD) (v2 : Value) (ms : List Nat) (w : World) (hv : SeedRow w w.heap.size v cs) (hv2 : Row w w.heap.size v2 (u64s ms)) :
    Calls Try.prog 5 #[v, v2] w fun e w' => e = .returned (.bool true) ∧ Below w.heap.size w w' := by
  obtain ⟨Av, cv, ev, _, _⟩ := id hv
  obtain ⟨Am, cm, em, _, _⟩ := id hv2
  subst ev
  rw [u64s_length] at em
  subst em
  have HV := hide hv
  have HV2 := hide hv2
  have hfit := fit_any w
  clear hv hv2
  by_cases h20 : 20 < cs.length
  · have h20' : decide ((20 : Int) < (cs.length : Int)) = true := by rw [decide_eq_true_eq]; omega
    go_enter Try.func5, Try.ntmps5
    go_wp2_with (go_at_call 12; ((with_reducible refine hfit.mono ?_); rintro e w0 ⟨rfl, hb0⟩; have B0 := hide hb0; have hnew := disk_new2 w0; clear hb0 hfit))
    go_ret
    exact ⟨rfl, B0.out⟩
  have h20' : decide ((20 : Int) < (cs.length : Int)) = false := by rw [decide_eq_false_iff_not]; omega
  by_cases h10 : 20 < ms.length
  · have h10' : decide ((20 : Int) < (ms.length : Int)) = true := by rw [decide_eq_true_eq]; omega
    go_enter Try.func5, Try.ntmps5
    go_wp2_with (go_at_call 12; ((with_reducible refine hfit.mono ?_); rintro e w0 ⟨rfl, hb0⟩; have B0 := hide hb0; have hnew := disk_new2 w0; clear hb0 hfit))
    go_ret
    exact ⟨rfl, B0.out⟩
  have h10' : decide ((20 : Int) < (ms.length : Int)) = false := by rw [decide_eq_false_iff_not]; omega
  have hsl := fun W => run_slice_one (P := Try.prog) W 34 33 #[.int .i64 1, .int .i64 0, .int .i64 0, .int .i64 0, .string ⟨#[]⟩, .string ⟨#[]⟩, .string ⟨#[]⟩, .slice none 0 0] #[.int .i64 0, .int .i64 0, .int .i64 0, .int .i64 0, .string ⟨#[]⟩, .string ⟨#[]⟩, .string ⟨#[]⟩, .slice none 0 0] 8 104 Try.underlying34 infoRec3 rfl (by omega) (by omega)
  have hsl6 : ∀ (r : Rc) (A6 : Option Addr) (c6 : Nat) (W : World), (Instr.buildSlice 34 1 #[(0, .agg #[.int .i64 (r.k : Int), .int .i64 (r.t : Int), .int .i64 (r.p : Int), .int .i64 (r.s : Int), .string r.b, .string r.a, .string r.i, .slice A6 r.ds.length c6])]).run Try.prog W = .ok (.slice (some ⟨W.heap.size, 0, none⟩) 1 1) (W.alloc (.cells #[.int .i64 (r.k : Int), .int .i64 (r.t : Int), .int .i64 (r.p : Int), .int .i64 (r.s : Int), .string r.b, .string r.a, .string r.i, .slice A6 r.ds.length c6] 33)) := fun r A6 c6 W => run_slice_one (P := Try.prog) W 34 33 #[.int .i64 (r.k : Int), .int .i64 (r.t : Int), .int .i64 (r.p : Int), .int .i64 (r.s : Int), .string r.b, .string r.a, .string r.i, .slice A6 r.ds.length c6] #[.int .i64 0, .int .i64 0, .int .i64 0, .int .i64 0, .string ⟨#[]⟩, .string ⟨#[]⟩, .string ⟨#[]⟩, .slice none 0 0] 8 104 Try.underlying34 infoRec3 rfl (by omega) (by omega)
  go_enter Try.func5, Try.ntmps5
  go_upto_region 9 with (first
    | (go_at_call 12; ((with_reducible refine hfit.mono ?_); rintro e w0 ⟨rfl, hb0⟩; have B0 := hide hb0; have hnew := disk_new2 w0; clear hb0 hfit))
    | (go_at_call 14; ((with_reducible refine hnew.mono ?_); rintro e w1 ⟨dg, d1, rfl, hm1, hd0, hd1, hdn, hb1⟩; have B1 := hide hb1; have D0 := hide hd0.at_; have hln := ld_new1 hm1 hd1 hdn (by omega); clear hb1 hm1 hd1 hd0 hnew))
    | (go_at_call 15; ((with_reducible refine hln.mono ?_); rintro e w2 ⟨g, d2, rfl, hap2, hv2, ho2⟩; have V2 := hide hv2; have O2 := hide ho2; have D2 := hide (hap2.new0 D0.out); clear hv2 ho2 hap2 hln)))
  go_loopw [8, 37] (fun nv i wr => ∃ (j : Nat) (X : Nat → Prop) (es : List Re) (d : Ds), j ≤ cs.length ∧ i = .int .i64 j ∧ es.length = j ∧ (∀ k, k < w0.heap.size → X k) ∧ (∀ k, nv.ownBlock = some k → w0.heap.size ≤ k) ∧ Gath wr X nv es ∧ d.regs[0]? = some (Rg.new 538) ∧ LiveD wr X dg d g 1 538 (0 + 700) 1 true (checkR :: es.map (·.1)) 1 ∧ Out (fun k => k < w0.heap.size) w1 wr) (fun _ i _ => cs.length - (intOf i).toNat)
  case atStart => exact ⟨0, _, [], d2, by omega, rfl, rfl, fun k hk => hk, (fun k e => by cases e), Gath.nil _ _, D2.out, V2.out, O2.out⟩
  case round =>
    obtain ⟨j, X, es, d, hj, rfl, hes, hX, hown, hg, hd0, hlv, ho⟩ := hrel
    obtain ⟨An, cn, rfl⟩ := hg.form
    have hbw : Below w.heap.size w wr := B0.out.trans ((B1.out.trans ((ho.below B1.out.size (fun k hk => hk)).mono (Nat.le_refl _))).mono B0.out.size)
    have V := hide hlv
    have HX := hide hX
    have O := hide ho
    have G := hide hg
    have D := hide hd0
    have HXL := hide hlv.live.xlt
    have HOWN := hide hown
    clear hlv hX ho hg hown hd0
    by_cases hlt : j < cs.length
    · obtain ⟨b, o, cap, he, A2, n, c2, hn, hrange, hrow⟩ := seed_at HV.out hbw hlt
      injection he with e1 e2 e3
      subst e1
      subst e3
      have HRG := hide hrange
      have XIS := hide infoSeed
      have HN := hide hn
      have HU := hide (HV.out.us cs[j] (List.getElem_mem hlt))
      have HBW := hide hbw
      have hj0 : (0 : Int) ≤ (j : Int) := by omega
      have hj1 : (j : Int) < (cs.length : Int) := by omega
      have HB5 := hide (hbw.alloc hbw.size (.cells #[.int .i64 cs[j].k, .int .i64 cs[j].t, .int .i64 cs[j].p, .int .i64 cs[j].s, .int .u8 (cs[j].b.toNat : Int), .int .u8 (cs[j].a.toNat : Int), .int .u8 (cs[j].i.toNat : Int), .slice A2 n c2] 36))
      have HROW := hide hrow
      have HR5 := hide ((show Rd wr (.slice A2 n c2) (u64s cs[j].ds) from hrow.more hbw.size).alloc (.cells #[.int .i64 cs[j].k, .int .i64 cs[j].t, .int .i64 cs[j].p, .int .i64 cs[j].s, .int .u8 (cs[j].b.toNat : Int), .int .u8 (cs[j].a.toNat : Int), .int .u8 (cs[j].i.toNat : Int), .slice A2 n c2] 36))
      have HSX := hide (Blk.new_ wr #[.int .i64 cs[j].k, .int .i64 cs[j].t, .int .i64 cs[j].p, .int .i64 cs[j].s, .int .u8 (cs[j].b.toNat : Int), .int .u8 (cs[j].a.toNat : Int), .int .u8 (cs[j].i.toNat : Int), .slice A2 n c2] 36 rfl)
      obtain ⟨r, hr⟩ : ∃ r, seedR cs[j] = r := ⟨_, rfl⟩
      have HR := hide hr
      have HO := hide (show r.Ok by rw [← hr]; exact seedR_ok cs[j] HU.out)
      clear hrange hrow hn hr hbw
      have hlen := frs_le V.out.live.ok (n := 21) (by rw [List.length_cons, List.length_map]; omega)
      have HFL := hide (show (frsR (checkR :: es.map (·.1))).length + r.frame.length ≤ 14336 by have := HO.out.most; omega)
      have HES := hide hes
      clear hlen hes
      by_cases h100 : 100 < n
      · have h100' : (100 : Int) < (n : Int) := by omega
        go_wp2_with ((with_reducible refine wpList_load_mid rfl 36 (.tmp 39) rfl b (o + j * 8) rfl [.int .i64 cs[j].k, .int .i64 cs[j].t, .int .i64 cs[j].p, .int .i64 cs[j].s, .int .u8 (cs[j].b.toNat : Int), .int .u8 (cs[j].a.toNat : Int), .int .u8 (cs[j].i.toNat : Int), .slice A2 n c2] _ ?_ Try.underlying36 ?_ ?_ ?_); exact HRG.out; rfl; exact XIS.out)
        go_ret
        exact ⟨rfl, HB5.out⟩
      have h100' : ¬ (100 : Int) < (n : Int) := by omega
      go_wp2_with (first
        | ((with_reducible refine wpList_load_mid rfl 36 (.tmp 39) rfl b (o + j * 8) rfl [.int .i64 cs[j].k, .int .i64 cs[j].t, .int .i64 cs[j].p, .int .i64 cs[j].s, .int .u8 (cs[j].b.toNat : Int), .int .u8 (cs[j].a.toNat : Int), .int .u8 (cs[j].i.toNat : Int), .slice A2 n c2] _ ?_ Try.underlying36 ?_ ?_ ?_); exact HRG.out; rfl; exact XIS.out)
        | (go_at_call 16; ((with_reducible refine (seed_in cs[j] A2 n c2 _ HN.out HR.out HR5.out).mono ?_); rintro e w6 ⟨A6, c6, rfl, R6, hb6⟩; have P6 := hide ((below_new wr (.cells #[.int .i64 cs[j].k, .int .i64 cs[j].t, .int .i64 cs[j].p, .int .i64 cs[j].s, .int .u8 (cs[j].b.toNat : Int), .int .u8 (cs[j].a.toNat : Int), .int .u8 (cs[j].i.toNat : Int), .slice A2 n c2] 36)).trans (hb6.mono (by simp))); have R7 := hide (R6.keep (w' := w6.alloc (.cells #[.int .i64 (r.k : Int), .int .i64 (r.t : Int), .int .i64 (r.p : Int), .int .i64 (r.s : Int), .string r.b, .string r.a, .string r.i, .slice A6 r.ds.length c6] 33)) (Y := fun k => wr.heap.size ≤ k) (fun p hp _ => (below_new w6 (.cells #[.int .i64 (r.k : Int), .int .i64 (r.t : Int), .int .i64 (r.p : Int), .int .i64 (r.s : Int), .string r.b, .string r.a, .string r.i, .slice A6 r.ds.length c6] 33)).cell hp) (below_new w6 (.cells #[.int .i64 (r.k : Int), .int .i64 (r.t : Int), .int .i64 (r.p : Int), .int .i64 (r.s : Int), .string r.b, .string r.a, .string r.i, .slice A6 r.ds.length c6] 33)).size (fun k _ h => Nat.le_trans (by simp) h.1)); have S6 := hide (HSX.out.below hb6); have HB6 := hide hb6; clear R6 hb6))
        | (at_builtin; refine wpList_gather rfl (.tmp 45) (.tmp 48) rfl rfl (G.out.below (P6.out.alloc P6.out.size (.cells #[.int .i64 (r.k : Int), .int .i64 (r.t : Int), .int .i64 (r.p : Int), .int .i64 (r.s : Int), .string r.b, .string r.a, .string r.i, .slice A6 r.ds.length c6] 33))) (by have := HES.out; omega) rfl (Blk.new_ w6 #[.int .i64 (r.k : Int), .int .i64 (r.t : Int), .int .i64 (r.p : Int), .int .i64 (r.s : Int), .string r.b, .string r.a, .string r.i, .slice A6 r.ds.length c6] _ rfl) (lo := wr.heap.size) (Nat.le_trans P6.out.size (by simp)) HXL.out R7.out ?_; intro v8 w8 hg8 hgr8 hov8; have P7 := hide (P6.out.alloc P6.out.size (.cells #[.int .i64 (r.k : Int), .int .i64 (r.t : Int), .int .i64 (r.p : Int), .int .i64 (r.s : Int), .string r.b, .string r.a, .string r.i, .slice A6 r.ds.length c6] 33)); have OG := hide (out_grown (X := fun k => k < w0.heap.size) hgr8 (fun k e => by have := HOWN.out k e; omega)); have V7 : LiveD (w6.alloc (.cells #[.int .i64 (r.k : Int), .int .i64 (r.t : Int), .int .i64 (r.p : Int), .int .i64 (r.s : Int), .string r.b, .string r.a, .string r.i, .slice A6 r.ds.length c6] 33)) (Ext X wr.heap.size (w6.alloc (.cells #[.int .i64 (r.k : Int), .int .i64 (r.t : Int), .int .i64 (r.p : Int), .int .i64 (r.s : Int), .string r.b, .string r.a, .string r.i, .slice A6 r.ds.length c6] 33)).heap.size) dg d g 1 538 (0 + 700) 1 true (checkR :: es.map (·.1)) 1 := (V.out.more P7.out (fun k hk => hk)); have V8 := hide (V7.grown (Nat.le_trans P6.out.size (by simp)) hgr8 G.out.inX); have G8 := hide hg8; have S8 := hide ((kept_grown hgr8).blk (S6.out.alloc (.cells #[.int .i64 (r.k : Int), .int .i64 (r.t : Int), .int .i64 (r.p : Int), .int .i64 (r.s : Int), .string r.b, .string r.a, .string r.i, .slice A6 r.ds.length c6] 33)) (fun e => Nat.lt_irrefl _ (HXL.out _ (G.out.inX _ e)))); have RG8 := hide S8.out.rng; have O8 := hide ((Out.of_below (X := fun k => k < w0.heap.size) P7.out).trans OG.out); have BW8 := O8.out.below (B := w.heap.size) HBW.out.size (fun k hk => Nat.lt_of_lt_of_le hk B0.out.size); have RD8 := hide (show Rd w8 (.slice A2 n c2) (u64s cs[j].ds) from (HROW.out.below BW8).more (Nat.le_trans HBW.out.size BW8.size)); have OW8 := hide (show ∀ k, v8.ownBlock = some k → w0.heap.size ≤ k from fun k e => by { rcases hov8 with h1 | h1; { rw [h1] at e; exact HOWN.out k e }; { rw [h1] at e; obtain rfl := Option.some.inj e; exact Nat.le_trans (Nat.le_trans B1.out.size O.out.size) P7.out.size } }); clear hg8 hgr8 hov8 V7 BW8)
        | ((with_reducible refine wpList_load_mid rfl 36 (.tmp 10) rfl wr.heap.size 0 rfl [.int .i64 cs[j].k, .int .i64 cs[j].t, .int .i64 cs[j].p, .int .i64 cs[j].s, .int .u8 (cs[j].b.toNat : Int), .int .u8 (cs[j].a.toNat : Int), .int .u8 (cs[j].i.toNat : Int), .slice A2 n c2] _ ?_ Try.underlying36 ?_ ?_ ?_); exact RG8.out; rfl; exact XIS.out)
        | (go_at_call 16; ((with_reducible refine (seed_in cs[j] A2 n c2 _ HN.out HR.out RD8.out).mono ?_); rintro e w9 ⟨A9, c9, rfl, R9, hb9⟩; have hap := ld_append (V8.out.below hb9) HO.out R9.rd HFL.out; unfold ptr at hap; have G9 := hide (G8.out.below hb9); have O9 := hide (O8.out.trans (Out.of_below hb9)); clear R9 hb9))
        | (go_at_call 17; ((with_reducible refine hap.mono ?_); rintro e wA ⟨rfl, hvA, hoA⟩; have VA := hide hvA; have GA := hide (G9.out.out hoA); have OA := hide (O9.out.trans (hoA.less (fun k hk => .inl (HX.out k hk)))); clear hvA hoA hap)))
      go_roundw
      case rel => exact ⟨j + 1, Ext X wr.heap.size w8.heap.size, es ++ [(r, .slice A6 r.ds.length c6)], d, by omega, by go_num, by simp [HES.out], fun k hk => .inl (HX.out k hk), OW8.out, GA.out, D.out, by rw [gath_fst, ← List.cons_append]; exact VA.out, O.out.trans OA.out⟩
      case measure => simp [intOf]; omega
    · obtain rfl : j = cs.length := by omega
      have hfl := ld_flush V.out (by omega)
      unfold ptr at hfl
      have HES := hide hes
      clear hes
      go_upto_region 19 with (go_at_call 20; ((with_reducible refine hfl.mono ?_); rintro e w3 ⟨d3, rfl, hap3, hv3, ho3⟩; have V3 := hide hv3; have D3 := hide (hap3.new0 D.out); have G3 := hide (G.out.out ho3); have O3 := hide (O.out.trans (ho3.less HX.out)); clear hv3 hap3 ho3 hfl))
      obtain ⟨L, hL⟩ : ∃ L, checkR :: es.map (·.1) = L := ⟨_, rfl⟩
      have hLl : L.length = es.length + 1 := by rw [← hL]; simp
      have HLL := hide hLl
      have HL := hide hL
      rw [hL] at V3
      have hok := V3.out.live.ok
      have HOK := hide hok
      have hes20 : es.length ≤ 20 := by have := HES.out; omega
      clear V O G D hLl hL hok
      go_loopw [60] (fun i wr => ∃ (j gn : Nat) (dn : Ds) (Y : Nat → Prop), j ≤ ms.length ∧ i = .int .i64 j ∧ (∀ k, X k → Y k) ∧ dn.regs[0]? = some (Rg.new 538) ∧ LiveD wr Y dg dn gn 1 538 (2000 + j * 700) 1 true L L.length ∧ Out X w3 wr) (fun i _ => ms.length - (intOf i).toNat)
      case atStart => exact ⟨0, g, d3, X, by omega, rfl, fun _ h => h, D3.out, V3.out.upto (by omega), Out.refl _ _⟩
      case round =>
        clear V3 D3
        obtain ⟨j, gn, dn, Y, hj, rfl, hXY, hd0, hlv, ho⟩ := hrel
        have hbw : Below w.heap.size w wr := B0.out.trans ((B1.out.trans (((O3.out.trans (ho.less HX.out)).below B1.out.size (fun k hk => hk)).mono (Nat.le_refl _))).mono B0.out.size)
        by_cases hlt : j < ms.length
        · obtain ⟨Al', cl', el, _, hcl⟩ := HV2.out
          rw [u64s_length] at el hcl
          obtain ⟨b2, o2, eAl, hb2, hrd2⟩ := hcl (by omega)
          injection el with ea eb ec
          subst ea
          subst ec
          subst eAl
          obtain ⟨mk, hmk⟩ : ∃ mk, ms[j] = mk := ⟨_, rfl⟩
          have hcz : wr.cell? ⟨b2, o2 + j, none⟩ = some (.int .u64 (mk : Int)) := (hbw.cell hb2).trans (hrd2 j _ (by rw [u64s_get _ j hlt, hmk]))
          have hj0 : (0 : Int) ≤ (j : Int) := by omega
          have hj1 : (j : Int) < (ms.length : Int) := by omega
          have hcr := ld_crash hlv (by omega) mk
          rw [List.take_length] at hcr
          have D := hide hd0
          have HXY := hide hXY
          have O := hide ho
          have GR := hide (G3.out.out ho)
          clear hmk hbw hrd2 hcl hb2 hd0 hlv hXY ho
          go_wp2_with (first
            | (go_at_call 22; ((with_reducible refine hcr.mono ?_); rintro e w4 ⟨rfl, hc4, ho4⟩; have D4 := hide (crash_new0 D.out (bitOf mk)); have hop := ld_open1 hc4 (by omega); have O4 := hide (O.out.trans (ho4.less HXY.out)); have G4 := hide (GR.out.out (ho4.less HXY.out)); clear hc4 ho4 hcr))
            | (go_at_call 23; ((with_reducible refine hop.mono ?_); rintro e w5 ⟨g5, v5, E5, d5, rfl, hap5, hv5, he5, _, ho5⟩; have D5 := hide (hap5.new0 D4.out); have O5 := hide (O4.out.trans (ho5.less HXY.out)); have G5 := hide (G4.out.out (ho5.less HXY.out)); obtain ⟨AE, cE, evE, _⟩ := he5.1.form; rw [HLL.out] at evE; subst evE; obtain ⟨vJ, wJ, hrun, hrec, hbJ⟩ := joined G5.out (by omega); rw [HL.out] at hrec; have V5 := hide ((hv5.below hbJ).upto (k' := 2000 + (j + 1) * 700) (by omega)); have OJ := hide (O5.out.trans (Out.of_below hbJ)); have hs := starts_any (he5.below hbJ) hrec HOK.out (by rw [HLL.out]; omega); rw [show startsB L L = true from startsB_iff.2 ⟨Nat.le_refl _, (List.take_length ..).symm⟩] at hs; clear hap5 hv5 he5 ho5 hrec hbJ hop))
            | (at_builtin; go_loud (refine wpList_run (by first | rfl | simp [Region.wanted, yielded]) (.tmp 86) (.tmp 87) 34 rfl rfl rfl hrun ?_))
            | (go_at_call 24; ((with_reducible refine hs.mono ?_); rintro e w6 ⟨rfl, hb6⟩; have V6 := hide (V5.out.below hb6); have O6 := hide (OJ.out.trans (Out.of_below hb6)); clear hb6 hs)))
          go_roundw
          case rel => exact ⟨j + 1, g5, d5, _, by omega, by go_num, fun k hk => .inl (HXY.out k hk), D5.out, V6.out, O6.out⟩
          case measure => simp [intOf]; omega
        · obtain rfl : j = ms.length := by omega
          have hno := open_none (hlv.new0 hd0).1 (hlv.new0 hd0).2
          have HBW := hide hbw
          clear hlv hd0 hbw ho hXY
          go_wp2_with (go_at_call 23; ((with_reducible refine hno.mono ?_); rintro e w4 ⟨rfl, hb4⟩; have B4 := hide (HBW.out.trans (hb4.mono HBW.out.size)); clear hb4 hno))
          go_ret
          exact ⟨rfl, B4.out⟩
end Go.Proofs.Ytlmoiepbnnfebaa
