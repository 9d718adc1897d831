/-
  LaneHoles' walk.
-/
import Derived.Test.YtlmoiepbnnfebaaHol
import Derived.WalkKit
namespace Go.Proofs.Ytlmoiepbnnfebaa
open Go.RowKit
set_option maxRecDepth 20000
set_option linter.unusedSimpArgs false
set_option linter.unusedVariables false

set_option maxHeartbeats 8000000 in
theorem holes_walk (v : Value) (cs : List SeedD) (v2 : Value) (ms : List SeedD) (x : Int) (w : World) (hv : SeedRow w w.heap.size v cs) (hv2 : SeedRow w w.heap.size v2 ms) (_ : (Lit.int .i64 x).wf = true) :
    Calls Try.prog 7 #[v, v2, .int .i64 x] w fun e w' => e = .returned (.bool true) ∧ Below w.heap.size w w' := by
  obtain ⟨Av, cv, ev, _, _⟩ := id hv
  obtain ⟨Am, cm, em, _, _⟩ := id hv2
  subst ev
  subst em
  obtain ⟨m, hm, hand⟩ := and63x x
  have HV := hide hv
  have HV2 := hide hv2
  have hfit := fit_any w
  have hsl := fun W => run_slice_one (P := Try.prog) W 34 33 #[.int .i64 1, .int .i64 0, .int .i64 0, .int .i64 0, .string ⟨#[]⟩, .string ⟨#[]⟩, .string ⟨#[]⟩, .slice none 0 0] #[.int .i64 0, .int .i64 0, .int .i64 0, .int .i64 0, .string ⟨#[]⟩, .string ⟨#[]⟩, .string ⟨#[]⟩, .slice none 0 0] 8 104 Try.underlying34 infoRec3 rfl (by omega) (by omega)
  clear hv hv2
  by_cases h20 : 20 < cs.length
  · have h20' : decide ((20 : Int) < (cs.length : Int)) = true := by rw [decide_eq_true_eq]; omega
    go_enter Try.func7, Try.ntmps7
    go_wp2_with (go_at_call 12; ((with_reducible refine hfit.mono ?_); rintro e w0 ⟨rfl, hb0⟩; have B0 := hide hb0; have hnew := disk_new1 w0; clear hb0 hfit))
    go_ret
    exact ⟨rfl, B0.out⟩
  have h20' : decide ((20 : Int) < (cs.length : Int)) = false := by rw [decide_eq_false_iff_not]; omega
  by_cases h10 : 10 < ms.length
  · have h10' : decide ((10 : Int) < (ms.length : Int)) = true := by rw [decide_eq_true_eq]; omega
    go_enter Try.func7, Try.ntmps7
    go_wp2_with (go_at_call 12; ((with_reducible refine hfit.mono ?_); rintro e w0 ⟨rfl, hb0⟩; have B0 := hide hb0; have hnew := disk_new1 w0; clear hb0 hfit))
    go_ret
    exact ⟨rfl, B0.out⟩
  have h10' : decide ((10 : Int) < (ms.length : Int)) = false := by rw [decide_eq_false_iff_not]; omega
  go_enter Try.func7, Try.ntmps7
  go_upto_region 9 with (first
    | (go_at_call 12; ((with_reducible refine hfit.mono ?_); rintro e w0 ⟨rfl, hb0⟩; have B0 := hide hb0; have hnew := disk_new1 w0; clear hb0 hfit))
    | (go_at_call 14; ((with_reducible refine hnew.mono ?_); rintro e w1 ⟨dg, d, rfl, hm1, hd1, hdn, hb1⟩; have B1 := hide hb1; have hln := la_new0 hm1 hd1 hdn (by omega); clear hb1 hm1 hd1 hnew))
    | (go_at_call 15; ((with_reducible refine hln.mono ?_); rintro e w2 ⟨g, rfl, hv2, ho2⟩; have V2 := hide hv2; have O2 := hide ho2; clear hv2 ho2 hln)))
  have BK := hide (below_new w2 (.cells #[.int .i64 1, .int .i64 0, .int .i64 0, .int .i64 0, .string ⟨#[]⟩, .string ⟨#[]⟩, .string ⟨#[]⟩, .slice none 0 0] 33))
  have SZ2 := hide (Nat.le_trans B1.out.size O2.out.size)
  have hsl6 : ∀ (r : Rc) (A6 : Option Addr) (c6 : Nat) (W : World), (Instr.buildSlice 34 1 #[(0, .agg #[.int .i64 (r.k : Int), .int .i64 (r.t : Int), .int .i64 (r.p : Int), .int .i64 (r.s : Int), .string r.b, .string r.a, .string r.i, .slice A6 r.ds.length c6])]).run Try.prog W = .ok (.slice (some ⟨W.heap.size, 0, none⟩) 1 1) (W.alloc (.cells #[.int .i64 (r.k : Int), .int .i64 (r.t : Int), .int .i64 (r.p : Int), .int .i64 (r.s : Int), .string r.b, .string r.a, .string r.i, .slice A6 r.ds.length c6] 33)) := fun r A6 c6 W => run_slice_one (P := Try.prog) W 34 33 #[.int .i64 (r.k : Int), .int .i64 (r.t : Int), .int .i64 (r.p : Int), .int .i64 (r.s : Int), .string r.b, .string r.a, .string r.i, .slice A6 r.ds.length c6] #[.int .i64 0, .int .i64 0, .int .i64 0, .int .i64 0, .string ⟨#[]⟩, .string ⟨#[]⟩, .string ⟨#[]⟩, .slice none 0 0] 8 104 Try.underlying34 infoRec3 rfl (by omega) (by omega)
  go_loopw [10, 44] (fun nv i wr => ∃ (j : Nat) (X : Nat → Prop) (es : List Re), j ≤ cs.length ∧ i = .int .i64 j ∧ es.length = j + 1 ∧ (∀ k, k < w0.heap.size → X k) ∧ (∀ k, nv.ownBlock = some k → w0.heap.size ≤ k) ∧ Gath wr X nv es ∧ Live wr X dg g 0 538 (0 + 700) 1 true (es.map (·.1)) 1 ∧ Out (fun k => k < w0.heap.size) w1 wr) (fun _ i _ => cs.length - (intOf i).toNat)
  case atStart => exact ⟨0, Ext (fun k => k < w0.heap.size) w2.heap.size (w2.heap.size + 1), [(checkR, .slice none 0 0)], by omega, rfl, rfl, fun k hk => .inl hk, fun k e => by injection e with e; subst e; exact SZ2.out, gath_check w2 _ (.inr ⟨Nat.le_refl _, Nat.lt_succ_self _⟩), V2.out.more BK.out (fun k hk => hk.imp id (fun h => ⟨h.1, by simpa using h.2⟩)), O2.out.trans (Out.of_below BK.out)⟩
  case round =>
    obtain ⟨j, X, es, hj, rfl, hes, hX, hown, hg, hlv, ho⟩ := hrel
    obtain ⟨An, cn, rfl⟩ := hg.form
    have hbw : Below w.heap.size w wr := B0.out.trans ((B1.out.trans ((ho.below B1.out.size (fun k hk => hk)).mono (Nat.le_refl _))).mono B0.out.size)
    have V := hide hlv
    have HX := hide hX
    have O := hide ho
    have G := hide hg
    have HXL := hide hlv.xlt
    have HOWN := hide hown
    clear hlv hX ho hg hown
    by_cases hlt : j < cs.length
    · obtain ⟨b, o, cap, he, A2, n, c2, hn, hrange, hrow⟩ := seed_at HV.out hbw hlt
      injection he with e1 e2 e3
      subst e1
      subst e3
      have HRG := hide hrange
      have XIS := hide infoSeed
      have HN := hide hn
      have HU := hide (HV.out.us cs[j] (List.getElem_mem hlt))
      have HBW := hide hbw
      have hj0 : (0 : Int) ≤ (j : Int) := by omega
      have hj1 : (j : Int) < (cs.length : Int) := by omega
      have HB5 := hide (hbw.alloc hbw.size (.cells #[.int .i64 cs[j].k, .int .i64 cs[j].t, .int .i64 cs[j].p, .int .i64 cs[j].s, .int .u8 (cs[j].b.toNat : Int), .int .u8 (cs[j].a.toNat : Int), .int .u8 (cs[j].i.toNat : Int), .slice A2 n c2] 36))
      have HROW := hide hrow
      have HR5 := hide ((show Rd wr (.slice A2 n c2) (u64s cs[j].ds) from hrow.more hbw.size).alloc (.cells #[.int .i64 cs[j].k, .int .i64 cs[j].t, .int .i64 cs[j].p, .int .i64 cs[j].s, .int .u8 (cs[j].b.toNat : Int), .int .u8 (cs[j].a.toNat : Int), .int .u8 (cs[j].i.toNat : Int), .slice A2 n c2] 36))
      have HSX := hide (Blk.new_ wr #[.int .i64 cs[j].k, .int .i64 cs[j].t, .int .i64 cs[j].p, .int .i64 cs[j].s, .int .u8 (cs[j].b.toNat : Int), .int .u8 (cs[j].a.toNat : Int), .int .u8 (cs[j].i.toNat : Int), .slice A2 n c2] 36 rfl)
      obtain ⟨r, hr⟩ : ∃ r, seedR cs[j] = r := ⟨_, rfl⟩
      have HR := hide hr
      have HO := hide (show r.Ok by rw [← hr]; exact seedR_ok cs[j] HU.out)
      clear hrange hrow hn hr hbw
      have hlen := frs_le V.out.ok (n := 21) (by rw [List.length_map]; omega)
      have HFL := hide (show (frsR (es.map (·.1))).length + r.frame.length ≤ 14336 by have := HO.out.most; omega)
      have HES := hide hes
      clear hlen hes
      by_cases h100 : 100 < n
      · have h100' : (100 : Int) < (n : Int) := by omega
        go_wp2_with ((with_reducible refine wpList_load_mid rfl 36 (.tmp 46) rfl b (o + j * 8) rfl [.int .i64 cs[j].k, .int .i64 cs[j].t, .int .i64 cs[j].p, .int .i64 cs[j].s, .int .u8 (cs[j].b.toNat : Int), .int .u8 (cs[j].a.toNat : Int), .int .u8 (cs[j].i.toNat : Int), .slice A2 n c2] _ ?_ Try.underlying36 ?_ ?_ ?_); exact HRG.out; rfl; exact XIS.out)
        go_ret
        exact ⟨rfl, HB5.out⟩
      have h100' : ¬ (100 : Int) < (n : Int) := by omega
      go_wp2_with (first
        | ((with_reducible refine wpList_load_mid rfl 36 (.tmp 46) rfl b (o + j * 8) rfl [.int .i64 cs[j].k, .int .i64 cs[j].t, .int .i64 cs[j].p, .int .i64 cs[j].s, .int .u8 (cs[j].b.toNat : Int), .int .u8 (cs[j].a.toNat : Int), .int .u8 (cs[j].i.toNat : Int), .slice A2 n c2] _ ?_ Try.underlying36 ?_ ?_ ?_); exact HRG.out; rfl; exact XIS.out)
        | (go_at_call 16; ((with_reducible refine (seed_in cs[j] A2 n c2 _ HN.out HR.out HR5.out).mono ?_); rintro e w6 ⟨A6, c6, rfl, R6, hb6⟩; have P6 := hide ((below_new wr (.cells #[.int .i64 cs[j].k, .int .i64 cs[j].t, .int .i64 cs[j].p, .int .i64 cs[j].s, .int .u8 (cs[j].b.toNat : Int), .int .u8 (cs[j].a.toNat : Int), .int .u8 (cs[j].i.toNat : Int), .slice A2 n c2] 36)).trans (hb6.mono (by simp))); have R7 := hide (R6.keep (w' := w6.alloc (.cells #[.int .i64 (r.k : Int), .int .i64 (r.t : Int), .int .i64 (r.p : Int), .int .i64 (r.s : Int), .string r.b, .string r.a, .string r.i, .slice A6 r.ds.length c6] 33)) (Y := fun k => wr.heap.size ≤ k) (fun p hp _ => (below_new w6 (.cells #[.int .i64 (r.k : Int), .int .i64 (r.t : Int), .int .i64 (r.p : Int), .int .i64 (r.s : Int), .string r.b, .string r.a, .string r.i, .slice A6 r.ds.length c6] 33)).cell hp) (below_new w6 (.cells #[.int .i64 (r.k : Int), .int .i64 (r.t : Int), .int .i64 (r.p : Int), .int .i64 (r.s : Int), .string r.b, .string r.a, .string r.i, .slice A6 r.ds.length c6] 33)).size (fun k _ h => Nat.le_trans (by simp) h.1)); have S6 := hide (HSX.out.below hb6); have HB6 := hide hb6; clear R6 hb6))
        | (at_builtin; refine wpList_gather rfl (.tmp 52) (.tmp 55) rfl rfl (G.out.below (P6.out.alloc P6.out.size (.cells #[.int .i64 (r.k : Int), .int .i64 (r.t : Int), .int .i64 (r.p : Int), .int .i64 (r.s : Int), .string r.b, .string r.a, .string r.i, .slice A6 r.ds.length c6] 33))) (by have := HES.out; omega) rfl (Blk.new_ w6 #[.int .i64 (r.k : Int), .int .i64 (r.t : Int), .int .i64 (r.p : Int), .int .i64 (r.s : Int), .string r.b, .string r.a, .string r.i, .slice A6 r.ds.length c6] _ rfl) (lo := wr.heap.size) (Nat.le_trans P6.out.size (by simp)) HXL.out R7.out ?_; intro v8 w8 hg8 hgr8 hov8; have P7 := hide (P6.out.alloc P6.out.size (.cells #[.int .i64 (r.k : Int), .int .i64 (r.t : Int), .int .i64 (r.p : Int), .int .i64 (r.s : Int), .string r.b, .string r.a, .string r.i, .slice A6 r.ds.length c6] 33)); have OG := hide (out_grown (X := fun k => k < w0.heap.size) hgr8 (fun k e => by have := HOWN.out k e; omega)); have V7 : Live (w6.alloc (.cells #[.int .i64 (r.k : Int), .int .i64 (r.t : Int), .int .i64 (r.p : Int), .int .i64 (r.s : Int), .string r.b, .string r.a, .string r.i, .slice A6 r.ds.length c6] 33)) (Ext X wr.heap.size (w6.alloc (.cells #[.int .i64 (r.k : Int), .int .i64 (r.t : Int), .int .i64 (r.p : Int), .int .i64 (r.s : Int), .string r.b, .string r.a, .string r.i, .slice A6 r.ds.length c6] 33)).heap.size) dg g 0 538 (0 + 700) 1 true (es.map (·.1)) 1 := (by rw [sz_alloc]; exact V.out.box P6.out _); have V8 := hide (V7.grown (Nat.le_trans P6.out.size (by simp)) hgr8 G.out.inX); have G8 := hide hg8; have S8 := hide ((kept_grown hgr8).blk (S6.out.alloc (.cells #[.int .i64 (r.k : Int), .int .i64 (r.t : Int), .int .i64 (r.p : Int), .int .i64 (r.s : Int), .string r.b, .string r.a, .string r.i, .slice A6 r.ds.length c6] 33)) (fun e => Nat.lt_irrefl _ (HXL.out _ (G.out.inX _ e)))); have RG8 := hide S8.out.rng; have O8 := hide ((Out.of_below (X := fun k => k < w0.heap.size) P7.out).trans OG.out); have BW8 := O8.out.below (B := w.heap.size) HBW.out.size (fun k hk => Nat.lt_of_lt_of_le hk B0.out.size); have RD8 := hide (show Rd w8 (.slice A2 n c2) (u64s cs[j].ds) from (HROW.out.below BW8).more (Nat.le_trans HBW.out.size BW8.size)); have OW8 := hide (show ∀ k, v8.ownBlock = some k → w0.heap.size ≤ k from fun k e => by { rcases hov8 with h1 | h1; { rw [h1] at e; exact HOWN.out k e }; { rw [h1] at e; obtain rfl := Option.some.inj e; exact Nat.le_trans (Nat.le_trans B1.out.size O.out.size) P7.out.size } }); clear hg8 hgr8 hov8 V7 BW8)
        | ((with_reducible refine wpList_load_mid rfl 36 (.tmp 12) rfl wr.heap.size 0 rfl [.int .i64 cs[j].k, .int .i64 cs[j].t, .int .i64 cs[j].p, .int .i64 cs[j].s, .int .u8 (cs[j].b.toNat : Int), .int .u8 (cs[j].a.toNat : Int), .int .u8 (cs[j].i.toNat : Int), .slice A2 n c2] _ ?_ Try.underlying36 ?_ ?_ ?_); exact RG8.out; rfl; exact XIS.out)
        | (go_at_call 16; ((with_reducible refine (seed_in cs[j] A2 n c2 _ HN.out HR.out RD8.out).mono ?_); rintro e w9 ⟨A9, c9, rfl, R9, hb9⟩; have hap := la_append (V8.out.below hb9) HO.out R9.rd HFL.out; unfold ptr at hap; have G9 := hide (G8.out.below hb9); have O9 := hide (O8.out.trans (Out.of_below hb9)); clear R9 hb9))
        | (go_at_call 17; ((with_reducible refine hap.mono ?_); rintro e wA ⟨rfl, hvA, hoA⟩; have VA := hide hvA; have GA := hide (G9.out.out hoA); have OA := hide (O9.out.trans (hoA.less (fun k hk => .inl (HX.out k hk)))); clear hvA hoA hap)))
      go_roundw
      case rel => exact ⟨j + 1, Ext X wr.heap.size w8.heap.size, es ++ [(r, .slice A6 r.ds.length c6)], by omega, by go_num, by simp [HES.out], fun k hk => .inl (HX.out k hk), OW8.out, GA.out, by rw [gath_fst]; exact VA.out, O.out.trans OA.out⟩
      case measure => simp [intOf]; omega
    · obtain rfl : j = cs.length := by omega
      obtain ⟨all, hall⟩ : ∃ all, es.map (·.1) = all := ⟨_, rfl⟩
      have hall2 : all.length = cs.length + 1 := by rw [← hall, List.length_map, hes]
      rw [hall] at V
      obtain ⟨L, hL⟩ : ∃ L, (frsR all).length = L := ⟨_, rfl⟩
      have hL2 := frs_le V.out.ok (n := 21) (by omega)
      rw [hL] at hL2
      obtain ⟨q, hq⟩ : ∃ q, (L + 55) / 56 = q := ⟨_, rfl⟩
      have hq1 : ((L : Int) + 56 - 1).tdiv 56 = (q : Int) := by rw [Int.tdiv_eq_ediv_of_nonneg (by omega)]; omega
      have hq2 : ((L : Int) + 55).tdiv 56 = (q : Int) := by rw [Int.tdiv_eq_ediv_of_nonneg (by omega)]; omega
      have hL3 : (L : Int) ≤ 10000 := by omega
      have hq3 : (q : Int) < 9223372036854775807 := by omega
      have R0 := G.out.recs
      rw [hall] at R0
      have RN := hide R0
      have hsz := size_any RN.out V.out.ok (by omega)
      rw [hL] at hsz
      have hslt : ∀ k, k < w0.heap.size → X k := HX.out
      have hcsl : cs.length ≤ 20 := by omega
      have HES := hide hes
      have HALL := hide hall2
      clear R0 hq hL hL2 hes hall2 hall
      go_upto_region 18 with (first
        | (go_at_call 18; ((with_reducible refine hsz.mono ?_); rintro e w3 ⟨rfl, hb3⟩; have harm := arm0 (V.out.below hb3) (q : Int) (by omega); have R3 := hide (RN.out.below hb3); have O3 := hide (O.out.trans (Out.of_below hb3)); clear hb3 hsz))
        | (go_at_call 25; ((with_reducible refine harm.mono ?_); rintro e w4 ⟨rfl, hv4, ho4⟩; have hfl := hol_flush hv4 (by omega); have R4 := hide (R3.out.out ho4); have O4 := hide (O3.out.trans (ho4.less HX.out)); clear hv4 ho4 harm))
        | (go_at_call 20; ((with_reducible refine hfl.mono ?_); rintro e w5 ⟨ok, rfl, hv5, ho5⟩; have V5 := hide hv5; have R5 := hide (R4.out.out ho5); have O5 := hide (O4.out.trans (ho5.less HX.out)); clear hv5 ho5 hfl)))
      go_upto_region 22 with (first
        | (go_at_call 22; ((with_reducible refine (hol_crash_z V5.out (by have := HALL.out; omega) (by omega) (bits_nat _ _ _)).mono ?_); rintro e w6 ⟨rfl, Y6, s6, hY6, hc6, ho6⟩; have hop := hol_open hc6 (by omega); have R6 := hide (R5.out.out ho6); have HY6 := hide hY6; have O6 := hide (O5.out.trans (ho6.less HX.out)); clear hc6 ho6 hY6))
        | (go_at_call 23; ((with_reducible refine hop.mono ?_); rintro e w7 ⟨g7, v7, E7, jj, rfl, hj1, hj2, hv7, he7, ho7⟩; have V7 := hide hv7; have O7 := hide (O6.out.trans (ho7.less (fun k hk => HY6.out k (HX.out k hk)))); have R7 := (R6.out.sub (Y := Y6) (fun k _ hk => HY6.out k hk)).out ho7; obtain ⟨AE, cE, rfl, _⟩ := he7.1.form; have hs := starts_any he7 R7 hv7.ok (by rw [List.length_take]; have := HALL.out; omega); rw [starts_take _ _ hj2, List.length_take, Nat.min_eq_left hj2] at hs; rw [List.length_take, Nat.min_eq_left hj2]; have HJ2 := hide hj2; clear hv7 ho7 he7 R7 hj1 hj2 hop))
        | (go_at_call 24; ((with_reducible refine hs.mono ?_); rintro e w8 ⟨rfl, hb8⟩; have V8 := hide (V7.out.below hb8); have O8 := hide (O7.out.trans (Out.of_below hb8)); clear hb8 hs)))
      clear V V5 R3 R4 R5 R6 RN O O3 O4 O5 O6 O7 hslt hq1 hq2 hq3 hL3 G V7
      go_upto_region 23 with fail
      go_loopw [94] (fun i wr => ∃ (j s : Nat) (X : Nat → Prop), j ≤ ms.length ∧ i = .int .i64 j ∧ (∀ k, k < w0.heap.size → X k) ∧ Live wr X dg g7 0 538 2000 1 true (all.take jj ++ (ms.take j).map seedR) s ∧ Out (fun k => k < w0.heap.size) w1 wr) (fun i _ => ms.length - (intOf i).toNat)
      case atStart => exact ⟨0, jj, fun k => Y6 k ∨ E7 k, by omega, rfl, fun k hk => .inl (HY6.out k (HX.out k hk)), by rw [List.take_zero, List.map_nil, List.append_nil]; exact V8.out.upto (by omega), O8.out⟩
      case round =>
        clear V8 O8 HX HY6
        obtain ⟨j, s, X, hj, rfl, hX, hlv, ho⟩ := hrel
        have hbw : Below w.heap.size w wr := B0.out.trans ((B1.out.trans ((ho.below B1.out.size (fun k hk => hk)).mono (Nat.le_refl _))).mono B0.out.size)
        have V := hide hlv
        have HX := hide hX
        have O := hide ho
        have hall3 := HALL.out
        clear hlv hX ho
        by_cases hlt : j < ms.length
        · obtain ⟨b, o, cap, he, A2, n, c2, hn, hrange, hrow⟩ := seed_at HV2.out hbw hlt
          injection he with e1 e2 e3
          subst e1
          subst e3
          have HRG := hide hrange
          have XIS := hide infoSeed
          have HN := hide hn
          have HU := hide (HV2.out.us ms[j] (List.getElem_mem hlt))
          have HBW := hide hbw
          have hj0 : (0 : Int) ≤ (j : Int) := by omega
          have hj1 : (j : Int) < (ms.length : Int) := by omega
          have HB5 := hide (hbw.alloc hbw.size (.cells #[.int .i64 ms[j].k, .int .i64 ms[j].t, .int .i64 ms[j].p, .int .i64 ms[j].s, .int .u8 (ms[j].b.toNat : Int), .int .u8 (ms[j].a.toNat : Int), .int .u8 (ms[j].i.toNat : Int), .slice A2 n c2] 36))
          have HROW := hide hrow
          have HR5 := hide ((show Rd wr (.slice A2 n c2) (u64s ms[j].ds) from hrow.more hbw.size).alloc (.cells #[.int .i64 ms[j].k, .int .i64 ms[j].t, .int .i64 ms[j].p, .int .i64 ms[j].s, .int .u8 (ms[j].b.toNat : Int), .int .u8 (ms[j].a.toNat : Int), .int .u8 (ms[j].i.toNat : Int), .slice A2 n c2] 36))
          have HSX := hide (Blk.new_ wr #[.int .i64 ms[j].k, .int .i64 ms[j].t, .int .i64 ms[j].p, .int .i64 ms[j].s, .int .u8 (ms[j].b.toNat : Int), .int .u8 (ms[j].a.toNat : Int), .int .u8 (ms[j].i.toNat : Int), .slice A2 n c2] 36 rfl)
          obtain ⟨r, hr⟩ : ∃ r, seedR ms[j] = r := ⟨_, rfl⟩
          have HR := hide hr
          have HO := hide (show r.Ok by rw [← hr]; exact seedR_ok ms[j] HU.out)
          clear hrange hrow hn hr hbw
          have hlen := frs_le V.out.ok (n := 31) (by rw [List.length_append, List.length_map, List.length_take, List.length_take]; omega)
          have HFL := hide (show (frsR (all.take jj ++ (ms.take j).map seedR)).length + r.frame.length ≤ 14336 by have := HO.out.most; omega)
          have HTK := hide (show all.take jj ++ (ms.take (j + 1)).map seedR = (all.take jj ++ (ms.take j).map seedR) ++ [r] by rw [List.take_succ_eq_append_getElem hlt, List.map_append, ← List.append_assoc, ← HR.out]; rfl)
          clear hlen hall3
          by_cases h100 : 100 < n
          · have h100' : (100 : Int) < (n : Int) := by omega
            go_wp2_with ((with_reducible refine wpList_load_mid rfl 36 (.tmp 96) rfl b (o + j * 8) rfl [.int .i64 ms[j].k, .int .i64 ms[j].t, .int .i64 ms[j].p, .int .i64 ms[j].s, .int .u8 (ms[j].b.toNat : Int), .int .u8 (ms[j].a.toNat : Int), .int .u8 (ms[j].i.toNat : Int), .slice A2 n c2] _ ?_ Try.underlying36 ?_ ?_ ?_); exact HRG.out; rfl; exact XIS.out)
            go_ret
            exact ⟨rfl, HB5.out⟩
          have h100' : ¬ (100 : Int) < (n : Int) := by omega
          go_wp2_with (first
            | ((with_reducible refine wpList_load_mid rfl 36 (.tmp 96) rfl b (o + j * 8) rfl [.int .i64 ms[j].k, .int .i64 ms[j].t, .int .i64 ms[j].p, .int .i64 ms[j].s, .int .u8 (ms[j].b.toNat : Int), .int .u8 (ms[j].a.toNat : Int), .int .u8 (ms[j].i.toNat : Int), .slice A2 n c2] _ ?_ Try.underlying36 ?_ ?_ ?_); exact HRG.out; rfl; exact XIS.out)
            | (go_at_call 16; ((with_reducible refine (seed_in ms[j] A2 n c2 _ HN.out HR.out HR5.out).mono ?_); rintro e w9 ⟨A9, c9, rfl, R9, hb9⟩; have P9 := hide ((below_new wr (.cells #[.int .i64 ms[j].k, .int .i64 ms[j].t, .int .i64 ms[j].p, .int .i64 ms[j].s, .int .u8 (ms[j].b.toNat : Int), .int .u8 (ms[j].a.toNat : Int), .int .u8 (ms[j].i.toNat : Int), .slice A2 n c2] 36)).trans (hb9.mono (by simp))); have hap := la_append (V.out.below P9.out) HO.out R9.rd HFL.out; unfold ptr at hap; clear R9 hb9))
            | (go_at_call 17; ((with_reducible refine hap.mono ?_); rintro e wA ⟨rfl, hvA, hoA⟩; have VA := hide hvA; have OA := hide (O.out.trans ((Out.of_below P9.out).trans (hoA.less HX.out))); clear hvA hoA hap)))
          go_roundw
          case rel => exact ⟨j + 1, s, X, by omega, by go_num, HX.out, by rw [HTK.out]; exact VA.out, OA.out⟩
          case measure => simp [intOf]; omega
        · obtain rfl : j = ms.length := by omega
          rw [List.take_length] at V
          obtain ⟨al, hal⟩ : ∃ al, all.take jj ++ ms.map seedR = al := ⟨_, rfl⟩
          have hall4 : al.length = jj + ms.length := by rw [← hal, List.length_append, List.length_map, List.length_take, Nat.min_eq_left HJ2.out]
          rw [hal] at V
          have HAL := hide hal
          have hjj : (jj : Int) ≤ 21 := by have := HJ2.out; omega
          have hms : (ms.length : Int) ≤ 10 := by rw [decide_eq_false_iff_not] at h10'; omega
          have hln : (al.length : Int) = (jj : Int) + (ms.length : Int) := by omega
          have hfl := la_flush_up V.out (by omega)
          clear hal hall3 hall4
          go_upto_region 37 with (first
            | (go_at_call 20; ((with_reducible refine hfl.mono ?_); rintro e w9 ⟨rfl, hv9, ho9⟩; have hcr := la_crash0 hv9 (by omega); rw [List.take_length] at hcr; have O9 := hide (O.out.trans (ho9.less HX.out)); clear hv9 ho9 hfl))
            | (go_at_call 22; ((with_reducible refine hcr.mono ?_); rintro e wA ⟨rfl, YA, hYA, hcA, _, hoA⟩; have hop := hol_open hcA (by omega); have HYA := hide hYA; have OA := hide (O9.out.trans (hoA.less HX.out)); clear hcA hoA hYA hcr))
            | (go_at_call 23; ((with_reducible refine hop.mono ?_); rintro e wB ⟨gB, vB, EB, jB, rfl, hjB1, hjB2, _, heB, hoB⟩; rw [List.take_of_length_le hjB1] at heB; have OB := hide (OA.out.trans (hoB.less (fun k hk => HYA.out k (HX.out k hk)))); have EB1 := hide heB; obtain ⟨AO, cO, rfl, _⟩ := heB.1.form; clear heB hoB hjB1 hjB2 hop)))
          go_upto_region 38 with fail
          have BWB := hide (B0.out.trans ((B1.out.trans ((OB.out.below B1.out.size (fun k hk => hk)).mono (Nat.le_refl _))).mono B0.out.size))
          clear O V HX HYA
          go_loopw [137] (fun i wr => ∃ j : Nat, j ≤ ms.length ∧ i = .int .i64 j ∧ Below wB.heap.size wB wr) (fun i _ => ms.length - (intOf i).toNat)
          case atStart => exact ⟨0, by omega, rfl, Below.refl _ _⟩
          case round =>
            obtain ⟨j, hj, rfl, hbB⟩ := hrel
            have hbw : Below w.heap.size w wr := BWB.out.trans (hbB.mono BWB.out.size)
            by_cases hlt : j < ms.length
            · obtain ⟨b, o, cap, he, A2, n, c2, hn, hrange, hrow⟩ := seed_at HV2.out hbw hlt
              injection he with e1 e2 e3
              subst e1
              subst e3
              have HRG := hide hrange
              have XIS := hide infoSeed
              have HN := hide hn
              have HU := hide (HV2.out.us ms[j] (List.getElem_mem hlt))
              have HBW := hide hbw
              have hj0 : (0 : Int) ≤ (j : Int) := by omega
              have hj1 : (j : Int) < (ms.length : Int) := by omega
              have HB5 := hide (hbw.alloc hbw.size (.cells #[.int .i64 ms[j].k, .int .i64 ms[j].t, .int .i64 ms[j].p, .int .i64 ms[j].s, .int .u8 (ms[j].b.toNat : Int), .int .u8 (ms[j].a.toNat : Int), .int .u8 (ms[j].i.toNat : Int), .slice A2 n c2] 36))
              have HROW := hide hrow
              have HR5 := hide ((show Rd wr (.slice A2 n c2) (u64s ms[j].ds) from hrow.more hbw.size).alloc (.cells #[.int .i64 ms[j].k, .int .i64 ms[j].t, .int .i64 ms[j].p, .int .i64 ms[j].s, .int .u8 (ms[j].b.toNat : Int), .int .u8 (ms[j].a.toNat : Int), .int .u8 (ms[j].i.toNat : Int), .slice A2 n c2] 36))
              have HSX := hide (Blk.new_ wr #[.int .i64 ms[j].k, .int .i64 ms[j].t, .int .i64 ms[j].p, .int .i64 ms[j].s, .int .u8 (ms[j].b.toNat : Int), .int .u8 (ms[j].a.toNat : Int), .int .u8 (ms[j].i.toNat : Int), .slice A2 n c2] 36 rfl)
              obtain ⟨r, hr⟩ : ∃ r, seedR ms[j] = r := ⟨_, rfl⟩
              have HR := hide hr
              have HO := hide (show r.Ok by rw [← hr]; exact seedR_ok ms[j] HU.out)
              clear hrange hrow hn hr hbw
              have hra : al[jj + j]? = some r := by
                rw [← HAL.out, List.getElem?_append_right (by rw [List.length_take]; omega), List.length_take, Nat.min_eq_left HJ2.out, Nat.add_sub_cancel_left, List.getElem?_map, List.getElem?_eq_getElem hlt, ← HR.out]
                rfl
              obtain ⟨b2, o2, rfl, hba, _, Aa, ca, hrga, hda⟩ := (EB1.out.1.below hbB).get hra
              have HRA := hide hrga
              have HBA := hide hba
              have HDA := hide hda.rd
              have HBB := hide hbB
              have XIR := hide infoRec
              have HLT := hide HSX.out.lt
              have HP := hide (show (jj : Int) + (j : Int) = ((jj + j : Nat) : Int) by omega)
              have HP0 := hide (show (0 : Int) ≤ ((jj + j : Nat) : Int) by omega)
              have HP1 := hide (show ((jj + j : Nat) : Int) < (al.length : Int) by omega)
              have HPW := hide (show (jj : Int) ≤ 21 ∧ (j : Int) ≤ 10 ∧ ((jj + j : Nat) : Int) ≤ 31 by omega)
              have HP2 := hide (show ((jj + j : Nat) : Int) < (jj : Int) + (ms.length : Int) by omega)
              obtain ⟨pp, hpp⟩ : ∃ pp, jj + j = pp := ⟨_, rfl⟩
              rw [hpp] at HRA HP HP0 HP1 HP2 HPW
              clear hra hrga hba hda hbB hpp
              go_upto_region 40 with ((with_reducible refine wpList_load_mid rfl 36 (.tmp 140) rfl b (o + j * 8) rfl [.int .i64 ms[j].k, .int .i64 ms[j].t, .int .i64 ms[j].p, .int .i64 ms[j].s, .int .u8 (ms[j].b.toNat : Int), .int .u8 (ms[j].a.toNat : Int), .int .u8 (ms[j].i.toNat : Int), .slice A2 n c2] _ ?_ Try.underlying36 ?_ ?_ ?_); exact HRG.out; rfl; exact XIS.out)
              refine region_grows [Say.is (.slice (some ⟨b2, o2, none⟩) al.length cO), Say.is (.slice AE jj cE), Say.is (.int .i64 (jj : Int)), Say.is (.int .i64 (j : Int)), Say.is (.int .i64 (pp : Int)), Say.is (.pointer (some ⟨b2, o2 + pp * 9, none⟩)), Say.is (.pointer (some ⟨b2, o2 + pp * 9, none⟩)), Say.is (.agg #[.int .i64 (r.k : Int), .int .i64 (r.t : Int), .int .i64 (r.p : Int), .int .i64 (r.s : Int), .string r.b, .string r.a, .string r.i, .slice Aa r.ds.length ca]), Say.is (.agg #[.int .i64 ms[j].k, .int .i64 ms[j].t, .int .i64 ms[j].p, .int .i64 ms[j].s, .int .u8 (ms[j].b.toNat : Int), .int .u8 (ms[j].a.toNat : Int), .int .u8 (ms[j].i.toNat : Int), .slice A2 n c2]), Say.rcb wr.heap.size r, Say.is (.bool true), Say.is (.bool false)] (by kernel_rfl) (by kernel_rfl) (by kernel_rfl) (by kernel_rfl) ?_ ?_
              · intro i o ho a w2 hb hsz old dep
                match i, ho with
                | 0, ho =>
                  obtain rfl := Option.some.inj ho
                  have o21 : a.tmps.getD 21 undef = _ := old 21 (by kernel_rfl)
                  rw [if_pos (wanted_none rfl)]
                  refine grow_same (v := .slice (some ⟨b2, o2, none⟩) al.length cO) ?_ rfl
                  clear old dep ho hsz hb
                  go_simp
                | 1, ho =>
                  obtain rfl := Option.some.inj ho
                  have o14 : a.tmps.getD 14 undef = _ := old 14 (by kernel_rfl)
                  rw [if_pos (wanted_none rfl)]
                  refine grow_same (v := .slice AE jj cE) ?_ rfl
                  clear old dep ho hsz hb
                  go_simp
                | 2, ho =>
                  obtain rfl := Option.some.inj ho
                  have d1 : a.tmps.getD 143 undef = .slice AE jj cE := dep 1 _ _ (by kernel_rfl) rfl rfl
                  have e1 : a.tmps[143]?.getD undef = _ := (Array.getD_eq_getD_getElem? ..).symm.trans d1
                  rw [if_pos (wanted_none rfl)]
                  refine grow_same (v := .int .i64 (jj : Int)) ?_ rfl
                  clear old dep ho hsz hb
                  go_simp
                | 3, ho =>
                  obtain rfl := Option.some.inj ho
                  have o22 : a.tmps.getD 22 undef = _ := old 22 (by kernel_rfl)
                  rw [if_pos (wanted_none rfl)]
                  refine grow_same (v := .int .i64 (j : Int)) ?_ rfl
                  clear old dep ho hsz hb
                  go_simp
                | 4, ho =>
                  obtain rfl := Option.some.inj ho
                  have d2 : a.tmps.getD 144 undef = .int .i64 (jj : Int) := dep 2 _ _ (by kernel_rfl) rfl rfl
                  have e2 : a.tmps[144]?.getD undef = _ := (Array.getD_eq_getD_getElem? ..).symm.trans d2
                  have d3 : a.tmps.getD 145 undef = .int .i64 (j : Int) := dep 3 _ _ (by kernel_rfl) rfl rfl
                  have e3 : a.tmps[145]?.getD undef = _ := (Array.getD_eq_getD_getElem? ..).symm.trans d3
                  rw [if_pos (wanted_none rfl)]
                  have hpe := HP.out
                  obtain ⟨hpa, hpb, hpc⟩ := HPW.out
                  refine grow_same (v := .int .i64 (pp : Int)) ?_ rfl
                  clear old dep ho hsz hb
                  go_simp
                  first | go_num | (unfold IntKind.wrap; simp [IntKind.bits, IntKind.signed]; omega)
                | 5, ho =>
                  obtain rfl := Option.some.inj ho
                  have d0 : a.tmps.getD 142 undef = .slice (some ⟨b2, o2, none⟩) al.length cO := dep 0 _ _ (by kernel_rfl) rfl rfl
                  have e0 : a.tmps[142]?.getD undef = _ := (Array.getD_eq_getD_getElem? ..).symm.trans d0
                  have d4 : a.tmps.getD 146 undef = .int .i64 (pp : Int) := dep 4 _ _ (by kernel_rfl) rfl rfl
                  have e4 : a.tmps[146]?.getD undef = _ := (Array.getD_eq_getD_getElem? ..).symm.trans d4
                  rw [if_pos (wanted_none rfl)]
                  have j0 := HP0.out
                  have j1 := HP1.out
                  have j2 := HP2.out
                  refine grow_same (v := .pointer (some ⟨b2, o2 + pp * 9, none⟩)) ?_ rfl
                  clear old dep ho hsz hb
                  go_simp
                | 6, ho =>
                  obtain rfl := Option.some.inj ho
                  have d5 : a.tmps.getD 147 undef = .pointer (some ⟨b2, o2 + pp * 9, none⟩) := dep 5 _ _ (by kernel_rfl) rfl rfl
                  have e5 : a.tmps[147]?.getD undef = _ := (Array.getD_eq_getD_getElem? ..).symm.trans d5
                  rw [if_pos (wanted_none rfl)]
                  refine grow_same (v := .pointer (some ⟨b2, o2 + pp * 9, none⟩)) ?_ rfl
                  clear old dep ho hsz hb
                  go_simp
                | 7, ho =>
                  obtain rfl := Option.some.inj ho
                  have d6 : a.tmps.getD 148 undef = .pointer (some ⟨b2, o2 + pp * 9, none⟩) := dep 6 _ _ (by kernel_rfl) rfl rfl
                  have e6 : a.tmps[148]?.getD undef = _ := (Array.getD_eq_getD_getElem? ..).symm.trans d6
                  rw [if_pos (wanted_none rfl)]
                  refine wp_load_mid 33 _ rfl b2 (o2 + pp * 9) d6 [.int .i64 (r.k : Int), .int .i64 (r.t : Int), .int .i64 (r.p : Int), .int .i64 (r.s : Int), .string r.b, .string r.a, .string r.i, .slice Aa r.ds.length ca] _ (rangeAt_keep HRA.out (fun p hp => (((below_new wr (.cells #[.int .i64 ms[j].k, .int .i64 ms[j].t, .int .i64 ms[j].p, .int .i64 ms[j].s, .int .u8 (ms[j].b.toNat : Int), .int .u8 (ms[j].a.toNat : Int), .int .u8 (ms[j].i.toNat : Int), .slice A2 n c2] 36)).trans (hb.mono (by simp))).cell (by rw [hp]; exact HBA.out)))) Try.underlying33 rfl XIR.out ⟨_, rfl, rfl, Below.refl _ _⟩
                | 8, ho =>
                  obtain rfl := Option.some.inj ho
                  have o23 : a.tmps.getD 23 undef = _ := old 23 (by kernel_rfl)
                  rw [if_pos (wanted_none rfl)]
                  have g0 := (hb.cell (p := ⟨wr.heap.size, 0, none⟩) HLT.out).trans (HSX.out.cell 0 _ rfl)
                  have g1 := (hb.cell (p := ⟨wr.heap.size, 1, none⟩) HLT.out).trans (HSX.out.cell 1 _ rfl)
                  have g2 := (hb.cell (p := ⟨wr.heap.size, 2, none⟩) HLT.out).trans (HSX.out.cell 2 _ rfl)
                  have g3 := (hb.cell (p := ⟨wr.heap.size, 3, none⟩) HLT.out).trans (HSX.out.cell 3 _ rfl)
                  have g4 := (hb.cell (p := ⟨wr.heap.size, 4, none⟩) HLT.out).trans (HSX.out.cell 4 _ rfl)
                  have g5 := (hb.cell (p := ⟨wr.heap.size, 5, none⟩) HLT.out).trans (HSX.out.cell 5 _ rfl)
                  have g6 := (hb.cell (p := ⟨wr.heap.size, 6, none⟩) HLT.out).trans (HSX.out.cell 6 _ rfl)
                  have g7 := (hb.cell (p := ⟨wr.heap.size, 7, none⟩) HLT.out).trans (HSX.out.cell 7 _ rfl)
                  refine grow_same (v := .agg #[.int .i64 ms[j].k, .int .i64 ms[j].t, .int .i64 ms[j].p, .int .i64 ms[j].s, .int .u8 (ms[j].b.toNat : Int), .int .u8 (ms[j].a.toNat : Int), .int .u8 (ms[j].i.toNat : Int), .slice A2 n c2]) ?_ rfl
                  clear old dep ho hsz hb
                  go_simp
                | 9, ho =>
                  obtain rfl := Option.some.inj ho
                  have d8 : a.tmps.getD 150 undef = .agg #[.int .i64 ms[j].k, .int .i64 ms[j].t, .int .i64 ms[j].p, .int .i64 ms[j].s, .int .u8 (ms[j].b.toNat : Int), .int .u8 (ms[j].a.toNat : Int), .int .u8 (ms[j].i.toNat : Int), .slice A2 n c2] := dep 8 _ _ (by kernel_rfl) rfl rfl
                  have e8 : a.tmps[150]?.getD undef = _ := (Array.getD_eq_getD_getElem? ..).symm.trans d8
                  rw [if_pos (wanted_none rfl)]
                  refine grow_enters (f := 16) (args := #[.agg #[.int .i64 ms[j].k, .int .i64 ms[j].t, .int .i64 ms[j].p, .int .i64 ms[j].s, .int .u8 (ms[j].b.toNat : Int), .int .u8 (ms[j].a.toNat : Int), .int .u8 (ms[j].i.toNat : Int), .slice A2 n c2]]) ?_ (seed_grb _ (Nat.le_trans (by simp) hb.size) HN.out HR.out (HR5.out.below hb))
                  clear old dep ho hsz hb
                  go_simp
                | 10, ho =>
                  obtain rfl := Option.some.inj ho
                  have d7 : a.tmps.getD 149 undef = .agg #[.int .i64 (r.k : Int), .int .i64 (r.t : Int), .int .i64 (r.p : Int), .int .i64 (r.s : Int), .string r.b, .string r.a, .string r.i, .slice Aa r.ds.length ca] := dep 7 _ _ (by kernel_rfl) rfl rfl
                  have e7 : a.tmps[149]?.getD undef = _ := (Array.getD_eq_getD_getElem? ..).symm.trans d7
                  have s9 : (Say.rcb wr.heap.size r).p w2 (a.tmps.getD 151 undef) := dep 9 _ _ (by kernel_rfl) rfl rfl
                  rw [if_pos (wanted_none rfl)]
                  obtain ⟨A9, c9, e151, R151⟩ := s9
                  have e9 : a.tmps[151]?.getD undef = _ := (Array.getD_eq_getD_getElem? ..).symm.trans e151
                  refine grow_enters (f := 32) (args := #[.agg #[.int .i64 (r.k : Int), .int .i64 (r.t : Int), .int .i64 (r.p : Int), .int .i64 (r.s : Int), .string r.b, .string r.a, .string r.i, .slice Aa r.ds.length ca], .agg #[.int .i64 (r.k : Int), .int .i64 (r.t : Int), .int .i64 (r.p : Int), .int .i64 (r.s : Int), .string r.b, .string r.a, .string r.i, .slice A9 r.ds.length c9]]) ?_ (same_told HO.out ((HDA.out.below (below_new wr (.cells #[.int .i64 ms[j].k, .int .i64 ms[j].t, .int .i64 ms[j].p, .int .i64 ms[j].s, .int .u8 (ms[j].b.toNat : Int), .int .u8 (ms[j].a.toNat : Int), .int .u8 (ms[j].i.toNat : Int), .slice A2 n c2] 36))).below hb) R151.rd (same_self _))
                  clear old dep ho hsz hb R151 e151
                  go_simp
                | 11, ho =>
                  obtain rfl := Option.some.inj ho
                  have d10 : a.tmps.getD 152 undef = .bool true := dep 10 _ _ (by kernel_rfl) rfl rfl
                  have e10 : a.tmps[152]?.getD undef = _ := (Array.getD_eq_getD_getElem? ..).symm.trans d10
                  rw [if_pos (wanted_none rfl)]
                  refine grow_same (v := .bool false) ?_ rfl
                  clear old dep ho hsz hb
                  go_simp
                | i + 12, ho => exact absurd ho (by simp)
              · intro a w2x hb hsz hdf fin keep
                obtain ⟨tm, df⟩ := a
                have hx := frame_of [142, 143, 144, 145, 146, 147, 148, 149, 150, 151, 152, 153] (by kernel_rfl) hsz keep
                dsimp only at hdf hx
                simp only [List.foldl_cons, List.foldl_nil] at hx
                subst hdf
                clear hsz keep
                have kn : tm.getD 142 undef = .slice (some ⟨b2, o2, none⟩) al.length cO := fin 0 _ _ rfl rfl
                rw [kn] at hx
                clear kn
                have kn : tm.getD 143 undef = .slice AE jj cE := fin 1 _ _ rfl rfl
                rw [kn] at hx
                clear kn
                have kn : tm.getD 144 undef = .int .i64 (jj : Int) := fin 2 _ _ rfl rfl
                rw [kn] at hx
                clear kn
                have kn : tm.getD 145 undef = .int .i64 (j : Int) := fin 3 _ _ rfl rfl
                rw [kn] at hx
                clear kn
                have kn : tm.getD 146 undef = .int .i64 (pp : Int) := fin 4 _ _ rfl rfl
                rw [kn] at hx
                clear kn
                have kn : tm.getD 147 undef = .pointer (some ⟨b2, o2 + pp * 9, none⟩) := fin 5 _ _ rfl rfl
                rw [kn] at hx
                clear kn
                have kn : tm.getD 148 undef = .pointer (some ⟨b2, o2 + pp * 9, none⟩) := fin 6 _ _ rfl rfl
                rw [kn] at hx
                clear kn
                have kn : tm.getD 149 undef = .agg #[.int .i64 (r.k : Int), .int .i64 (r.t : Int), .int .i64 (r.p : Int), .int .i64 (r.s : Int), .string r.b, .string r.a, .string r.i, .slice Aa r.ds.length ca] := fin 7 _ _ rfl rfl
                rw [kn] at hx
                clear kn
                have kn : tm.getD 150 undef = .agg #[.int .i64 ms[j].k, .int .i64 ms[j].t, .int .i64 ms[j].p, .int .i64 ms[j].s, .int .u8 (ms[j].b.toNat : Int), .int .u8 (ms[j].a.toNat : Int), .int .u8 (ms[j].i.toNat : Int), .slice A2 n c2] := fin 8 _ _ rfl rfl
                rw [kn] at hx
                clear kn
                generalize tm.getD 151 undef = y151 at hx
                have kn : tm.getD 152 undef = .bool true := fin 10 _ _ rfl rfl
                rw [kn] at hx
                clear kn
                have kn : tm.getD 153 undef = .bool false := fin 11 _ _ rfl rfl
                rw [kn] at hx
                clear kn
                clear fin
                simp only [List.setIfInBounds_toArray, List.set_cons_succ, List.set_cons_zero] at hx
                subst hx
                have BZ := hide (HBB.out.trans ((below_new wr (.cells #[.int .i64 ms[j].k, .int .i64 ms[j].t, .int .i64 ms[j].p, .int .i64 ms[j].s, .int .u8 (ms[j].b.toNat : Int), .int .u8 (ms[j].a.toNat : Int), .int .u8 (ms[j].i.toNat : Int), .slice A2 n c2] 36)).trans (hb.mono (by simp)) |>.mono HBB.out.size))
                clear hb
                go_wp2
                go_roundw
                case rel => exact ⟨j + 1, by omega, by go_num, BZ.out⟩
                case measure => simp [intOf]; omega
            · obtain rfl : j = ms.length := by omega
              have HBW := hide hbw
              clear hbw hbB
              go_wp2
              go_ret
              exact ⟨rfl, HBW.out⟩
end Go.Proofs.Ytlmoiepbnnfebaa
