/-
  LaneTwo's walk.
-/
import Derived.Test.YtlmoiepbnnfebaaDuo
import Derived.WalkKit
namespace Go.Proofs.Ytlmoiepbnnfebaa
open Go.RowKit
set_option maxRecDepth 20000
set_option linter.unusedSimpArgs false
set_option linter.unusedVariables false

set_option maxHeartbeats 8000000 in
theorem two_walk (v : Value) (cs : List SeedD) (mask : Int) (w : World) (hv : SeedRow w w.heap.size v cs) (hm : (Lit.int .u64 mask).wf = true) :
    Calls Try.prog 9 #[v, .int .u64 mask] w fun e w' => e = .returned (.bool true) ∧ Below w.heap.size w w' := by
  obtain ⟨Av, cv, ev, _, _⟩ := id hv
  subst ev
  have HV := hide hv
  have hfit := fit_any w
  obtain ⟨M, rfl, _⟩ := wf_u64 hm
  clear hv hm
  by_cases h20 : 20 < cs.length
  · have h20' : decide ((20 : Int) < (cs.length : Int)) = true := by rw [decide_eq_true_eq]; omega
    go_enter Try.func9, Try.ntmps9
    go_wp2_with (go_at_call 12; ((with_reducible refine hfit.mono ?_); rintro e w0 ⟨rfl, hb0⟩; have B0 := hide hb0; have hnew := disk_new2 w0; clear hb0 hfit))
    go_ret
    exact ⟨rfl, B0.out⟩
  have h20' : decide ((20 : Int) < (cs.length : Int)) = false := by rw [decide_eq_false_iff_not]; omega
  have hsl := fun W => run_slice_one (P := Try.prog) W 34 33 #[.int .i64 1, .int .i64 0, .int .i64 0, .int .i64 0, .string ⟨#[]⟩, .string ⟨#[]⟩, .string ⟨#[]⟩, .slice none 0 0] #[.int .i64 0, .int .i64 0, .int .i64 0, .int .i64 0, .string ⟨#[]⟩, .string ⟨#[]⟩, .string ⟨#[]⟩, .slice none 0 0] 8 104 Try.underlying34 infoRec3 rfl (by omega) (by omega)
  have hsl6 : ∀ (r : Rc) (A8 : Option Addr) (c8 : Nat) (W : World), (Instr.buildSlice 34 1 #[(0, .agg #[.int .i64 (r.k : Int), .int .i64 (r.t : Int), .int .i64 (r.p : Int), .int .i64 (r.s : Int), .string r.b, .string r.a, .string r.i, .slice A8 r.ds.length c8])]).run Try.prog W = .ok (.slice (some ⟨W.heap.size, 0, none⟩) 1 1) (W.alloc (.cells #[.int .i64 (r.k : Int), .int .i64 (r.t : Int), .int .i64 (r.p : Int), .int .i64 (r.s : Int), .string r.b, .string r.a, .string r.i, .slice A8 r.ds.length c8] 33)) := fun r A8 c8 W => run_slice_one (P := Try.prog) W 34 33 #[.int .i64 (r.k : Int), .int .i64 (r.t : Int), .int .i64 (r.p : Int), .int .i64 (r.s : Int), .string r.b, .string r.a, .string r.i, .slice A8 r.ds.length c8] #[.int .i64 0, .int .i64 0, .int .i64 0, .int .i64 0, .string ⟨#[]⟩, .string ⟨#[]⟩, .string ⟨#[]⟩, .slice none 0 0] 8 104 Try.underlying34 infoRec3 rfl (by omega) (by omega)
  go_enter Try.func9, Try.ntmps9
  go_upto_region 10 with (first
    | (go_at_call 12; ((with_reducible refine hfit.mono ?_); rintro e w0 ⟨rfl, hb0⟩; have B0 := hide hb0; have hnew := disk_new2 w0; clear hb0 hfit))
    | (go_at_call 14; ((with_reducible refine hnew.mono ?_); rintro e w1 ⟨dg, d1, rfl, hm1, hd0, hd1, hdn, hb1⟩; have B1 := hide hb1; have D1 := hide hd1.at_; have hln := ld_new0 hm1 hd0 hdn (by omega); clear hb1 hm1 hd1 hd0 hnew))
    | (go_at_call 15; ((with_reducible refine hln.mono ?_); rintro e w2 ⟨g, d2, rfl, hap2, hv2, ho2⟩; have O2 := hide ho2; have hln2 := duo_new hv2 ((hap2.2 1 (by decide)).trans D1.out) (by omega); clear hv2 ho2 hap2 hln))
    | (go_at_call 15; ((with_reducible refine hln2.mono ?_); rintro e w3 ⟨g', rfl, hv3, ho3⟩; have V3 := hide hv3; have O3 := hide (O2.out.trans ho3); clear hv3 ho3 hln2)))
  go_loopw [10, 11, 39] (fun va vb i wr => ∃ (j : Nat) (X : Nat → Prop) (ea eb : List Re), j ≤ cs.length ∧ i = .int .i64 j ∧ ea.length ≤ j ∧ eb.length ≤ j ∧ (∀ k, k < w0.heap.size → X k) ∧ (∀ k, va.ownBlock = some k → w0.heap.size ≤ k) ∧ (∀ k, vb.ownBlock = some k → w0.heap.size ≤ k) ∧ (ea = [] → va = .slice none 0 0) ∧ (eb = [] → vb = .slice none 0 0) ∧ Gath2 wr X va ea vb eb ∧ Duo wr X dg g 0 (checkR :: ea.map (·.1)) 1 g' 1 (checkR :: eb.map (·.1)) (checkR :: eb.map (·.1)).length 538 (1400 + j * 301) ∧ Out (fun k => k < w0.heap.size) w1 wr) (fun _ _ i _ => cs.length - (intOf i).toNat)
  case atStart => exact ⟨0, _, [], [], by omega, rfl, Nat.le_refl _, Nat.le_refl _, fun k hk => hk, (fun k e => by cases e), (fun k e => by cases e), fun _ => rfl, fun _ => rfl, Gath2.nil _ _, V3.out, O3.out⟩
  case round =>
    obtain ⟨j, X, ea, eb, hj, rfl, hea, heb, hX, hoa, hob, hna, hnb, hg, hlv, ho⟩ := hrel
    obtain ⟨⟨Aa, ca, rfl⟩, Ab, cb, rfl⟩ := hg.form
    have hbw : Below w.heap.size w wr := B0.out.trans ((B1.out.trans ((ho.below B1.out.size (fun k hk => hk)).mono (Nat.le_refl _))).mono B0.out.size)
    have V := hide hlv
    have HX := hide hX
    have O := hide ho
    have G := hide hg
    have OWA := hide hoa
    have OWB := hide hob
    have NA := hide hna
    have NB := hide hnb
    clear hlv hX ho hg hoa hob hna hnb
    by_cases hlt : j < cs.length
    · obtain ⟨b, o, cap, he, A2, n, c2, hn, hrange, hrow⟩ := seed_at HV.out hbw hlt
      injection he with e1 e2 e3
      subst e1
      subst e3
      have HRG := hide hrange
      have XIS := hide infoSeed
      have HN := hide hn
      have HU := hide (HV.out.us cs[j] (List.getElem_mem hlt))
      have HBW := hide hbw
      have hj0 : (0 : Int) ≤ (j : Int) := by omega
      have hj1 : (j : Int) < (cs.length : Int) := by omega
      have HB5 := hide (hbw.alloc hbw.size (.cells #[.int .i64 cs[j].k, .int .i64 cs[j].t, .int .i64 cs[j].p, .int .i64 cs[j].s, .int .u8 (cs[j].b.toNat : Int), .int .u8 (cs[j].a.toNat : Int), .int .u8 (cs[j].i.toNat : Int), .slice A2 n c2] 36))
      have HROW := hide hrow
      have HR5 := hide ((show Rd wr (.slice A2 n c2) (u64s cs[j].ds) from hrow.more hbw.size).alloc (.cells #[.int .i64 cs[j].k, .int .i64 cs[j].t, .int .i64 cs[j].p, .int .i64 cs[j].s, .int .u8 (cs[j].b.toNat : Int), .int .u8 (cs[j].a.toNat : Int), .int .u8 (cs[j].i.toNat : Int), .slice A2 n c2] 36))
      have HSX := hide (Blk.new_ wr #[.int .i64 cs[j].k, .int .i64 cs[j].t, .int .i64 cs[j].p, .int .i64 cs[j].s, .int .u8 (cs[j].b.toNat : Int), .int .u8 (cs[j].a.toNat : Int), .int .u8 (cs[j].i.toNat : Int), .slice A2 n c2] 36 rfl)
      obtain ⟨r, hr⟩ : ∃ r, seedR cs[j] = r := ⟨_, rfl⟩
      have HR := hide hr
      have HO := hide (show r.Ok by rw [← hr]; exact seedR_ok cs[j] HU.out)
      clear hrange hrow hn hr hbw
      have hlena := frs_le V.out.ok (n := 21) (by rw [List.length_cons, List.length_map]; omega)
      have hlenb := frs_le V.out.symm.ok (n := 21) (by rw [List.length_cons, List.length_map]; omega)
      have HFLA := hide (show (frsR (checkR :: ea.map (·.1))).length + r.frame.length ≤ 14336 by have := HO.out.most; omega)
      have HFLB := hide (show (frsR (checkR :: eb.map (·.1))).length + r.frame.length ≤ 14336 by have := HO.out.most; omega)
      have HEA := hide hea
      have HEB := hide heb
      have hj20 : j ≤ 20 := by omega
      clear hlena hlenb hea heb
      by_cases h100 : 100 < n
      · have h100' : (100 : Int) < (n : Int) := by omega
        go_wp2_with ((with_reducible refine wpList_load_mid rfl 36 (.tmp 42) rfl b (o + j * 8) rfl [.int .i64 cs[j].k, .int .i64 cs[j].t, .int .i64 cs[j].p, .int .i64 cs[j].s, .int .u8 (cs[j].b.toNat : Int), .int .u8 (cs[j].a.toNat : Int), .int .u8 (cs[j].i.toNat : Int), .slice A2 n c2] _ ?_ Try.underlying36 ?_ ?_ ?_); exact HRG.out; rfl; exact XIS.out)
        go_ret
        exact ⟨rfl, HB5.out⟩
      have h100' : ¬ (100 : Int) < (n : Int) := by omega
      obtain ⟨m, hm2, hand⟩ : ∃ m : Nat, m < 2 ∧ bits .and .i64 (j : Int) 1 = (m : Int) := and_low (j : Int) 1 (by omega)
      rcases (show m = 0 ∨ m = 1 by omega) with rfl | rfl
      · have HFL := HFLA
        go_wp2_with (first
          | ((with_reducible refine wpList_load_mid rfl 36 (.tmp 42) rfl b (o + j * 8) rfl [.int .i64 cs[j].k, .int .i64 cs[j].t, .int .i64 cs[j].p, .int .i64 cs[j].s, .int .u8 (cs[j].b.toNat : Int), .int .u8 (cs[j].a.toNat : Int), .int .u8 (cs[j].i.toNat : Int), .slice A2 n c2] _ ?_ Try.underlying36 ?_ ?_ ?_); exact HRG.out; rfl; exact XIS.out)
          | (go_at_call 16; ((with_reducible refine (seed_in cs[j] A2 n c2 _ HN.out HR.out HR5.out).mono ?_); rintro e w6 ⟨A6, c6, rfl, R6, hb6⟩; have P6 := hide ((below_new wr (.cells #[.int .i64 cs[j].k, .int .i64 cs[j].t, .int .i64 cs[j].p, .int .i64 cs[j].s, .int .u8 (cs[j].b.toNat : Int), .int .u8 (cs[j].a.toNat : Int), .int .u8 (cs[j].i.toNat : Int), .slice A2 n c2] 36)).trans (hb6.mono (by simp))); have V6 := hide (V.out.ext P6.out); have S6 := hide (HSX.out.below hb6); have hap := duo_append V6.out HO.out R6.rd HFL.out; clear R6 hb6))
          | (go_at_call 17; ((with_reducible refine hap.mono ?_); rintro e w7 ⟨⟨z7, rfl⟩, hv7, ho7⟩; have V7 := hide hv7; have O7 := hide ((Out.of_below (X := fun k => k < w0.heap.size) P6.out).trans (ho7.less (fun k hk => .inl (HX.out k hk)))); have G7 := hide (((G.out.below P6.out).sub (Y := Ext X wr.heap.size w6.heap.size) (fun k hk => .inl hk)).out ho7); have S7 := hide (ho7.blk S6.out (.inr ⟨Nat.le_refl _, S6.out.lt⟩)); have RG7 := hide S7.out.rng; have BW7 := O7.out.below (B := w.heap.size) HBW.out.size (fun k hk => Nat.lt_of_lt_of_le hk B0.out.size); have RD7 := hide (show Rd w7 (.slice A2 n c2) (u64s cs[j].ds) from (HROW.out.below BW7).more (Nat.le_trans HBW.out.size BW7.size)); have HXL := hide hv7.xlt; have W7 := hide (show wr.heap.size ≤ w7.heap.size from Nat.le_trans P6.out.size ho7.size); clear hv7 ho7 BW7 hap))
          | ((with_reducible refine wpList_load_mid rfl 36 (.tmp 13) rfl wr.heap.size 0 rfl [.int .i64 cs[j].k, .int .i64 cs[j].t, .int .i64 cs[j].p, .int .i64 cs[j].s, .int .u8 (cs[j].b.toNat : Int), .int .u8 (cs[j].a.toNat : Int), .int .u8 (cs[j].i.toNat : Int), .slice A2 n c2] _ ?_ Try.underlying36 ?_ ?_ ?_); exact RG7.out; rfl; exact XIS.out)
          | (go_at_call 16; ((with_reducible refine (seed_in cs[j] A2 n c2 _ HN.out HR.out RD7.out).mono ?_); rintro e w8 ⟨A8, c8, rfl, R8, hb8⟩; have P9 := hide (hb8.alloc hb8.size (.cells #[.int .i64 (r.k : Int), .int .i64 (r.t : Int), .int .i64 (r.p : Int), .int .i64 (r.s : Int), .string r.b, .string r.a, .string r.i, .slice A8 r.ds.length c8] 33)); have R9 := hide (R8.keep (w' := w8.alloc (.cells #[.int .i64 (r.k : Int), .int .i64 (r.t : Int), .int .i64 (r.p : Int), .int .i64 (r.s : Int), .string r.b, .string r.a, .string r.i, .slice A8 r.ds.length c8] 33)) (Y := fun k => w7.heap.size ≤ k) (fun p hp _ => (below_new w8 (.cells #[.int .i64 (r.k : Int), .int .i64 (r.t : Int), .int .i64 (r.p : Int), .int .i64 (r.s : Int), .string r.b, .string r.a, .string r.i, .slice A8 r.ds.length c8] 33)).cell hp) (below_new w8 (.cells #[.int .i64 (r.k : Int), .int .i64 (r.t : Int), .int .i64 (r.p : Int), .int .i64 (r.s : Int), .string r.b, .string r.a, .string r.i, .slice A8 r.ds.length c8] 33)).size (fun k _ h => h.1)); clear R8 hb8))
          | (at_builtin; refine wpList_gather2 rfl (.tmp 55) (.tmp 58) rfl rfl (G7.out.below P9.out) (by have := HEA.out; omega) rfl (Blk.new_ w8 #[.int .i64 (r.k : Int), .int .i64 (r.t : Int), .int .i64 (r.p : Int), .int .i64 (r.s : Int), .string r.b, .string r.a, .string r.i, .slice A8 r.ds.length c8] _ rfl) (lo := w7.heap.size) P9.out.size HXL.out R9.out ?_; intro v9 w9 hg9 hk9 hov9; have V9 := hide ((V7.out.ext P9.out).grown hk9 (fun k e => (G7.out.1.inX k e).1)); have G9 := hide hg9; have O9 := hide (O7.out.trans ((Out.of_below (X := fun k => k < w0.heap.size) P9.out).trans (hk9.mono (fun k e => .inl (fun hk => by have := OWA.out k e; omega))))); have OW9 := hide (show ∀ k, v9.ownBlock = some k → w0.heap.size ≤ k from fun k e => by { rcases hov9 with h1 | h1; { rw [h1] at e; exact OWA.out k e }; { rw [h1] at e; obtain rfl := Option.some.inj e; exact Nat.le_trans (Nat.le_trans B1.out.size O.out.size) (Nat.le_trans W7.out P9.out.size) } });  clear hg9 hk9 hov9)
          )
        go_roundw
        case rel => exact ⟨j + 1, _, ea ++ [(r, .slice A8 r.ds.length c8)], eb, by omega, by go_num, by simp; have := HEA.out; omega, by have := HEB.out; omega, fun k hk => .inl (.inl (HX.out k hk)), OW9.out, OWB.out, (fun e => by simp at e), NB.out, G9.out, by rw [gath_fst, ← List.cons_append]; exact V9.out.upto (by omega), O.out.trans O9.out⟩
        case measure => simp [intOf]; omega
      · have HFL := HFLB
        go_wp2_with (first
          | ((with_reducible refine wpList_load_mid rfl 36 (.tmp 42) rfl b (o + j * 8) rfl [.int .i64 cs[j].k, .int .i64 cs[j].t, .int .i64 cs[j].p, .int .i64 cs[j].s, .int .u8 (cs[j].b.toNat : Int), .int .u8 (cs[j].a.toNat : Int), .int .u8 (cs[j].i.toNat : Int), .slice A2 n c2] _ ?_ Try.underlying36 ?_ ?_ ?_); exact HRG.out; rfl; exact XIS.out)
          | (go_at_call 16; ((with_reducible refine (seed_in cs[j] A2 n c2 _ HN.out HR.out HR5.out).mono ?_); rintro e w6 ⟨A6, c6, rfl, R6, hb6⟩; have P6 := hide ((below_new wr (.cells #[.int .i64 cs[j].k, .int .i64 cs[j].t, .int .i64 cs[j].p, .int .i64 cs[j].s, .int .u8 (cs[j].b.toNat : Int), .int .u8 (cs[j].a.toNat : Int), .int .u8 (cs[j].i.toNat : Int), .slice A2 n c2] 36)).trans (hb6.mono (by simp))); have V6 := hide (V.out.symm.ext P6.out); have S6 := hide (HSX.out.below hb6); have hap := duo_append V6.out HO.out R6.rd HFL.out; clear R6 hb6))
          | (go_at_call 17; ((with_reducible refine hap.mono ?_); rintro e w7 ⟨⟨z7, rfl⟩, hv7, ho7⟩; have V7 := hide hv7; have O7 := hide ((Out.of_below (X := fun k => k < w0.heap.size) P6.out).trans (ho7.less (fun k hk => .inl (HX.out k hk)))); have G7 := hide (((G.out.symm.below P6.out).sub (Y := Ext X wr.heap.size w6.heap.size) (fun k hk => .inl hk)).out ho7); have S7 := hide (ho7.blk S6.out (.inr ⟨Nat.le_refl _, S6.out.lt⟩)); have RG7 := hide S7.out.rng; have BW7 := O7.out.below (B := w.heap.size) HBW.out.size (fun k hk => Nat.lt_of_lt_of_le hk B0.out.size); have RD7 := hide (show Rd w7 (.slice A2 n c2) (u64s cs[j].ds) from (HROW.out.below BW7).more (Nat.le_trans HBW.out.size BW7.size)); have HXL := hide hv7.xlt; have W7 := hide (show wr.heap.size ≤ w7.heap.size from Nat.le_trans P6.out.size ho7.size); clear hv7 ho7 BW7 hap))
          | ((with_reducible refine wpList_load_mid rfl 36 (.tmp 13) rfl wr.heap.size 0 rfl [.int .i64 cs[j].k, .int .i64 cs[j].t, .int .i64 cs[j].p, .int .i64 cs[j].s, .int .u8 (cs[j].b.toNat : Int), .int .u8 (cs[j].a.toNat : Int), .int .u8 (cs[j].i.toNat : Int), .slice A2 n c2] _ ?_ Try.underlying36 ?_ ?_ ?_); exact RG7.out; rfl; exact XIS.out)
          | (go_at_call 16; ((with_reducible refine (seed_in cs[j] A2 n c2 _ HN.out HR.out RD7.out).mono ?_); rintro e w8 ⟨A8, c8, rfl, R8, hb8⟩; have P9 := hide (hb8.alloc hb8.size (.cells #[.int .i64 (r.k : Int), .int .i64 (r.t : Int), .int .i64 (r.p : Int), .int .i64 (r.s : Int), .string r.b, .string r.a, .string r.i, .slice A8 r.ds.length c8] 33)); have R9 := hide (R8.keep (w' := w8.alloc (.cells #[.int .i64 (r.k : Int), .int .i64 (r.t : Int), .int .i64 (r.p : Int), .int .i64 (r.s : Int), .string r.b, .string r.a, .string r.i, .slice A8 r.ds.length c8] 33)) (Y := fun k => w7.heap.size ≤ k) (fun p hp _ => (below_new w8 (.cells #[.int .i64 (r.k : Int), .int .i64 (r.t : Int), .int .i64 (r.p : Int), .int .i64 (r.s : Int), .string r.b, .string r.a, .string r.i, .slice A8 r.ds.length c8] 33)).cell hp) (below_new w8 (.cells #[.int .i64 (r.k : Int), .int .i64 (r.t : Int), .int .i64 (r.p : Int), .int .i64 (r.s : Int), .string r.b, .string r.a, .string r.i, .slice A8 r.ds.length c8] 33)).size (fun k _ h => h.1)); clear R8 hb8))
          | (at_builtin; refine wpList_gather2 rfl (.tmp 64) (.tmp 67) rfl rfl (G7.out.below P9.out) (by have := HEB.out; omega) rfl (Blk.new_ w8 #[.int .i64 (r.k : Int), .int .i64 (r.t : Int), .int .i64 (r.p : Int), .int .i64 (r.s : Int), .string r.b, .string r.a, .string r.i, .slice A8 r.ds.length c8] _ rfl) (lo := w7.heap.size) P9.out.size HXL.out R9.out ?_; intro v9 w9 hg9 hk9 hov9; have V9 := hide ((V7.out.ext P9.out).grown hk9 (fun k e => (G7.out.1.inX k e).1)); have G9 := hide hg9; have O9 := hide (O7.out.trans ((Out.of_below (X := fun k => k < w0.heap.size) P9.out).trans (hk9.mono (fun k e => .inl (fun hk => by have := OWB.out k e; omega))))); have OW9 := hide (show ∀ k, v9.ownBlock = some k → w0.heap.size ≤ k from fun k e => by { rcases hov9 with h1 | h1; { rw [h1] at e; exact OWB.out k e }; { rw [h1] at e; obtain rfl := Option.some.inj e; exact Nat.le_trans (Nat.le_trans B1.out.size O.out.size) (Nat.le_trans W7.out P9.out.size) } }); have hfl := duo_flush V9.out (by omega); clear hg9 hk9 hov9)
          | (go_at_call 20; ((with_reducible refine hfl.mono ?_); rintro e wA ⟨rfl, hvA, hoA⟩; have VA := hide hvA; have GA := hide (G9.out.out hoA); have OA := hide (O9.out.trans (hoA.less (fun k hk => .inl (.inl (HX.out k hk))))); clear hvA hoA hfl)))
        go_roundw
        case rel => exact ⟨j + 1, _, ea, eb ++ [(r, .slice A8 r.ds.length c8)], by omega, by go_num, by have := HEA.out; omega, by simp; have := HEB.out; omega, fun k hk => .inl (.inl (HX.out k hk)), OWA.out, OW9.out, NA.out, (fun e => by simp at e), GA.out.symm, by rw [gath_fst, ← List.cons_append]; exact VA.out.symm.upto (by omega), O.out.trans OA.out⟩
        case measure => simp [intOf]; omega
    · obtain rfl : j = cs.length := by omega
      have hfl := duo_flush V.out (by omega)
      have HOKA := hide V.out.ok
      have HOKB := hide V.out.symm.ok
      obtain ⟨LA, hLA⟩ : ∃ L, checkR :: ea.map (·.1) = L := ⟨_, rfl⟩
      have hLAl : LA.length = ea.length + 1 := by rw [← hLA]; simp
      obtain ⟨LB, hLB⟩ : ∃ L, checkR :: eb.map (·.1) = L := ⟨_, rfl⟩
      have hLBl : LB.length = eb.length + 1 := by rw [← hLB]; simp
      rw [hLA] at hfl HOKA
      rw [hLB] at hfl HOKB
      have HLA := hide hLA
      have HLB := hide hLB
      have HLAL := hide hLAl
      have HLBL := hide hLBl
      have ha20 : ea.length ≤ 20 := by omega
      have hb20 : eb.length ≤ 20 := by omega
      have HBW := hide hbw
      clear V hLA hLB hLAl hLBl hea heb hbw
      go_upto_region 26 with (first
        | (go_at_call 20; ((with_reducible refine hfl.mono ?_); rintro e w4 ⟨rfl, hv4, ho4⟩; have hcr := duo_crash hv4 (by omega) M; have G4 := hide (G.out.out ho4); have Q4 := hide (ho4.less HX.out); clear hv4 ho4 hfl))
        | (go_at_call 22; ((with_reducible refine hcr.mono ?_); rintro e w5 ⟨rfl, d5, hc5, hd5, ho5⟩; have hop := duo_open hc5 hd5 (by omega); have G5 := hide (G4.out.out ho5); have Q5 := hide (Q4.out.trans (ho5.less HX.out)); clear hc5 hd5 ho5 hcr))
        | (go_at_call 23; ((with_reducible refine hop.mono ?_); rintro e w6 ⟨g6, v6, E6, d6, rfl, hc6, he6, ho6⟩; have hop2 := ld_open1 hc6 (by omega); have G6 := hide (G5.out.out ho6); have E6H := hide he6; have Q6 := hide (Q5.out.trans (ho6.less HX.out)); obtain ⟨A6, c6, ev6, _⟩ := he6.1.form; rw [HLAL.out] at ev6; subst ev6; clear hc6 he6 ho6 hop))
        | (go_at_call 23; ((with_reducible refine hop2.mono ?_); rintro e w7 ⟨g7, v7, E7, d7, rfl, _, _, he7, _, ho7⟩; have G7 := hide (G6.out.out (ho7.less (fun k hk => .inl hk))); have F7 := hide (E6H.out.out (ho7.less (fun k hk => .inr hk))); have E7H := hide he7; have Q7 := hide (Q6.out.trans (ho7.less (fun k hk => .inl (HX.out k hk)))); obtain ⟨A7, c7, ev7, _⟩ := he7.1.form; rw [HLBL.out] at ev7; subst ev7; clear he7 ho7 hop2)))
      have BK := hide (below_new w7 (.cells #[.int .i64 1, .int .i64 0, .int .i64 0, .int .i64 0, .string ⟨#[]⟩, .string ⟨#[]⟩, .string ⟨#[]⟩, .slice none 0 0] 33))
      have SK := hide (Blk.new_ w7 #[.int .i64 1, .int .i64 0, .int .i64 0, .int .i64 0, .string ⟨#[]⟩, .string ⟨#[]⟩, .string ⟨#[]⟩, .slice none 0 0] 33 rfl)
      obtain ⟨vJ, wJ, hrun, hrec, hbJ⟩ := joined_at (G7.out.below BK.out).one NA.out (by omega) SK.out
      rw [HLA.out] at hrec
      have BJ := hide (BK.out.trans (hbJ.mono BK.out.size))
      have hs := starts_any (F7.out.below BJ.out) hrec HOKA.out (by rw [HLAL.out]; omega)
      rw [starts_refl] at hs
      have SJ := hide (SK.out.below hbJ)
      clear hrec hbJ
      go_wp2_with (first
        | (at_builtin; refine wpList_run (by first | rfl | simp [Region.wanted, yielded]) (.tmp 117) (.tmp 118) 34 rfl rfl rfl hrun ?_)
        | (go_at_call 24; ((with_reducible refine hs.mono ?_); rintro e w8 ⟨rfl, hb8⟩; have B8 := hide (BJ.out.trans (hb8.mono BJ.out.size)); obtain ⟨vK, wK, hrunK, hrecK, hbK⟩ := joined_at (G7.out.below B8.out).two NB.out (by omega) (SJ.out.below hb8); rw [HLB.out] at hrecK; have B9 := hide (B8.out.trans (hbK.mono B8.out.size)); have hsK := starts_any (E7H.out.below B9.out) hrecK HOKB.out (by rw [HLBL.out]; omega); rw [starts_refl] at hsK; clear hb8 hs hrecK hbK hrun))
        | (at_builtin; refine wpList_run (by first | rfl | simp [Region.wanted, yielded]) (.tmp 125) (.tmp 126) 34 rfl rfl rfl hrunK ?_)
        | (go_at_call 24; ((with_reducible refine hsK.mono ?_); rintro e w9 ⟨rfl, hb9⟩; have BE := hide (B9.out.trans (hb9.mono B9.out.size)); clear hb9 hsK)))
      go_ret
      exact ⟨rfl, HBW.out.trans ((Q7.out.below HBW.out.size (fun k hk => Nat.lt_of_lt_of_le hk B0.out.size)).trans (BE.out.mono (Nat.le_trans HBW.out.size Q7.out.size)))⟩
end Go.Proofs.Ytlmoiepbnnfebaa
