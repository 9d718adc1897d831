/-
  LanePlaces' walk.
-/
import Derived.Test.YtlmoiepbnnfebaaBox
namespace Go.Proofs.Ytlmoiepbnnfebaa
open Go.RowKit
set_option maxRecDepth 20000
set_option linter.unusedSimpArgs false
set_option linter.unusedVariables false

set_option maxHeartbeats 8000000 in
theorem places_walk (v : Value) (cs : List SeedD) (x : Int) (w : World) (hv : SeedRow w w.heap.size v cs) (_ : (Lit.int .i64 x).wf = true) :
    Calls Try.prog 4 #[v, .int .i64 x] w fun e w' => e = .returned (.bool true) ∧ Below w.heap.size w w' := by
  obtain ⟨Av, cv, ev, _, _⟩ := id hv
  subst ev
  have HV := hide hv
  obtain ⟨m, hm, hand⟩ := and15 x
  have hfit := fit_any w
  have hsl := fun W => run_slice_one (P := Try.prog) W 34 33 #[.int .i64 9, .int .i64 0, .int .i64 0, .int .i64 0, .string ⟨#[]⟩, .string ⟨#[]⟩, .string ⟨#[]⟩, .slice none 0 0] #[.int .i64 0, .int .i64 0, .int .i64 0, .int .i64 0, .string ⟨#[]⟩, .string ⟨#[]⟩, .string ⟨#[]⟩, .slice none 0 0] 8 104 Try.underlying34 infoRec3 rfl (by omega) (by omega)
  clear hv
  by_cases h30 : 30 < cs.length
  · go_enter Try.func4, Try.ntmps4
    go_wp2_with (go_at_call 12; ((with_reducible refine hfit.mono ?_); rintro e w0 ⟨rfl, hb0⟩; have B0 := hide hb0; have hnew := disk_new1 w0; clear hb0 hfit))
    go_ret
    exact ⟨rfl, B0.out⟩
  have h30' : ¬ (30 : Int) < (cs.length : Int) := by omega
  go_enter Try.func4, Try.ntmps4
  go_wp2_with (first
    | (go_at_call 12; ((with_reducible refine hfit.mono ?_); rintro e w0 ⟨rfl, hb0⟩; have B0 := hide hb0; have hnew := disk_new1 w0; clear hb0 hfit))
    | (go_at_call 14; ((with_reducible refine hnew.mono ?_); rintro e w1 ⟨dg, d, rfl, hm1, hd1, hdn, hb1⟩; have B1 := hide hb1; have hln := la_new0 hm1 hd1 hdn (by omega); clear hb1 hm1 hd1 hnew))
    | (go_at_call 15; ((with_reducible refine hln.mono ?_); rintro e w2 ⟨g, rfl, hv2, ho2⟩; have V2 := hide hv2; have O2 := hide ho2; clear hv2 ho2 hln)))
  have BW1 := hide (B0.out.trans ((B1.out.trans ((O2.out.below B1.out.size (fun k hk => hk)).mono (Nat.le_refl _))).mono B0.out.size))
  have hlen0 : (11 : Int) = ((frsR [checkR]).length : Int) := by rw [frs_check]; rfl
  go_loopw [8, 9, 30] (fun gv av i wr => ∃ (j gn L s : Nat) (X : Nat → Prop) (all : List Rc), j ≤ cs.length ∧ i = .int .i64 j ∧ gv = .int .u64 gn ∧ av = .int .i64 L ∧ (frsR all).length = L ∧ gn ≤ j + 1 ∧ all.length ≤ j + 2 ∧ (∀ k, k < w0.heap.size → X k) ∧ Live wr X dg g 0 538 (700 + j * 700) gn true all s ∧ Out (fun k => k < w0.heap.size) w1 wr) (fun _ _ i _ => cs.length - (intOf i).toNat)
  case atStart => exact ⟨0, 1, 11, 1, _, [checkR], by omega, rfl, rfl, rfl, frs_check, by omega, by simp, fun k hk => hk, V2.out, O2.out⟩
  case round =>
    obtain ⟨j, gn, L, s, X, all, hj, rfl, rfl, rfl, hL, hgn, hal, hX, hlv, ho⟩ := hrel
    have hL2 := frs_le hlv.ok hal
    have hbw : Below w.heap.size w wr := B0.out.trans ((B1.out.trans ((ho.below B1.out.size (fun k hk => hk)).mono (Nat.le_refl _))).mono B0.out.size)
    have V := hide hlv
    have HX := hide hX
    have O := hide ho
    clear hlv hX ho
    by_cases hlt : j < cs.length
    · obtain ⟨b, o, cap, he, A2, n, c2, hn, hrange, hrow⟩ := seed_at HV.out hbw hlt
      injection he with e1 e2 e3
      subst e1
      subst e3
      have HRG := hide hrange
      have XIS := hide infoSeed
      have XIR := hide infoRec
      have HN := hide hn
      have HU := hide (HV.out.us cs[j] (List.getElem_mem hlt))
      have HBW := hide hbw
      have hj0 : (0 : Int) ≤ (j : Int) := by omega
      have hj1 : (j : Int) < (cs.length : Int) := by omega
      have HB5 := hide (hbw.alloc hbw.size (.cells #[.int .i64 cs[j].k, .int .i64 cs[j].t, .int .i64 cs[j].p, .int .i64 cs[j].s, .int .u8 (cs[j].b.toNat : Int), .int .u8 (cs[j].a.toNat : Int), .int .u8 (cs[j].i.toNat : Int), .slice A2 n c2] 36))
      have HR5 := hide ((show Rd wr (.slice A2 n c2) (u64s cs[j].ds) from hrow.more hbw.size).alloc (.cells #[.int .i64 cs[j].k, .int .i64 cs[j].t, .int .i64 cs[j].p, .int .i64 cs[j].s, .int .u8 (cs[j].b.toNat : Int), .int .u8 (cs[j].a.toNat : Int), .int .u8 (cs[j].i.toNat : Int), .slice A2 n c2] 36))
      obtain ⟨r, hr⟩ : ∃ r, seedR cs[j] = r := ⟨_, rfl⟩
      have HR := hide hr
      have HO := hide (show r.Ok by rw [← hr]; exact seedR_ok cs[j] HU.out)
      clear hrange hrow hn hr hbw
      have hfm := HO.out.most
      have HFL := hide (show (frsR all).length + r.frame.length ≤ 14336 by omega)
      have hfi : ((r.frame.length : Nat) : Int) ≤ 395 := by omega
      have hgn2 : (gn : Int) ≤ 1000 := by omega
      have hL3 : (L : Int) ≤ 20000 := by omega
      have HL := hide hL
      have HGN := hide hgn
      have HAL := hide hal
      clear hL hL2 hfm hgn hal
      by_cases h100 : 100 < n
      · have h100' : (100 : Int) < (n : Int) := by omega
        go_wp2_with ((with_reducible refine wpList_load_mid rfl 36 (.tmp 33) rfl b (o + j * 8) rfl [.int .i64 cs[j].k, .int .i64 cs[j].t, .int .i64 cs[j].p, .int .i64 cs[j].s, .int .u8 (cs[j].b.toNat : Int), .int .u8 (cs[j].a.toNat : Int), .int .u8 (cs[j].i.toNat : Int), .slice A2 n c2] _ ?_ Try.underlying36 ?_ ?_ ?_); exact HRG.out; rfl; exact XIS.out)
        go_ret
        exact ⟨rfl, HB5.out⟩
      have h100' : ¬ (100 : Int) < (n : Int) := by omega
      by_cases hjm : j = m
      · subst hjm
        have hsl2 : ∀ (A6 : Option Addr) (c6 : Nat) (W : World), (Instr.buildSlice 34 2 #[(0, .agg #[.int .i64 (r.k : Int), .int .i64 (r.t : Int), .int .i64 (r.p : Int), .int .i64 (r.s : Int), .string r.b, .string r.a, .string r.i, .slice A6 r.ds.length c6]), (1, .agg #[.int .i64 (r.k : Int), .int .i64 (r.t : Int), .int .i64 (r.p : Int), .int .i64 (r.s : Int), .string r.b, .string r.a, .string r.i, .slice A6 r.ds.length c6])]).run Try.prog W = .ok (.slice (some ⟨W.heap.size, 0, none⟩) 2 2) (W.alloc (.cells #[.int .i64 (r.k : Int), .int .i64 (r.t : Int), .int .i64 (r.p : Int), .int .i64 (r.s : Int), .string r.b, .string r.a, .string r.i, .slice A6 r.ds.length c6, .int .i64 (r.k : Int), .int .i64 (r.t : Int), .int .i64 (r.p : Int), .int .i64 (r.s : Int), .string r.b, .string r.a, .string r.i, .slice A6 r.ds.length c6] 33)) := fun A6 c6 W =>
          run_slice_two W 34 33 #[.int .i64 (r.k : Int), .int .i64 (r.t : Int), .int .i64 (r.p : Int), .int .i64 (r.s : Int), .string r.b, .string r.a, .string r.i, .slice A6 r.ds.length c6] #[.int .i64 (r.k : Int), .int .i64 (r.t : Int), .int .i64 (r.p : Int), .int .i64 (r.s : Int), .string r.b, .string r.a, .string r.i, .slice A6 r.ds.length c6] #[.int .i64 0, .int .i64 0, .int .i64 0, .int .i64 0, .string ⟨#[]⟩, .string ⟨#[]⟩, .string ⟨#[]⟩, .slice none 0 0] 8 104 Try.underlying34 infoRec3 rfl rfl rfl (by omega) (by omega)
        go_wp2_with (first
          | ((with_reducible refine wpList_load_mid rfl 36 (.tmp 33) rfl b (o + j * 8) rfl [.int .i64 cs[j].k, .int .i64 cs[j].t, .int .i64 cs[j].p, .int .i64 cs[j].s, .int .u8 (cs[j].b.toNat : Int), .int .u8 (cs[j].a.toNat : Int), .int .u8 (cs[j].i.toNat : Int), .slice A2 n c2] _ ?_ Try.underlying36 ?_ ?_ ?_); exact HRG.out; rfl; exact XIS.out)
          | (go_at_call 16; ((with_reducible refine (seed_in cs[j] A2 n c2 _ HN.out HR.out HR5.out).mono ?_); rintro e w6 ⟨A6, c6, rfl, R6, hb6⟩; have h56 := (below_new wr (.cells #[.int .i64 cs[j].k, .int .i64 cs[j].t, .int .i64 cs[j].p, .int .i64 cs[j].s, .int .u8 (cs[j].b.toNat : Int), .int .u8 (cs[j].a.toNat : Int), .int .u8 (cs[j].i.toNat : Int), .slice A2 n c2] 36)).trans (hb6.mono (by simp)); have V7 := hide (V.out.box h56 #[.int .i64 (r.k : Int), .int .i64 (r.t : Int), .int .i64 (r.p : Int), .int .i64 (r.s : Int), .string r.b, .string r.a, .string r.i, .slice A6 r.ds.length c6]); have K7 := hide (RBox.new_ (X := X) (wr := wr) (by simp) hb6.size R6); have HB7 := hide (HBW.out.trans (((h56.alloc h56.size (.cells #[.int .i64 (r.k : Int), .int .i64 (r.t : Int), .int .i64 (r.p : Int), .int .i64 (r.s : Int), .string r.b, .string r.a, .string r.i, .slice A6 r.ds.length c6] 33))).mono HBW.out.size)); have P7 := hide (h56.alloc h56.size (.cells #[.int .i64 (r.k : Int), .int .i64 (r.t : Int), .int .i64 (r.p : Int), .int .i64 (r.s : Int), .string r.b, .string r.a, .string r.i, .slice A6 r.ds.length c6] 33)); have hap := la_append V7.out HO.out K7.out.rd HFL.out; unfold ptr at hap; rw [HL.out] at hap; clear R6 hb6 h56))
          | (go_at_call 17; ((with_reducible refine hap.mono ?_); rintro e w8 ⟨rfl, hv8, ho8⟩; have V8 := hide hv8; have O8 := hide ho8; have K8 := hide (K7.out.out ho8); have RG8 := hide K8.out.rng; clear hv8 ho8 hap))
          | ((with_reducible refine wpList_load_mid rfl 33 (.tmp 12) rfl w6.heap.size 0 rfl [.int .i64 (r.k : Int), .int .i64 (r.t : Int), .int .i64 (r.p : Int), .int .i64 (r.s : Int), .string r.b, .string r.a, .string r.i, .slice A6 r.ds.length c6] _ ?_ Try.underlying33 ?_ ?_ ?_); exact RG8.out; rfl; exact XIR.out)
          | ((with_reducible refine wpList_load_mid rfl 33 (.tmp 12) rfl w6.heap.size 0 rfl [.int .i64 (r.k : Int), .int .i64 (r.t : Int), .int .i64 (r.p : Int), .int .i64 (r.s : Int), .string r.b, .string r.a, .string r.i, .slice A6 r.ds.length c6] _ ?_ Try.underlying33 ?_ ?_ ?_); exact RG9.out; rfl; exact XIR.out)
          | ((with_reducible refine wpList_load_mid rfl 33 (.tmp 12) rfl w6.heap.size 0 rfl [.int .i64 (r.k : Int), .int .i64 (r.t : Int), .int .i64 (r.p : Int), .int .i64 (r.s : Int), .string r.b, .string r.a, .string r.i, .slice A6 r.ds.length c6] _ ?_ Try.underlying33 ?_ ?_ ?_); exact RGA.out; rfl; exact XIR.out)
          | (go_at_call 19; ((with_reducible refine (enc_told r A6 c6 _ HO.out K8.out.rd).mono ?_); rintro e w9 ⟨A7, c7, rfl, m7, hb9⟩; have V9 := hide (V8.out.below hb9); have K9 := hide (K8.out.below hb9); have RG9 := hide K9.out.rng; have O9 := hide (O8.out.trans (Out.of_below hb9)); have BA := hide ((below_new w9 (.cells #[.int .i64 (r.k : Int), .int .i64 (r.t : Int), .int .i64 (r.p : Int), .int .i64 (r.s : Int), .string r.b, .string r.a, .string r.i, .slice A6 r.ds.length c6, .int .i64 (r.k : Int), .int .i64 (r.t : Int), .int .i64 (r.p : Int), .int .i64 (r.s : Int), .string r.b, .string r.a, .string r.i, .slice A6 r.ds.length c6] 33))); have KA := hide (K9.out.below BA.out); have hdA := KA.out.ds.keep (Y := fun _ => True) (fun _ _ _ => rfl) (Nat.le_refl _) (fun _ _ _ => trivial); have han := la_anew_up (V9.out.below BA.out) (by omega) (by omega) (by simp) (recs_two (r := r) (q := r) rfl hdA hdA) (fun q hq => by simp at hq; rw [hq]; exact HO.out) (by rw [frs_two]; have := HO.out.most; omega); clear hdA m7 hb9))
          | (go_at_call 21; ((with_reducible refine han.mono ?_); rintro e wA ⟨rfl, hvA, hoA⟩; have VA := hide hvA; have OA := hide (O9.out.trans ((Out.of_below BA.out).trans hoA)); have KB := hide (KA.out.out hoA); have RGA := hide KB.out.rng; clear hvA hoA han))
          | (go_at_call 19; ((with_reducible refine (enc_told r A6 c6 _ HO.out KB.out.rd).mono ?_); rintro e wB ⟨A8, c8, rfl, m8, hbB⟩; have VB := hide (VA.out.below hbB); have OB := hide (OA.out.trans (Out.of_below hbB)); clear m8 hbB)))
        go_roundw
        case rel => exact ⟨j + 1, gn + 1, _, 2, Ext X wr.heap.size (w6.heap.size + 1), [r, r], by omega, by go_num, by go_num, by rw [frs_two]; go_num, rfl, by have := HGN.out; omega, by simp, fun k hk => .inl (HX.out k hk), VB.out.upto (by omega), O.out.trans ((Out.of_below P7.out).trans (OB.out.less (fun k hk => .inl (HX.out k hk))))⟩
        case measure => simp [intOf]; omega
      · have hjm' : ¬ (j : Int) = (m : Int) := by omega
        go_wp2_with (first
          | ((with_reducible refine wpList_load_mid rfl 36 (.tmp 33) rfl b (o + j * 8) rfl [.int .i64 cs[j].k, .int .i64 cs[j].t, .int .i64 cs[j].p, .int .i64 cs[j].s, .int .u8 (cs[j].b.toNat : Int), .int .u8 (cs[j].a.toNat : Int), .int .u8 (cs[j].i.toNat : Int), .slice A2 n c2] _ ?_ Try.underlying36 ?_ ?_ ?_); exact HRG.out; rfl; exact XIS.out)
          | (go_at_call 16; ((with_reducible refine (seed_in cs[j] A2 n c2 _ HN.out HR.out HR5.out).mono ?_); rintro e w6 ⟨A6, c6, rfl, R6, hb6⟩; have h56 := (below_new wr (.cells #[.int .i64 cs[j].k, .int .i64 cs[j].t, .int .i64 cs[j].p, .int .i64 cs[j].s, .int .u8 (cs[j].b.toNat : Int), .int .u8 (cs[j].a.toNat : Int), .int .u8 (cs[j].i.toNat : Int), .slice A2 n c2] 36)).trans (hb6.mono (by simp)); have V7 := hide (V.out.box h56 #[.int .i64 (r.k : Int), .int .i64 (r.t : Int), .int .i64 (r.p : Int), .int .i64 (r.s : Int), .string r.b, .string r.a, .string r.i, .slice A6 r.ds.length c6]); have K7 := hide (RBox.new_ (X := X) (wr := wr) (by simp) hb6.size R6); have HB7 := hide (HBW.out.trans (((h56.alloc h56.size (.cells #[.int .i64 (r.k : Int), .int .i64 (r.t : Int), .int .i64 (r.p : Int), .int .i64 (r.s : Int), .string r.b, .string r.a, .string r.i, .slice A6 r.ds.length c6] 33))).mono HBW.out.size)); have P7 := hide (h56.alloc h56.size (.cells #[.int .i64 (r.k : Int), .int .i64 (r.t : Int), .int .i64 (r.p : Int), .int .i64 (r.s : Int), .string r.b, .string r.a, .string r.i, .slice A6 r.ds.length c6] 33)); have hap := la_append V7.out HO.out K7.out.rd HFL.out; unfold ptr at hap; rw [HL.out] at hap; clear R6 hb6 h56))
          | (go_at_call 17; ((with_reducible refine hap.mono ?_); rintro e w8 ⟨rfl, hv8, ho8⟩; have V8 := hide hv8; have O8 := hide ho8; have K8 := hide (K7.out.out ho8); have RG8 := hide K8.out.rng; clear hv8 ho8 hap))
          | ((with_reducible refine wpList_load_mid rfl 33 (.tmp 12) rfl w6.heap.size 0 rfl [.int .i64 (r.k : Int), .int .i64 (r.t : Int), .int .i64 (r.p : Int), .int .i64 (r.s : Int), .string r.b, .string r.a, .string r.i, .slice A6 r.ds.length c6] _ ?_ Try.underlying33 ?_ ?_ ?_); exact RG8.out; rfl; exact XIR.out)
          | (go_at_call 19; ((with_reducible refine (enc_told r A6 c6 _ HO.out K8.out.rd).mono ?_); rintro e w9 ⟨A7, c7, rfl, m7, hb9⟩; have V9 := hide (V8.out.below hb9); have K9 := hide (K8.out.below hb9); have RG9 := hide K9.out.rng; have O9 := hide (O8.out.trans (Out.of_below hb9)); clear m7 hb9)))
        go_roundw
        case rel => exact ⟨j + 1, gn, _, s, Ext X wr.heap.size (w6.heap.size + 1), all ++ [r], by omega, by go_num, rfl, by rw [frsR_append, frsR_one, List.length_append, HL.out]; go_num, rfl, by have := HGN.out; omega, by rw [List.length_append, List.length_singleton]; have := HAL.out; omega, fun k hk => .inl (HX.out k hk), V9.out.upto (by omega), O.out.trans ((Out.of_below P7.out).trans (O9.out.less (fun k hk => .inl (HX.out k hk))))⟩
        case measure => simp [intOf]; omega
    · obtain rfl : j = cs.length := by omega
      have hz := la_zero V.out
      have hlt1 : ¬ (cs.length : Int) < (cs.length : Int) := by omega
      have HL := hide hL
      have hk40 : 700 + cs.length * 700 ≤ 400000 := by omega
      clear hL hL2 hgn hal
      go_wp2_with (first
        | (go_at_call 17; ((with_reducible refine hz.mono ?_); rintro e w3 ⟨rfl, hb3⟩; have hfl := la_flush_up (V.out.below hb3) (by omega); have O3 := hide (O.out.trans (Out.of_below hb3)); clear hb3 hz))
        | (go_at_call 20; ((with_reducible refine hfl.mono ?_); rintro e w4 ⟨rfl, hv4, ho4⟩; have hle := la_len hv4; rw [HL.out] at hle; unfold ptr at hle; have O4 := hide (O3.out.trans (ho4.less HX.out)); clear hv4 ho4 hfl))
        | (go_at_call 26; ((with_reducible refine hle.mono ?_); rintro e w5 ⟨rfl, hb5⟩; have hni := la_nine w5 g; have O5 := hide (O4.out.trans (Out.of_below hb5)); clear hb5 hle))
        | (go_at_call 21; ((with_reducible refine hni.mono ?_); rintro e w7 ⟨rfl, hb7⟩; have O7 := hide (O5.out.trans (Out.of_below hb7)); clear hb7 hni)))
      go_ret
      exact ⟨rfl, B0.out.trans ((B1.out.trans ((O7.out.below B1.out.size (fun k hk => hk)).mono (Nat.le_refl _))).mono B0.out.size)⟩
end Go.Proofs.Ytlmoiepbnnfebaa
