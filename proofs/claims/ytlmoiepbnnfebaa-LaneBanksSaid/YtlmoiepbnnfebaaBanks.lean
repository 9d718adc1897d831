/-
  LaneBanks' walk.
-/
import Derived.Test.YtlmoiepbnnfebaaBan
import Derived.WalkKit
namespace Go.Proofs.Ytlmoiepbnnfebaa
open Go.RowKit
set_option maxRecDepth 20000
set_option linter.unusedSimpArgs false
set_option linter.unusedVariables false

theorem and63 (x : Int) : ∃ m : Nat, m < 64 ∧ bits .and .i64 x 63 = (m : Int) := and_low x 6 (by omega)
theorem starts_yes (al : List Rc) : startsB al al = true := startsB_iff.2 ⟨Nat.le_refl _, (List.take_length ..).symm⟩
set_option maxHeartbeats 8000000 in
theorem banks_walk (v : Value) (cs : List SeedD) (v2 : Value) (l : List Int) (mask : Int) (w : World) (hv : SeedRow w w.heap.size v cs) (hv2 : Row w w.heap.size v2 (l.map fun x => .int .i64 x)) (hm : (Lit.int .u64 mask).wf = true) :
    Calls Try.prog 10 #[v, v2, .int .u64 mask] w fun e w' => e = .returned (.bool true) ∧ Below w.heap.size w w' := by
  obtain ⟨Av, cv, ev, _, _⟩ := id hv
  obtain ⟨Al, cl, el, _, _⟩ := id hv2
  subst ev
  rw [List.length_map] at el
  subst el
  have HV := hide hv
  have HV2 := hide hv2
  have hfit := fit_any w
  obtain ⟨M, rfl, _⟩ := wf_u64 hm
  have hsl := fun W => run_slice_one (P := Try.prog) W 34 33 #[.int .i64 1, .int .i64 0, .int .i64 0, .int .i64 0, .string ⟨#[]⟩, .string ⟨#[]⟩, .string ⟨#[]⟩, .slice none 0 0] #[.int .i64 0, .int .i64 0, .int .i64 0, .int .i64 0, .string ⟨#[]⟩, .string ⟨#[]⟩, .string ⟨#[]⟩, .slice none 0 0] 8 104 Try.underlying34 infoRec3 rfl (by omega) (by omega)
  clear hv hv2
  have early : ∀ Q : Prop, Q → Q := fun _ h => h
  by_cases h0 : cs.length = 0
  · have h0' : ((cs.length : Int) == 0) = true := by simp only [beq_iff_eq]; omega
    go_enter Try.func10, Try.ntmps10
    go_wp2_with (go_at_call 12; ((with_reducible refine hfit.mono ?_); rintro e w0 ⟨rfl, hb0⟩; have B0 := hide hb0; have hnew := disk_new1 w0; clear hb0 hfit))
    go_ret
    exact ⟨rfl, B0.out⟩
  have h0' : ((cs.length : Int) == 0) = false := by rw [beq_eq_false_iff_ne]; omega
  by_cases h10 : 10 < cs.length
  · have h10' : decide ((10 : Int) < (cs.length : Int)) = true := by rw [decide_eq_true_eq]; omega
    go_enter Try.func10, Try.ntmps10
    go_wp2_with (go_at_call 12; ((with_reducible refine hfit.mono ?_); rintro e w0 ⟨rfl, hb0⟩; have B0 := hide hb0; have hnew := disk_new1 w0; clear hb0 hfit))
    go_ret
    exact ⟨rfl, B0.out⟩
  have h10' : decide ((10 : Int) < (cs.length : Int)) = false := by rw [decide_eq_false_iff_not]; omega
  by_cases h8 : 8 < l.length
  · have h8' : decide ((8 : Int) < (l.length : Int)) = true := by rw [decide_eq_true_eq]; omega
    go_enter Try.func10, Try.ntmps10
    go_wp2_with (go_at_call 12; ((with_reducible refine hfit.mono ?_); rintro e w0 ⟨rfl, hb0⟩; have B0 := hide hb0; have hnew := disk_new1 w0; clear hb0 hfit))
    go_ret
    exact ⟨rfl, B0.out⟩
  have h8' : decide ((8 : Int) < (l.length : Int)) = false := by rw [decide_eq_false_iff_not]; omega
  have hcs : 0 < cs.length := by omega
  have hl8 : l.length ≤ 8 := by omega
  clear early
  go_enter Try.func10, Try.ntmps10
  go_upto_region 9 with (first
    | (go_at_call 12; ((with_reducible refine hfit.mono ?_); rintro e w0 ⟨rfl, hb0⟩; have B0 := hide hb0; have hnew := disk_new1 w0; clear hb0 hfit))
    | (go_at_call 14; ((with_reducible refine hnew.mono ?_); rintro e w1 ⟨dg, d, rfl, hm1, hd1, hdn, hb1⟩; have B1 := hide hb1; have hln := la_new0 hm1 hd1 hdn (by omega); clear hb1 hm1 hd1 hnew))
    | (go_at_call 15; ((with_reducible refine hln.mono ?_); rintro e w2 ⟨g, rfl, hv2, ho2⟩; have V2 := hide hv2; have O2 := hide ho2; clear hv2 ho2 hln)))
  have BK := hide (below_new w2 (.cells #[.int .i64 1, .int .i64 0, .int .i64 0, .int .i64 0, .string ⟨#[]⟩, .string ⟨#[]⟩, .string ⟨#[]⟩, .slice none 0 0] 33))
  have RK : RecsAt (w2.alloc (.cells #[.int .i64 1, .int .i64 0, .int .i64 0, .int .i64 0, .string ⟨#[]⟩, .string ⟨#[]⟩, .string ⟨#[]⟩, .slice none 0 0] 33)) (fun k => w2.heap.size ≤ k) (.slice (some ⟨w2.heap.size, 0, none⟩) 1 1) [checkR] := by
    refine ⟨_, _, rfl, Nat.le_refl _, fun _ => ⟨_, _, rfl, by simp, Nat.le_refl _, fun j q hj => ?_⟩⟩
    match j, hj with
    | 0, hj =>
      obtain rfl : checkR = q := by simpa using hj
      refine ⟨.slice none 0 0, ?_, rin_nil _ _ _ _⟩
      rw [Nat.zero_mul, Nat.zero_add]
      exact rangeAt_new w2 _ _
    | j + 1, hj => simp at hj
  have RK0 := hide (RK.sub (Y := Ext (fun k => k < w0.heap.size) w2.heap.size (w2.heap.size + 1)) (fun k hk hx => .inr ⟨hx, by simpa using hk⟩))
  have VK0 := hide (V2.out.more (Y := Ext (fun k => k < w0.heap.size) w2.heap.size (w2.heap.size + 1)) BK.out (fun k hk => hk.imp id (fun h => ⟨h.1, by simpa using h.2⟩)))
  clear RK
  go_loopw [8, 10, 44] (fun xv nv i wr => ∃ (j gx gen : Nat) (X : Nat → Prop) (all : List Rc), j ≤ l.length ∧ i = .int .i64 j ∧ xv = .pointer (some ⟨gx, 0, none⟩) ∧ gen ≤ j + 1 ∧ all.length ≤ 3 ∧ (∀ k, k < w0.heap.size → X k) ∧ RecsAt wr X nv all ∧ Live wr X dg gx 0 538 (700 + j * 1500) gen true all all.length ∧ Out (fun k => k < w0.heap.size) w1 wr) (fun _ _ i _ => l.length - (intOf i).toNat)
  case atStart => exact ⟨0, g, 1, _, [checkR], by omega, rfl, rfl, by omega, by simp, fun k hk => .inl hk, RK0.out, VK0.out, O2.out.trans (Out.of_below BK.out)⟩
  case round =>
    obtain ⟨j, gx, gen, X, all, hj, rfl, rfl, hgn, hal, hX, hrec, hlv, ho⟩ := hrel
    obtain ⟨An, cn, rfl, _⟩ := hrec.form
    have hbw : Below w.heap.size w wr := B0.out.trans ((B1.out.trans ((ho.below B1.out.size (fun k hk => hk)).mono (Nat.le_refl _))).mono B0.out.size)
    have V := hide hlv
    have HX := hide hX
    have O := hide ho
    have RN := hide hrec
    have HAL := hide hal
    have HGN := hide hgn
    clear hlv hX ho hrec hal
    by_cases hlt : j < l.length
    · obtain ⟨q, hq⟩ : ∃ q, j % cs.length = q := ⟨_, rfl⟩
      have hqlt : q < cs.length := by rw [← hq]; exact Nat.mod_lt _ hcs
      have hrem : (j : Int).tmod (cs.length : Int) = (q : Int) := by rw [Int.tmod_eq_emod_of_nonneg (by omega)]; have := congrArg Int.ofNat hq; simpa using this
      obtain ⟨b, o, cap, he, A2, n, c2, hn, hrange, hrow⟩ := seed_at HV.out hbw hqlt
      injection he with e1 e2 e3
      subst e1
      subst e3
      obtain ⟨x, hx⟩ : ∃ x, cs[q] = x := ⟨_, rfl⟩
      have HU := hide (HV.out.us cs[q] (List.getElem_mem hqlt))
      rw [hx] at hn hrange hrow HU
      have HRG := hide hrange
      have XIS := hide infoSeed
      have HN := hide hn
      have HBW := hide hbw
      have hj0 : (0 : Int) ≤ (j : Int) := by omega
      have hj1 : (j : Int) < (l.length : Int) := by omega
      have hq0 : (0 : Int) ≤ (q : Int) := by omega
      have hq1 : (q : Int) < (cs.length : Int) := by omega
      have HB5 := hide (hbw.alloc hbw.size (.cells #[.int .i64 x.k, .int .i64 x.t, .int .i64 x.p, .int .i64 x.s, .int .u8 (x.b.toNat : Int), .int .u8 (x.a.toNat : Int), .int .u8 (x.i.toNat : Int), .slice A2 n c2] 36))
      have HR5 := hide ((show Rd wr (.slice A2 n c2) (u64s x.ds) from hrow.more hbw.size).alloc (.cells #[.int .i64 x.k, .int .i64 x.t, .int .i64 x.p, .int .i64 x.s, .int .u8 (x.b.toNat : Int), .int .u8 (x.a.toNat : Int), .int .u8 (x.i.toNat : Int), .slice A2 n c2] 36))
      have HSX := hide (Blk.new_ wr #[.int .i64 x.k, .int .i64 x.t, .int .i64 x.p, .int .i64 x.s, .int .u8 (x.b.toNat : Int), .int .u8 (x.a.toNat : Int), .int .u8 (x.i.toNat : Int), .slice A2 n c2] 36 rfl)
      have HLT := hide HSX.out.lt
      obtain ⟨r, hr⟩ : ∃ r, seedR x = r := ⟨_, rfl⟩
      have HR := hide hr
      have HO := hide (show r.Ok by rw [← hr]; exact seedR_ok x HU.out)
      -- the number
      obtain ⟨z, hz⟩ : ∃ z, l[j]? = some z := ⟨_, List.getElem?_eq_getElem hlt⟩
      obtain ⟨Al', cl', el, _, hcl⟩ := HV2.out
      rw [List.length_map] at el hcl
      obtain ⟨b2, o2, eAl, hb2, hrd2⟩ := hcl (by omega)
      injection el with ea eb ec
      subst ea
      subst ec
      subst eAl
      have hcz : wr.cell? ⟨b2, o2 + j, none⟩ = some (.int .i64 z) := (hbw.cell hb2).trans (hrd2 j _ (by rw [List.getElem?_map, hz]; rfl))
      obtain ⟨m, hm63, hand⟩ := and63 z
      clear hrange hrow hn hr hbw hq hcl hrd2 hz
      by_cases h100 : 100 < n
      · have h100' : (100 : Int) < (n : Int) := by omega
        go_wp2_with ((with_reducible refine wpList_load_mid rfl 36 (.tmp 54) rfl b (o + q * 8) rfl [.int .i64 x.k, .int .i64 x.t, .int .i64 x.p, .int .i64 x.s, .int .u8 (x.b.toNat : Int), .int .u8 (x.a.toNat : Int), .int .u8 (x.i.toNat : Int), .slice A2 n c2] _ ?_ Try.underlying36 ?_ ?_ ?_); exact HRG.out; rfl; exact XIS.out)
        go_ret
        exact ⟨rfl, HB5.out⟩
      have h100' : ¬ (100 : Int) < (n : Int) := by omega
      go_upto_region 14 with ((with_reducible refine wpList_load_mid rfl 36 (.tmp 54) rfl b (o + q * 8) rfl [.int .i64 x.k, .int .i64 x.t, .int .i64 x.p, .int .i64 x.s, .int .u8 (x.b.toNat : Int), .int .u8 (x.a.toNat : Int), .int .u8 (x.i.toNat : Int), .slice A2 n c2] _ ?_ Try.underlying36 ?_ ?_ ?_); exact HRG.out; rfl; exact XIS.out)
      refine region_grows [Say.is (.agg #[.int .i64 x.k, .int .i64 x.t, .int .i64 x.p, .int .i64 x.s, .int .u8 (x.b.toNat : Int), .int .u8 (x.a.toNat : Int), .int .u8 (x.i.toNat : Int), .slice A2 n c2]), Say.rcb wr.heap.size r, Say.is (.agg #[.int .i64 1, .int .i64 0, .int .i64 0, .int .i64 0, .string ⟨#[]⟩, .string ⟨#[]⟩, .string ⟨#[]⟩, .slice none 0 0]), Say.is (.agg #[.int .i64 x.k, .int .i64 x.t, .int .i64 x.p, .int .i64 x.s, .int .u8 (x.b.toNat : Int), .int .u8 (x.a.toNat : Int), .int .u8 (x.i.toNat : Int), .slice A2 n c2]), Say.rcb wr.heap.size r, Say.rec3 wr.heap.size r checkR r, Say.rec3 wr.heap.size r checkR r] (by kernel_rfl) (by kernel_rfl) (by kernel_rfl) (by kernel_rfl) ?_ ?_
      · intro i o ho a w2 hb hsz old dep
        match i, ho with
        | 0, ho =>
          obtain rfl := Option.some.inj ho
          have o13 : a.tmps.getD 13 undef = _ := old 13 (by kernel_rfl)
          rw [if_pos (wanted_none rfl)]
          have g0 := (hb.cell (p := ⟨wr.heap.size, 0, none⟩) HLT.out).trans (HSX.out.cell 0 _ rfl)
          have g1 := (hb.cell (p := ⟨wr.heap.size, 1, none⟩) HLT.out).trans (HSX.out.cell 1 _ rfl)
          have g2 := (hb.cell (p := ⟨wr.heap.size, 2, none⟩) HLT.out).trans (HSX.out.cell 2 _ rfl)
          have g3 := (hb.cell (p := ⟨wr.heap.size, 3, none⟩) HLT.out).trans (HSX.out.cell 3 _ rfl)
          have g4 := (hb.cell (p := ⟨wr.heap.size, 4, none⟩) HLT.out).trans (HSX.out.cell 4 _ rfl)
          have g5 := (hb.cell (p := ⟨wr.heap.size, 5, none⟩) HLT.out).trans (HSX.out.cell 5 _ rfl)
          have g6 := (hb.cell (p := ⟨wr.heap.size, 6, none⟩) HLT.out).trans (HSX.out.cell 6 _ rfl)
          have g7 := (hb.cell (p := ⟨wr.heap.size, 7, none⟩) HLT.out).trans (HSX.out.cell 7 _ rfl)
          refine grow_same (v := .agg #[.int .i64 x.k, .int .i64 x.t, .int .i64 x.p, .int .i64 x.s, .int .u8 (x.b.toNat : Int), .int .u8 (x.a.toNat : Int), .int .u8 (x.i.toNat : Int), .slice A2 n c2]) ?_ rfl
          clear old dep ho hsz hb
          go_simp
        | 1, ho =>
          obtain rfl := Option.some.inj ho
          have d0 : a.tmps.getD 60 undef = .agg #[.int .i64 x.k, .int .i64 x.t, .int .i64 x.p, .int .i64 x.s, .int .u8 (x.b.toNat : Int), .int .u8 (x.a.toNat : Int), .int .u8 (x.i.toNat : Int), .slice A2 n c2] := dep 0 _ _ (by kernel_rfl) rfl rfl
          have e0 : a.tmps[60]?.getD undef = _ := (Array.getD_eq_getD_getElem? ..).symm.trans d0
          rw [if_pos (wanted_none rfl)]
          refine grow_enters (f := 16) (args := #[.agg #[.int .i64 x.k, .int .i64 x.t, .int .i64 x.p, .int .i64 x.s, .int .u8 (x.b.toNat : Int), .int .u8 (x.a.toNat : Int), .int .u8 (x.i.toNat : Int), .slice A2 n c2]]) ?_ (seed_grb _ (Nat.le_trans (by simp) hb.size) HN.out HR.out (HR5.out.below hb))
          clear old dep ho hsz hb
          go_simp
        | 2, ho =>
          obtain rfl := Option.some.inj ho
          rw [if_pos (wanted_none rfl)]
          refine grow_same (v := .agg #[.int .i64 1, .int .i64 0, .int .i64 0, .int .i64 0, .string ⟨#[]⟩, .string ⟨#[]⟩, .string ⟨#[]⟩, .slice none 0 0]) ?_ rfl
          clear old dep ho hsz hb
          go_simp
        | 3, ho =>
          obtain rfl := Option.some.inj ho
          have o13 : a.tmps.getD 13 undef = _ := old 13 (by kernel_rfl)
          rw [if_pos (wanted_none rfl)]
          have g0 := (hb.cell (p := ⟨wr.heap.size, 0, none⟩) HLT.out).trans (HSX.out.cell 0 _ rfl)
          have g1 := (hb.cell (p := ⟨wr.heap.size, 1, none⟩) HLT.out).trans (HSX.out.cell 1 _ rfl)
          have g2 := (hb.cell (p := ⟨wr.heap.size, 2, none⟩) HLT.out).trans (HSX.out.cell 2 _ rfl)
          have g3 := (hb.cell (p := ⟨wr.heap.size, 3, none⟩) HLT.out).trans (HSX.out.cell 3 _ rfl)
          have g4 := (hb.cell (p := ⟨wr.heap.size, 4, none⟩) HLT.out).trans (HSX.out.cell 4 _ rfl)
          have g5 := (hb.cell (p := ⟨wr.heap.size, 5, none⟩) HLT.out).trans (HSX.out.cell 5 _ rfl)
          have g6 := (hb.cell (p := ⟨wr.heap.size, 6, none⟩) HLT.out).trans (HSX.out.cell 6 _ rfl)
          have g7 := (hb.cell (p := ⟨wr.heap.size, 7, none⟩) HLT.out).trans (HSX.out.cell 7 _ rfl)
          refine grow_same (v := .agg #[.int .i64 x.k, .int .i64 x.t, .int .i64 x.p, .int .i64 x.s, .int .u8 (x.b.toNat : Int), .int .u8 (x.a.toNat : Int), .int .u8 (x.i.toNat : Int), .slice A2 n c2]) ?_ rfl
          clear old dep ho hsz hb
          go_simp
        | 4, ho =>
          obtain rfl := Option.some.inj ho
          have d3 : a.tmps.getD 63 undef = .agg #[.int .i64 x.k, .int .i64 x.t, .int .i64 x.p, .int .i64 x.s, .int .u8 (x.b.toNat : Int), .int .u8 (x.a.toNat : Int), .int .u8 (x.i.toNat : Int), .slice A2 n c2] := dep 3 _ _ (by kernel_rfl) rfl rfl
          have e3 : a.tmps[63]?.getD undef = _ := (Array.getD_eq_getD_getElem? ..).symm.trans d3
          rw [if_pos (wanted_none rfl)]
          refine grow_enters (f := 16) (args := #[.agg #[.int .i64 x.k, .int .i64 x.t, .int .i64 x.p, .int .i64 x.s, .int .u8 (x.b.toNat : Int), .int .u8 (x.a.toNat : Int), .int .u8 (x.i.toNat : Int), .slice A2 n c2]]) ?_ (seed_grb _ (Nat.le_trans (by simp) hb.size) HN.out HR.out (HR5.out.below hb))
          clear old dep ho hsz hb
          go_simp
        | 5, ho =>
          obtain rfl := Option.some.inj ho
          have s1 : (Say.rcb wr.heap.size r).p w2 (a.tmps.getD 61 undef) := dep 1 _ _ (by kernel_rfl) rfl rfl
          have d2 : a.tmps.getD 62 undef = .agg #[.int .i64 1, .int .i64 0, .int .i64 0, .int .i64 0, .string ⟨#[]⟩, .string ⟨#[]⟩, .string ⟨#[]⟩, .slice none 0 0] := dep 2 _ _ (by kernel_rfl) rfl rfl
          have e2 : a.tmps[62]?.getD undef = _ := (Array.getD_eq_getD_getElem? ..).symm.trans d2
          have s4 : (Say.rcb wr.heap.size r).p w2 (a.tmps.getD 64 undef) := dep 4 _ _ (by kernel_rfl) rfl rfl
          rw [if_pos (wanted_none rfl)]
          obtain ⟨A, c, e61, R61⟩ := s1
          have e1 : a.tmps[61]?.getD undef = _ := (Array.getD_eq_getD_getElem? ..).symm.trans e61
          obtain ⟨A', c', e64, R64⟩ := s4
          have e4 : a.tmps[64]?.getD undef = _ := (Array.getD_eq_getD_getElem? ..).symm.trans e64
          refine grow_yields (v := .slice (some ⟨w2.heap.size, 0, none⟩) 3 3) (w' := w2.alloc (.cells #[.int .i64 (r.k : Int), .int .i64 (r.t : Int), .int .i64 (r.p : Int), .int .i64 (r.s : Int), .string r.b, .string r.a, .string r.i, .slice A r.ds.length c, .int .i64 1, .int .i64 0, .int .i64 0, .int .i64 0, .string ⟨#[]⟩, .string ⟨#[]⟩, .string ⟨#[]⟩, .slice none 0 0, .int .i64 (r.k : Int), .int .i64 (r.t : Int), .int .i64 (r.p : Int), .int .i64 (r.s : Int), .string r.b, .string r.a, .string r.i, .slice A' r.ds.length c'] 33)) ?_ (rec3_new (Nat.le_trans (by simp) hb.size) R61 R64) ((Below.refl _ _).alloc (Nat.le_refl _) _)
          have hrun : ∀ W, (Instr.buildSlice 34 3 #[(0, .agg #[.int .i64 (r.k : Int), .int .i64 (r.t : Int), .int .i64 (r.p : Int), .int .i64 (r.s : Int), .string r.b, .string r.a, .string r.i, .slice A r.ds.length c]), (1, .agg #[.int .i64 1, .int .i64 0, .int .i64 0, .int .i64 0, .string ⟨#[]⟩, .string ⟨#[]⟩, .string ⟨#[]⟩, .slice none 0 0]), (2, .agg #[.int .i64 (r.k : Int), .int .i64 (r.t : Int), .int .i64 (r.p : Int), .int .i64 (r.s : Int), .string r.b, .string r.a, .string r.i, .slice A' r.ds.length c'])]).run Try.prog W = .ok (.slice (some ⟨W.heap.size, 0, none⟩) 3 3) (W.alloc (.cells #[.int .i64 (r.k : Int), .int .i64 (r.t : Int), .int .i64 (r.p : Int), .int .i64 (r.s : Int), .string r.b, .string r.a, .string r.i, .slice A r.ds.length c, .int .i64 1, .int .i64 0, .int .i64 0, .int .i64 0, .string ⟨#[]⟩, .string ⟨#[]⟩, .string ⟨#[]⟩, .slice none 0 0, .int .i64 (r.k : Int), .int .i64 (r.t : Int), .int .i64 (r.p : Int), .int .i64 (r.s : Int), .string r.b, .string r.a, .string r.i, .slice A' r.ds.length c'] 33)) := fun W => run_slice_three W 34 33 #[.int .i64 (r.k : Int), .int .i64 (r.t : Int), .int .i64 (r.p : Int), .int .i64 (r.s : Int), .string r.b, .string r.a, .string r.i, .slice A r.ds.length c] #[.int .i64 1, .int .i64 0, .int .i64 0, .int .i64 0, .string ⟨#[]⟩, .string ⟨#[]⟩, .string ⟨#[]⟩, .slice none 0 0] #[.int .i64 (r.k : Int), .int .i64 (r.t : Int), .int .i64 (r.p : Int), .int .i64 (r.s : Int), .string r.b, .string r.a, .string r.i, .slice A' r.ds.length c'] #[.int .i64 0, .int .i64 0, .int .i64 0, .int .i64 0, .string ⟨#[]⟩, .string ⟨#[]⟩, .string ⟨#[]⟩, .slice none 0 0] 8 104 Try.underlying34 infoRec3 rfl rfl rfl rfl (by omega) (by omega)
          clear R61 R64 e61 e64
          clear old dep ho hsz hb
          go_simp
        | 6, ho =>
          obtain rfl := Option.some.inj ho
          have s5 : (Say.rec3 wr.heap.size r checkR r).p w2 (a.tmps.getD 65 undef) := dep 5 _ _ (by kernel_rfl) rfl rfl
          rw [if_pos (wanted_none rfl)]
          refine grow_same (v := a.tmps.getD 65 undef) ?_ s5
          clear old dep ho hsz hb
          go_simp
        | i + 7, ho => exact absurd ho (by simp)
      · intro a w2x hb hsz hdf fin keep
        obtain ⟨tm, df⟩ := a
        have hx := frame_of [60, 61, 62, 63, 64, 65, 14] (by kernel_rfl) hsz keep
        dsimp only at hdf hx
        simp only [List.foldl_cons, List.foldl_nil] at hx
        subst hdf
        clear hsz keep
        have kn : tm.getD 60 undef = .agg #[.int .i64 x.k, .int .i64 x.t, .int .i64 x.p, .int .i64 x.s, .int .u8 (x.b.toNat : Int), .int .u8 (x.a.toNat : Int), .int .u8 (x.i.toNat : Int), .slice A2 n c2] := fin 0 _ _ rfl rfl
        rw [kn] at hx
        clear kn
        generalize tm.getD 61 undef = y61 at hx
        have kn : tm.getD 62 undef = .agg #[.int .i64 1, .int .i64 0, .int .i64 0, .int .i64 0, .string ⟨#[]⟩, .string ⟨#[]⟩, .string ⟨#[]⟩, .slice none 0 0] := fin 2 _ _ rfl rfl
        rw [kn] at hx
        clear kn
        have kn : tm.getD 63 undef = .agg #[.int .i64 x.k, .int .i64 x.t, .int .i64 x.p, .int .i64 x.s, .int .u8 (x.b.toNat : Int), .int .u8 (x.a.toNat : Int), .int .u8 (x.i.toNat : Int), .slice A2 n c2] := fin 3 _ _ rfl rfl
        rw [kn] at hx
        clear kn
        generalize tm.getD 64 undef = y64 at hx
        generalize tm.getD 65 undef = y65 at hx
        have S14 : (Say.rec3 wr.heap.size r checkR r).p w2x (tm.getD 14 undef) := fin 6 _ _ rfl rfl
        generalize tm.getD 14 undef = y14 at hx S14
        clear fin
        simp only [List.setIfInBounds_toArray, List.set_cons_succ, List.set_cons_zero] at hx
        subst hx
        obtain ⟨A3, c3, e3, R3⟩ := S14
        subst e3
        have hw5 := hb.size
        have hwx : wr.heap.size ≤ w2x.heap.size := Nat.le_trans (by simp) hw5
        have BB := hide ((below_new wr (.cells #[.int .i64 x.k, .int .i64 x.t, .int .i64 x.p, .int .i64 x.s, .int .u8 (x.b.toNat : Int), .int .u8 (x.a.toNat : Int), .int .u8 (x.i.toNat : Int), .slice A2 n c2] 36)).trans (hb.mono (by simp)))
        have V3 := hide (V.out.more (Y := Ext X wr.heap.size w2x.heap.size) BB.out (fun k hk => hk))
        have NX := hide (R3.sub (Y := Ext X wr.heap.size w2x.heap.size) (fun k hk hx => .inr ⟨hx, hk⟩))
        have NW := hide ((RN.out.below BB.out).sub (Y := Ext X wr.heap.size w2x.heap.size) (fun k _ hx => .inl hx))
        have O3 := hide (O.out.trans (Out.of_below BB.out))
        have hX3 := hide (show ∀ k, k < w0.heap.size → Ext X wr.heap.size w2x.heap.size k from fun k hk => .inl (HX.out k hk))
        have harm := arm0 V3.out (m : Int) (by omega)
        obtain ⟨X3, hX3e⟩ : ∃ X3, Ext X wr.heap.size w2x.heap.size = X3 := ⟨_, rfl⟩
        rw [hX3e] at V3 NX NW hX3 harm
        clear hb R3 hw5 hwx hX3e
        go_upto_region 17 with (first
          | (go_at_call 25; ((with_reducible refine harm.mono ?_); rintro e w4 ⟨rfl, hv4, ho4⟩; have O4 := hide ho4; have NX4 := hide (NX.out.out ho4); have han := ban_anew hv4 (by omega) (by omega) (by simp) NX4.out (fun q hq => by simp at hq; rcases hq with rfl | rfl | rfl; exact HO.out; exact checkR_ok; exact HO.out) (by rw [frs_three, checkR_frame]; have := HO.out.most; omega); clear hv4 ho4 harm))
          | (go_at_call 21; ((with_reducible refine han.mono ?_); rintro e w5 ⟨ok, rfl, hv5, ho5⟩; have V5 := hide hv5; have O45 := hide ho5; have O5 := hide (O4.out.trans ho5); clear hv5 ho5 han)))
        have hjm : (j : Int) ≤ 8 := by omega
        have hcr := ban_crash V5.out (by omega) (M / 2 ^ j)
        rw [show ((M / 2 ^ j : Nat) : Int) = (M : Int) / 2 ^ j by simp] at hcr
        have NW5 := hide (NW.out.out O5.out)
        have NX5 := hide (NX4.out.out O45.out)
        go_upto_region 19 with (first
          | (go_at_call 22; ((with_reducible refine hcr.mono ?_); rintro e w6 ⟨rfl, Y6, hY6, hc6, ho6⟩; have O6 := hide (O5.out.trans ho6); have NW6 := hide ((NW5.out.out ho6).sub (Y := Y6) (fun k _ hx => hY6 k hx)); have NX6 := hide ((NX5.out.out ho6).sub (Y := Y6) (fun k _ hx => hY6 k hx)); have HY6 := hide (fun k hk => hY6 k (hX3.out k hk)); have HYX := hide hY6; have hop := ban_open hc6 (by omega); clear hc6 ho6 hY6 hcr))
          | (go_at_call 23; ((with_reducible refine hop.mono ?_); rintro e w7 ⟨g7, v7, E7, got, gen7, rfl, hgot, hgen7, hv7, he7, ho7⟩; have V7 := hide hv7; have O7 := hide (O6.out.trans (ho7.less HYX.out)); have NW7 := hide (NW6.out.out ho7); have NX7 := hide (NX6.out.out ho7); have HG7 := hide hgen7; clear hv7 ho7 hgen7 hop)))
        have hcd1 : cd true = 0 := rfl
        have hcd2 : cd false = 10 := rfl
        have HX7 := hide (show ∀ k, k < w0.heap.size → (Y6 k ∨ E7 k) from fun k hk => .inl (HY6.out k hk))
        have OO := hide (O3.out.trans (O7.out.less (fun k hk => hX3.out k hk)))
        clear NW NW5 NW6 NX NX4 NX5 NX6 V V3 V5 O O4 O5 O6 O45 O7 O3
        by_cases hgn : got = [r, checkR, r]
        · subst hgn
          clear hgot
          obtain ⟨AE, cE, rfl, _⟩ := he7.1.form
          have he7' : EntsAt w7 E7 (.slice AE 3 cE) gen7 [r, checkR, r] := he7
          have hs := starts_any he7' NX7.out (fun q hq => by simp at hq; rcases hq with rfl | rfl | rfl; exact HO.out; exact checkR_ok; exact HO.out) (by simp)
          rw [starts_yes] at hs
          clear he7 he7'
          cases ok
          · go_wp2_with (go_at_call 24; ((with_reducible refine hs.mono ?_); rintro e w8 ⟨rfl, hb8⟩; have B8 := hide hb8; clear hb8 hs))
            go_roundw
            case rel => exact ⟨j + 1, g7, gen7, _, [r, checkR, r], by omega, by go_num, rfl, by have := HG7.out; have := HGN.out; omega, by simp, HX7.out, (NX7.out.sub (fun k _ hx => .inl hx)).below B8.out, (V7.out.below B8.out).upto (by omega), OO.out.trans (Out.of_below B8.out)⟩
            case measure => simp [intOf]; omega
          · go_wp2_with (go_at_call 24; ((with_reducible refine hs.mono ?_); rintro e w8 ⟨rfl, hb8⟩; have B8 := hide hb8; clear hb8 hs))
            go_roundw
            case rel => exact ⟨j + 1, g7, gen7, _, [r, checkR, r], by omega, by go_num, rfl, by have := HG7.out; have := HGN.out; omega, by simp, HX7.out, (NX7.out.sub (fun k _ hx => .inl hx)).below B8.out, (V7.out.below B8.out).upto (by omega), OO.out.trans (Out.of_below B8.out)⟩
            case measure => simp [intOf]; omega
        · obtain ⟨rfl, rfl⟩ : ok = false ∧ got = all := hgot.resolve_left hgn
          obtain ⟨AE, cE, rfl, _⟩ := he7.1.form
          have hno : startsB got [r, checkR, r] = false ∨ got.length ≠ 3 := by
            by_cases h3 : got.length = 3
            · refine .inl (startsB_no fun ee => hgn ?_)
              rw [ee.2, h3]
              rfl
            · exact .inr h3
          have hok7 := V7.out.ok
          have hs2 := fun (W : World) (hb : Below w7.heap.size w7 W) => starts_any (he7.below hb) (NW7.out.below hb) hok7 (by have := HAL.out; omega)
          rw [starts_yes] at hs2
          by_cases h3 : got.length = 3
          · have hs1 := starts_any he7 NX7.out hok7 (by omega)
            have hno1 : startsB got [r, checkR, r] = false := hno.resolve_right (fun h => h h3)
            rw [hno1, h3] at hs1
            simp only [h3] at hs2
            clear hno hno1 hgn hgot he7 hok7
            go_wp2_with (first
              | (go_at_call 24; ((with_reducible refine hs1.mono ?_); rintro e w8 ⟨rfl, hb8⟩; have B8 := hide hb8; have hs3 := hs2 w8 hb8; clear hb8 hs1 hs2))
              | (go_at_call 24; ((with_reducible refine hs3.mono ?_); rintro e w9 ⟨rfl, hb9⟩; have B9 := hide (B8.out.trans (hb9.mono B8.out.size)); clear hb9 hs3)))
            go_roundw
            case rel => exact ⟨j + 1, g7, gen7, _, got, by omega, by go_num, rfl, by have := HG7.out; have := HGN.out; omega, HAL.out, HX7.out, by have := (NW7.out.sub (Y := fun k => Y6 k ∨ E7 k) (fun k _ hx => .inl hx)).below B9.out; rw [h3] at this; exact this, (V7.out.below B9.out).upto (by omega), OO.out.trans (Out.of_below B9.out)⟩
            case measure => simp [intOf]; omega
          · have hs3 := hs2 w7 (Below.refl _ _)
            have h3' : ¬ ((got.length : Nat) : Int) = 3 := by omega
            clear hno hgn hgot he7 hok7 hs2
            go_wp2_with (go_at_call 24; ((with_reducible refine hs3.mono ?_); rintro e w9 ⟨rfl, hb9⟩; have B9 := hide hb9; clear hb9 hs3))
            go_roundw
            case rel => exact ⟨j + 1, g7, gen7, _, got, by omega, by go_num, rfl, by have := HG7.out; have := HGN.out; omega, HAL.out, HX7.out, (NW7.out.sub (Y := fun k => Y6 k ∨ E7 k) (fun k _ hx => .inl hx)).below B9.out, (V7.out.below B9.out).upto (by omega), OO.out.trans (Out.of_below B9.out)⟩
            case measure => simp [intOf]; omega
    · obtain rfl : j = l.length := by omega
      have hbx := hide (B0.out.trans ((B1.out.trans ((O.out.below B1.out.size (fun k hk => hk)).mono (Nat.le_refl _))).mono B0.out.size))
      go_wp2
      go_ret
      exact ⟨rfl, hbx.out⟩
end Go.Proofs.Ytlmoiepbnnfebaa
