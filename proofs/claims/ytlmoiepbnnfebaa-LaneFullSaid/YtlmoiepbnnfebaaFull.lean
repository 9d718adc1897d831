/-
  LaneFull's walk.
-/
import Derived.Test.YtlmoiepbnnfebaaSize
namespace Go.Proofs.Ytlmoiepbnnfebaa
open Go.RowKit
set_option maxRecDepth 20000
set_option linter.unusedSimpArgs false
set_option linter.unusedVariables false

theorem frs_rep (r : Rc) (j : Nat) : (frsR ([checkR] ++ List.replicate j r)).length = 11 + j * r.frame.length := by
  rw [frsR_append, List.length_append, frs_check]
  congr 1
  induction j with
  | zero => simp [frsR]
  | succ j ih => rw [List.replicate_succ, frsR_cons, List.length_append, ih, Nat.succ_mul]; omega
theorem rep_succ (r : Rc) (j : Nat) : ([checkR] ++ List.replicate j r) ++ [r] = [checkR] ++ List.replicate (j + 1) r := by
  rw [List.append_assoc, List.replicate_succ']
theorem len_rep (r : Rc) (j : Nat) : ([checkR] ++ List.replicate j r).length = 1 + j := by simp; omega
set_option maxHeartbeats 8000000 in
theorem full_walk (x : SeedD) (w : World) (hx : x.Fit w w.heap.size) :
    Calls Try.prog 8 #[.agg x.cells.toArray] w fun e w' => e = .returned (.bool true) ∧ Below w.heap.size w w' := by
  obtain ⟨A, c, ee, _, _⟩ := id hx.row
  obtain ⟨n, hn_x⟩ : ∃ n, x.ds.length = n := ⟨_, rfl⟩
  rw [u64s_length, hn_x] at ee
  have hv_x := hx.row
  have hu_x := hide hx.u
  rw [ee] at hv_x
  try unfold SeedD.cells
  rw [ee]
  clear ee
  have S0 := Sbx.new_ hv_x
  have hfit := fit_any (w.alloc (.cells #[.int .i64 x.k, .int .i64 x.t, .int .i64 x.p, .int .i64 x.s, .int .u8 (x.b.toNat : Int), .int .u8 (x.a.toNat : Int), .int .u8 (x.i.toNat : Int), .slice A n c] 36))
  by_cases h100 : 100 < n
  · have h100' : (100 : Int) < (n : Int) := by omega
    go_enter Try.func8, Try.ntmps8
    go_wp2_with (go_at_call 12; ((with_reducible refine hfit.mono ?_); rintro e w1 ⟨rfl, hb1⟩; have S1 := S0.below hb1; obtain ⟨p0, p1, p2, p3, p4, p5, p6, p7⟩ := S1.cells))
    go_ret
    exact ⟨rfl, S1.bel⟩
  have h100' : ¬ (100 : Int) < (n : Int) := by omega
  obtain ⟨r, hr⟩ : ∃ r, seedR x = r := ⟨_, rfl⟩
  have HO := hide (show r.Ok by rw [← hr]; exact seedR_ok x hx.u)
  have HR := hide hr
  obtain ⟨N, hN⟩ : ∃ N, r.frame.length = N := ⟨_, rfl⟩
  have hN1 : 11 ≤ N := by rw [← hN, r.frame_length]; omega
  have hN2 : N ≤ 395 := by rw [← hN]; exact HO.out.most
  have HN := hide hN
  have HNX := hide hn_x
  have XIS := hide infoSeed
  have XIR := hide infoRec
  have hsl := fun (A6 : Option Addr) (c6 : Nat) (W : World) => run_slice_one (P := Try.prog) W 34 33 #[.int .i64 (r.k : Int), .int .i64 (r.t : Int), .int .i64 (r.p : Int), .int .i64 (r.s : Int), .string r.b, .string r.a, .string r.i, .slice A6 r.ds.length c6] #[.int .i64 0, .int .i64 0, .int .i64 0, .int .i64 0, .string ⟨#[]⟩, .string ⟨#[]⟩, .string ⟨#[]⟩, .slice none 0 0] 8 104 Try.underlying34 infoRec3 rfl (by omega) (by omega)
  clear hr hN hn_x
  go_enter Try.func8, Try.ntmps8
  go_upto_region 7 with (first
    | (go_at_call 12; ((with_reducible refine hfit.mono ?_); rintro e w0 ⟨rfl, hb0⟩; have B0 := hide (S0.bel.trans (hb0.mono S0.bel.size)); have S1 := hide (S0.below hb0); have X0 := hide (hv_x.below B0.out); obtain ⟨p0, p1, p2, p3, p4, p5, p6, p7⟩ := S1.out.cells; clear hb0; have hnew := disk_new1 w0; clear hfit))
    | (go_at_call 14; ((with_reducible refine hnew.mono ?_); rintro e w1 ⟨dg, d, rfl, hm1, hd1, hdn, hb1⟩; have B1 := hide hb1; have hln := la_new0 hm1 hd1 hdn (by omega); clear hb1 hm1 hd1 hnew))
    | (go_at_call 15; ((with_reducible refine hln.mono ?_); rintro e w2 ⟨g, rfl, hv2, ho2⟩; have V2 := hide hv2; have O2 := hide ho2; clear hv2 ho2 hln)))
  have S2 := hide (S1.out.below (B1.out.trans ((O2.out.below B1.out.size (fun k hk => hk)).mono (Nat.le_refl _))))
  have SR2 := hide S2.out.box.rng
  have SD2 := hide S2.out.rd
  clear p0 p1 p2 p3 p4 p5 p6 p7
  go_upto_region 9 with (first
    | ((with_reducible refine wpList_load_mid rfl 36 (.tmp 1) rfl w.heap.size 0 rfl [.int .i64 x.k, .int .i64 x.t, .int .i64 x.p, .int .i64 x.s, .int .u8 (x.b.toNat : Int), .int .u8 (x.a.toNat : Int), .int .u8 (x.i.toNat : Int), .slice A n c] _ ?_ Try.underlying36 ?_ ?_ ?_); exact SR2.out; rfl; exact XIS.out)
    | (go_at_call 16; ((with_reducible refine (seed_in x A n c _ HNX.out HR.out SD2.out).mono ?_); rintro e w3 ⟨A6, c6, rfl, R3, hb3⟩; have V3 := hide (V2.out.box hb3 #[.int .i64 (r.k : Int), .int .i64 (r.t : Int), .int .i64 (r.p : Int), .int .i64 (r.s : Int), .string r.b, .string r.a, .string r.i, .slice A6 r.ds.length c6]); have K3 := hide (RBox.new_ (X := fun k => k < w0.heap.size) (wr := w2) (Nat.le_refl _) hb3.size R3); have BX := hide (below_new (w3.alloc (.cells #[.int .i64 (r.k : Int), .int .i64 (r.t : Int), .int .i64 (r.p : Int), .int .i64 (r.s : Int), .string r.b, .string r.a, .string r.i, .slice A6 r.ds.length c6] 33)) (.cells #[.int .i64 (r.k : Int), .int .i64 (r.t : Int), .int .i64 (r.p : Int), .int .i64 (r.s : Int), .string r.b, .string r.a, .string r.i, .slice A6 r.ds.length c6] 33)); have HD4 := K3.out.ds.keep (Y := fun _ => True) (fun p hp _ => BX.out.cell hp) BX.out.size (fun _ _ _ => trivial); have hsz := size_any (recs_one rfl HD4) (rs := [r]) (fun q hq => by rw [List.mem_singleton] at hq; rw [hq]; exact HO.out) (by simp); rw [frsR_one, HN.out] at hsz; simp only [sz_alloc] at hsz; have P3 := hide (hb3.alloc hb3.size (.cells #[.int .i64 (r.k : Int), .int .i64 (r.t : Int), .int .i64 (r.p : Int), .int .i64 (r.s : Int), .string r.b, .string r.a, .string r.i, .slice A6 r.ds.length c6] 33)); clear HD4 R3 hb3))
    | (go_at_call 18; ((with_reducible refine hsz.mono ?_); rintro e w4 ⟨rfl, hb4⟩; have V4 := hide ((V3.out.below BX.out).below (by simpa using hb4)); have K4 := hide ((K3.out.below BX.out).below (by simpa using hb4)); have HB4 := hide hb4; clear hsz hb4)))
  have F1 := S2.out.bel
  have F2 := F1.trans (P3.out.mono F1.size)
  have F3 := F2.trans (BX.out.mono F2.size)
  have BF := hide (F3.trans (HB4.out.mono (by have := F3.size; simpa using this)))
  clear F1 F2 F3
  obtain ⟨M, hM⟩ : ∃ M, 14325 / N = M := ⟨_, rfl⟩
  have hM1 : M * N ≤ 14325 := by rw [← hM]; exact Nat.div_mul_le_self _ _
  have hM2 : 14325 < (M + 1) * N := by rw [← hM]; exact Nat.lt_mul_of_div_lt (Nat.lt_succ_self _) (by omega)
  have hM3 : M ≤ 1302 := by rw [← hM]; exact Nat.le_trans (Nat.div_le_div_left hN1 (by omega)) (by decide)
  have Y0 := hide (show ∀ k, k < w0.heap.size → Ext (fun k => k < w0.heap.size) w2.heap.size (w3.heap.size + 1) k from fun k hk => .inl hk)
  go_loopw [9] (fun _ wr => ∃ j : Nat, j ≤ M ∧ Live wr (Ext (fun k => k < w0.heap.size) w2.heap.size (w3.heap.size + 1)) dg g 0 538 (0 + 700) 1 true ([checkR] ++ List.replicate j r) 1 ∧ RBox wr (Ext (fun k => k < w0.heap.size) w2.heap.size (w3.heap.size + 1)) w3.heap.size r A6 c6 ∧ Out (fun k => k < w0.heap.size) w4 wr) (fun _ wr => 14336 - lenAt wr g)
  case atStart => exact ⟨0, by omega, V4.out, K4.out, Out.refl _ _⟩
  case round =>
    obtain ⟨j, hj, hv, hbx, ho⟩ := hrel
    have hro := la_room hv
    have hlv := hv.lenAt
    have hlen := frs_rep r j
    rw [HN.out] at hlen
    rw [hlen] at hro hlv
    unfold ptr at hro
    have V := hide hv
    have K := hide hbx
    have O := hide ho
    have LV := hide hlv
    have HLEN := hide hlen
    clear hv hbx ho hlv hlen
    have hjN : j * N ≤ 14325 := Nat.le_trans (Nat.mul_le_mul_right N hj) hM1
    obtain ⟨L, hLj⟩ : ∃ L, j * N = L := ⟨_, rfl⟩
    rw [hLj] at hro hjN
    have HLJ := hide hLj
    by_cases hlt : j < M
    · have hsm : (j + 1) * N ≤ 14325 := Nat.le_trans (Nat.mul_le_mul_right N hlt) hM1
      rw [Nat.succ_mul, hLj] at hsm
      have hge : (N : Int) ≤ ((14336 - (11 + L) : Nat) : Int) := by omega
      have hap := la_append V.out HO.out K.out.rd (by rw [HLEN.out, HN.out, hLj]; omega)
      unfold ptr at hap
      have RG := hide K.out.rng
      clear hLj
      go_wp2_with (first
        | (go_at_call 27; ((with_reducible refine hro.mono ?_); rintro e w5 ⟨rfl, hb5⟩; have hap := la_append (V.out.below hb5) HO.out (K.out.below hb5).rd (by rw [HLEN.out, HN.out, HLJ.out]; omega); unfold ptr at hap; have RG5 := hide (K.out.below hb5).rng; have K5 := hide (K.out.below hb5); have O5 := hide (O.out.trans (Out.of_below hb5)); clear hb5 hro))
        | ((with_reducible refine wpList_load_mid rfl 33 (.tmp 6) rfl w3.heap.size 0 rfl [.int .i64 (r.k : Int), .int .i64 (r.t : Int), .int .i64 (r.p : Int), .int .i64 (r.s : Int), .string r.b, .string r.a, .string r.i, .slice A6 r.ds.length c6] _ ?_ Try.underlying33 ?_ ?_ ?_); exact RG5.out; rfl; exact XIR.out)
        | (go_at_call 17; ((with_reducible refine hap.mono ?_); rintro e w6 ⟨rfl, hv6, ho6⟩; rw [rep_succ] at hv6; have V6 := hide hv6; have K6 := hide (K5.out.out ho6); have O6 := hide (O5.out.trans (ho6.less Y0.out)); clear hv6 ho6 hap)))
      go_roundw
      case rel => exact ⟨j + 1, by omega, V6.out, K6.out, O6.out⟩
      case measure => rw [LV.out, V6.out.lenAt, frs_rep, HN.out, Nat.succ_mul, HLJ.out]; omega
    · obtain rfl : j = M := by omega
      have hgt : ¬ (N : Int) ≤ ((14336 - (11 + L) : Nat) : Int) := by rw [Nat.succ_mul, hLj] at hM2; omega
      have hq : (14325 : Int).tdiv (N : Int) = (j : Int) := by rw [Int.tdiv_eq_ediv_of_nonneg (by omega)]; have := congrArg (Int.ofNat) hM; simpa using this
      have hsum : ((11 + L : Nat) : Int) + ((14336 - (11 + L) : Nat) : Int) = 14336 := by omega
      have hq2 : 14336 < 11 + L + N := by rw [Nat.succ_mul, hLj] at hM2; omega
      clear hLj hM2 hM1
      go_upto_region 17 with (first
        | (go_at_call 27; ((with_reducible refine hro.mono ?_); rintro e w5 ⟨rfl, hb5⟩; have V5 := hide (V.out.below hb5); have RG5 := hide (K.out.below hb5).rng; have K5 := hide (K.out.below hb5); have hap := la_quota V5.out HO.out K5.out.rd (by rw [HLEN.out, HN.out, HLJ.out]; exact hq2); unfold ptr at hap; have O5 := hide (O.out.trans (Out.of_below hb5)); clear hb5 hro))
        | ((with_reducible refine wpList_load_mid rfl 33 (.tmp 6) rfl w3.heap.size 0 rfl [.int .i64 (r.k : Int), .int .i64 (r.t : Int), .int .i64 (r.p : Int), .int .i64 (r.s : Int), .string r.b, .string r.a, .string r.i, .slice A6 r.ds.length c6] _ ?_ Try.underlying33 ?_ ?_ ?_); exact RG5.out; rfl; exact XIR.out)
        | (go_at_call 17; ((with_reducible refine hap.mono ?_); rintro e w6 ⟨rfl, hb6⟩; have hfl := la_flush_up (V5.out.below hb6) (by omega); have K6 := hide (K5.out.below hb6); have O6 := hide (O5.out.trans (Out.of_below hb6)); clear hb6 hap))
        | (go_at_call 20; ((with_reducible refine hfl.mono ?_); rintro e w7 ⟨rfl, hv7, ho7⟩; have V7 := hide hv7; have K7 := hide (K6.out.out ho7); have O7 := hide (O6.out.trans (ho7.less Y0.out)); have hle := la_len hv7; rw [HLEN.out, HLJ.out] at hle; unfold ptr at hle; clear hv7 ho7 hfl))
        | (go_at_call 26; ((with_reducible refine hle.mono ?_); rintro e w8 ⟨rfl, hb8⟩; have V8 := hide (V7.out.below hb8); have K8 := hide (K7.out.below hb8); have O8 := hide (O7.out.trans (Out.of_below hb8)); have hro2 := la_room V8.out; rw [HLEN.out, HLJ.out] at hro2; unfold ptr at hro2; clear hb8 hle))
        | (go_at_call 27; ((with_reducible refine hro2.mono ?_); rintro e w9 ⟨rfl, hb9⟩; have V9 := hide (V8.out.below hb9); have K9 := hide (K8.out.below hb9); have O9 := hide (O8.out.trans (Out.of_below hb9)); obtain ⟨d9, hd9⟩ := V9.out.told; have hop := ld_reopen0 hd9 (by omega); clear hb9 hd9 hro2))
        | (go_at_call 23; ((with_reducible refine hop.mono ?_); rintro e wA ⟨g', vA, E, dA, rfl, hdA, hes, hoA⟩; have VA := hide hdA.live; have KA := hide (K9.out.out hoA); have OA := hide (O9.out.trans (hoA.less Y0.out)); obtain ⟨AE, cE, evE, _⟩ := hes.1.form; rw [len_rep] at evE; subst evE; have BY := hide (below_new wA (.cells #[.int .i64 (r.k : Int), .int .i64 (r.t : Int), .int .i64 (r.p : Int), .int .i64 (r.s : Int), .string r.b, .string r.a, .string r.i, .slice A6 r.ds.length c6] 33)); have KY := hide (KA.out.below BY.out); obtain ⟨q0, q1, q2, q3, q4, q5, q6, q7⟩ := KA.out.cells; have HDY := KY.out.ds.keep (Y := fun _ => True) (fun _ _ _ => rfl) (Nat.le_refl _) (fun _ _ _ => trivial); have han := la_anew_up (VA.out.below BY.out) (by omega) (by omega) (by simp) (recs_one rfl HDY) (rs := [r]) (fun q hq => by rw [List.mem_singleton] at hq; rw [hq]; exact HO.out) (by rw [frsR_one, HN.out]; omega); clear hdA hoA hes hop HDY)))
      go_wp2_with (first
        | (go_at_call 21; ((with_reducible refine han.mono ?_); rintro e wB ⟨rfl, hvB, hoB⟩; have OB := hide (OA.out.trans ((Out.of_below BY.out).trans (hoB.less Y0.out))); have hle2 := la_len hvB; rw [frsR_one, HN.out] at hle2; unfold ptr at hle2; clear hvB hoB han))
        | (go_at_call 26; ((with_reducible refine hle2.mono ?_); rintro e wC ⟨rfl, hbC⟩; have OC := hide (OB.out.trans (Out.of_below hbC)); clear hbC hle2)))
      go_ret
      exact ⟨rfl, BF.out.trans (OC.out.below BF.out.size (fun k hk => Nat.lt_of_lt_of_le hk B0.out.size))⟩
end Go.Proofs.Ytlmoiepbnnfebaa
