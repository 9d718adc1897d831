/-
  RollSettles' walk.
-/
import Derived.Test.YtlplibgcfhamgaaSt15
import Derived.Test.YtlplibgcfhamgaaIntsIn
import Derived.BigQuiet
namespace Go.Proofs.Ytlplibgcfhamgaa
open Go.RowKit
set_option maxRecDepth 20000
set_option linter.unusedSimpArgs false
set_option linter.unusedVariables false

set_option maxHeartbeats 4000000 in
theorem settles_walk0 (A : Option Addr) (cap : Nat) (l : List Int) (m0 m1 : Int) (c : Nat) (w : World) (hc : c < 4294967296) (hv : Row w w.heap.size (.slice A l.length cap) (l.map fun x => .int .i64 x)) :
    Calls Try.prog 3 #[.agg #[.int .i64 m0, .int .i64 m1], .int .u32 (c : Int), .slice A l.length cap] w fun e w' => e = .returned (.bool true) ∧ Below w.heap.size w w' := by
  have hfit := fit_any
  have HV := hide hv
  obtain ⟨m, hm, h3⟩ := and3 m0
  have hs3 : Int.tmod (m : Int) 3 = ((m % 3 : Nat) : Int) := by rw [Int.tmod_eq_emod_of_nonneg (by omega)]; omega
  have hs4 : m % 3 < 3 := Nat.mod_lt _ (by decide)
  obtain ⟨s, hse⟩ : ∃ s, m % 3 = s := ⟨_, rfl⟩
  rw [hse] at hs3 hs4
  have KX := hide (Blk.new_ w #[.int .i64 m0, .int .i64 m1] 22 rfl)
  clear hm hv hse
  by_cases hlen : 50 < l.length
  · have hg1 : ((50 : Int) < (l.length : Int)) := by omega
    go_enter Try.func3, Try.ntmps3
    go_wp2_with (go_at_call 6; ((with_reducible refine (hfit _).mono ?_); rintro e w1 ⟨rfl, hb1⟩; have B1 := hide (((Below.refl _ w).alloc (Nat.le_refl _) (.cells #[.int .i64 m0, .int .i64 m1] 22)).trans (hb1.mono (by rw [World.size_alloc]; omega))); clear hb1 hfit))
    go_ret
    exact ⟨rfl, B1.out⟩
  · have hg1 : ¬ ((50 : Int) < (l.length : Int)) := by omega
    have HLEN := hide (show l.length ≤ 50 from by omega)
    go_enter Try.func3, Try.ntmps3
    go_upto_region 5 with (first
      | (go_at_call 6; ((with_reducible refine (hfit _).mono ?_); rintro e w1 ⟨rfl, hb1⟩; have B1 := hide (((Below.refl _ w).alloc (Nat.le_refl _) (.cells #[.int .i64 m0, .int .i64 m1] 22)).trans (hb1.mono (by rw [World.size_alloc]; omega))); have K1 := KX.out.below hb1; have x0 := K1.cell 0 _ rfl; have x1 := K1.cell 1 _ rfl; clear hb1 hfit K1)))
    clear hg1 hlen
    try (rename (l.length : Int) ≤ 50 => h20; clear h20)
    go_quiet (fail)
    have HM1 := hide (show 0 ≤ IntKind.u64.wrap m1 from by rw [IntKind.wrap_u64]; omega)
    generalize IntKind.u64.wrap m1 = mz at *
    have BD := hide (B1.out.trans ((below_drewN w1 nq).mono B1.out.size))
    clear x0 x1 B1
    generalize w1.drewN nq = w2 at *
    go_wp2_with (go_at_call 7; ((with_reducible refine (dr_new2 _).mono ?_); rintro e w3 ⟨dg, d, rfl, h0, hb3⟩; have B3 := hide (BD.out.trans (hb3.mono BD.out.size)); have R0 := hide h0; have hb3s := hide hb3.size; clear h0 hb3))
    have R0SZ := hide (show w2.heap.size ≤ w3.heap.size from hb3s.out)
    have HL := hide (show ∀ k, k < w.heap.size → k < w2.heap.size from fun k hk => Nat.lt_of_lt_of_le hk BD.out.size)
    go_loopw [38] (fun i wr => ∃ (j : Nat) (d' : Ds) (g' : Rg), j ≤ l.length ∧ i = .int .i64 j ∧ g'.armed = false ∧ Told g'.secs (hasJ l j) ∧ Dr wr (fun k => k < w2.heap.size) dg d' 1 g' 538 j ∧ Out (fun k => k < w2.heap.size) w3 wr) (fun i _ => l.length - (intOf i).toNat)
    case atStart => exact ⟨0, d, Rg.new 538, by omega, rfl, rfl, told_new, R0.out, Out.refl _ _⟩
    case round =>
      obtain ⟨j, d', g', hj, rfl, hup, htl, hd, ho⟩ := hrel
      by_cases hlt : j < l.length
      · have hj0 : (0 : Int) ≤ (j : Int) := by omega
        have hj1 : (j : Int) < (l.length : Int) := by omega
        have hj2 : (j : Int) ≤ 100 := by have := HLEN.out; omega
        obtain ⟨A', c', he, _, hrow⟩ := HV.out.below (B3.out.trans (ho.below B3.out.size HL.out))
        obtain ⟨b, o, rfl, _, hcell⟩ := hrow (by rw [List.length_map]; omega)
        injection he with e1 e2 e3
        subst e1
        clear e2 e3
        obtain ⟨x, hx⟩ : ∃ x, l[j]? = some x := ⟨_, List.getElem?_eq_getElem hlt⟩
        have hcq := hcell j (.int .i64 x) (by rw [List.getElem?_map, hx]; rfl)
        obtain ⟨h511, hn⟩ := jn_spec x
        have HT := hide (htl.set (1 + jn x) (hasJ_next hx))
        have hwr := dr_wr (s := 1 + jn x) (bs := [7]) (m := 1) (hd.alloc (.cells #[.int .u8 7] 5)) (by have := HLEN.out; omega) (by omega) rfl (by omega) hup (seven wr)
        rw [show ((1 + jn x : Nat) : Int) = 1 + (jn x : Int) by omega] at hwr
        have HN := hide hn
        have hn2 : (jn x : Int) ≤ 1000 := by omega
        have HUP := hide hup
        have O := hide (ho.trans (Out.of_below ((Below.refl _ wr).alloc (Nat.le_refl _) (.cells #[.int .u8 7] 5))))
        clear hup hd ho htl hx hcell hrow hn
        generalize jn x = jx at *
        go_wp2_with (go_at_call 8; go_loud ((with_reducible refine hwr.mono ?_); rintro e w4 ⟨rfl, d4, hd4⟩; have D4 := hide hd4; clear hwr hd4))
        go_roundw
        case rel => exact ⟨j + 1, d4, g'.write (1 + jx) (pad [7]), by omega, by go_num, HUP.out, by rw [Rg.secs_write]; exact HT.out, D4.out.dr, O.out.trans D4.out.o⟩
        case measure => simp [intOf]; omega
      · obtain rfl : j = l.length := by omega
        rename World => wr
        have hbr := dr_bar hd hup
        obtain ⟨sw, hsw⟩ : ∃ sw, (if s = 2 then 0 else s) = sw := ⟨_, rfl⟩
        have HSW := hide hsw
        clear hsw
        have HUP := hide hup
        have HT := hide htl
        have HF := hide hd.a.fit
        have O := hide ho
        clear hup hd ho htl hj hlt
        go_upto_region 19 with (first
          | (go_at_call 9; go_loud ((with_reducible refine hbr.mono ?_); rintro e w4 ⟨rfl, d4, hd4⟩; have O4 := hide (O.out.trans hd4.o); have hw := dr_write (z := (s : Int)) (s := s) (c := c) hd4.dr (by have := HLEN.out; omega) (by omega) (knN_nat hs4); rw [writeG_up (g := g'.barrier) HUP.out] at hw; dsimp only at hw; clear hbr hd4))
          | (go_at_call 10; go_loud ((with_reducible refine hw.mono ?_); rintro e w5 ⟨rfl, d5, hd5⟩; have O5 := hide (O4.out.trans hd5.o); have hst := set_settle HSW.out (f := hasJ l l.length) hd5.dr HUP.out HF.out.barrier HT.out hs4 hc (by have := HLEN.out; omega); clear hw hd5))
          | (go_at_call 11; go_loud ((with_reducible refine hst.mono ?_); rintro e w6 ⟨rfl, g6, d6, hg6, hd6, ho6⟩; have G6 := hide hg6; have L6 := hide (Blk.new_ w6 #[.int .i64 (sw : Int), .int .u64 (c : Int)] 35 rfl); have O6 := hide ((O5.out.trans ho6).trans (Out.of_below ((Below.refl _ w6).alloc (Nat.le_refl _) (.cells #[.int .i64 (sw : Int), .int .u64 (c : Int)] 35)))); have hcr := dr_crashI ((hd6.wider ((Below.refl _ w6).alloc (Nat.le_refl _) (.cells #[.int .i64 (sw : Int), .int .u64 (c : Int)] 35)))) (by have := HLEN.out; omega) mz HM1.out; clear hst hg6 hd6 ho6))
          | (go_at_call 12; go_loud ((with_reducible refine hcr.mono ?_); rintro e w7 ⟨rfl, hd7, ho7⟩; have G7 := hide (setd_crash G6.out (bitOf mz.toNat)); have L7 := hide (ho7.blk L6.out (.inr ⟨Nat.le_refl _, by rw [World.size_alloc]; omega⟩)); have O7 := hide (O6.out.trans (ho7.less (fun k hk => .inl hk))); have D7 := hide hd7; have hrd := set_read HSW.out hd7 G7.out hs4 hc; clear hcr hd7 ho7))
          | (go_at_call 13; go_loud ((with_reducible refine hrd.mono ?_); rintro e w8 ⟨rfl, hb8⟩; have F8 := hb8.alloc hb8.size (.cells #[.int .i64 (sw : Int), .int .u64 (c : Int)] 35); have M8 := Blk.new_ w8 #[.int .i64 (sw : Int), .int .u64 (c : Int)] 35 rfl; have L8 := L7.out.below F8; have D8 := hide (D7.out.below F8); have O8 := hide (O7.out.trans (Out.of_below F8)); have l0 := L8.cell 0 _ rfl; have l1 := L8.cell 1 _ rfl; have k0 := M8.cell 0 _ rfl; have k1 := M8.cell 1 _ rfl; clear hrd hb8 F8 L8 M8)))
        generalize w8.alloc (.cells #[.int .i64 (sw : Int), .int .u64 (c : Int)] 35) = w9 at *
        by_cases h2 : s = 2
        · subst h2
          obtain rfl : sw = 0 := HSW.out.symm
          have q1 : ((((2 : Nat) : Int)) == 1) = false := rfl
          have MB := hide (HasS.new_ w9)
          have LP := hide (lp_start D8.out (by have := HLEN.out; omega) G7.out)
          have OM := hide (O8.out.trans (Out.of_below ((Below.refl _ w9).alloc (Nat.le_refl _) (.map #[] 0))))
          have HSZ := hide (show w2.heap.size ≤ w9.heap.size from Nat.le_trans R0SZ.out O8.out.size)
          have hmm := @run_makeMap Try.prog
          go_wp2_with (fail)
          generalize w9.heap.size = mb at *
          generalize w9.alloc (.map #[] 0) = w10 at *
          clear l0 l1 k0 k1 hmm L7 O8 O7 G6 O6 D8 D7 G7 O5 O4
          go_loopw [101] (fun i wr => ∃ j : Nat, j ≤ l.length ∧ i = .int .i64 j ∧ HasS wr mb j (hasJ l j) ∧ Lp wr mb dg 2 c (hasJ l l.length) ∧ Out (fun k => k < w2.heap.size) w3 wr) (fun i _ => l.length - (intOf i).toNat)
          case atStart => exact ⟨0, by omega, rfl, MB.out, LP.out, OM.out⟩
          case round =>
            obtain ⟨j, hj, rfl, hms, hlp, ho⟩ := hrel
            by_cases hlt : j < l.length
            · rename World => wr
              have hj0 : (0 : Int) ≤ (j : Int) := by omega
              have hj1 : (j : Int) < (l.length : Int) := by omega
              have hj2 : (j : Int) ≤ 100 := by have := HLEN.out; omega
              obtain ⟨A', c', he, _, hrow⟩ := HV.out.below (B3.out.trans (ho.below B3.out.size HL.out))
              obtain ⟨b, o, rfl, _, hcell⟩ := hrow (by rw [List.length_map]; omega)
              injection he with e1 e2 e3
              subst e1
              clear e2 e3
              obtain ⟨x, hx⟩ : ∃ x, l[j]? = some x := ⟨_, List.getElem?_eq_getElem hlt⟩
              have hcq := hcell j (.int .i64 x) (by rw [List.getElem?_map, hx]; rfl)
              obtain ⟨h511, hn⟩ := jn_spec x
              obtain ⟨w4, hrun, hm4, hk4⟩ := hms.put (by have := HLEN.out; omega) (m := 1 + jn x) (by omega) (hasJ_next hx)
              rw [show ((1 + jn x : Nat) : Int) = 1 + (jn x : Int) by omega] at hrun
              have hn2 : (jn x : Int) ≤ 1000 := by omega
              have M4 := hide hm4
              have LP4 := hide (hlp.stored hk4)
              have O4 := hide (ho.trans (hk4.mono (fun k e => .inl (by have := HSZ.out; omega))))
              clear hms hlp ho hx hcell hrow hn hm4 hk4
              generalize jn x = jx at *
              go_wp2
              go_roundw
              case rel => exact ⟨j + 1, by omega, by go_num, M4.out, LP4.out, O4.out⟩
              case measure => simp [intOf]; omega
            · obtain rfl : j = l.length := by omega
              have M4 := hide hms
              have LP4 := hide hlp
              have O4 := hide ho
              clear hms hlp ho hj hlt
              go_wp2
              go_loopw [20] (fun i wz => ∃ t : Nat, 1 ≤ t ∧ t ≤ 538 ∧ i = .int .i64 t ∧ HasS wz mb l.length (hasJ l l.length) ∧ Lp wz mb dg 2 c (hasJ l l.length) ∧ Out (fun k => k < w2.heap.size) w3 wz) (fun i _ => 538 - (intOf i).toNat)
              case atStart => exact ⟨1, by omega, by omega, rfl, M4.out, LP4.out, O4.out⟩
              case round =>
                obtain ⟨t, ht1, ht2, rfl, hms, hlp, ho⟩ := hrel
                by_cases hlt : t < 538
                · rename World => wz
                  have hrd := hlp.read ht1 hlt
                  have ht3 : (t : Int) < 538 := by omega
                  have MH := hide hms
                  have LPH := hide hlp
                  have OH := hide ho
                  clear hms hlp ho
                  obtain ⟨ft, hft⟩ : ∃ ft, hasJ l l.length t = ft := ⟨_, rfl⟩
                  rw [hft] at hrd
                  go_upto_region 33 with (go_at_call 14; go_loud ((with_reducible refine hrd.mono ?_); rintro e w8 ⟨rfl, b0, hb8⟩; have hms8 := MH.out.below hb8; have hlk := hms8.look (s := t) (by omega); rw [hft] at hlk; have M8 := hide hms8; have LP8 := hide (LPH.out.below hb8); have O8 := hide (OH.out.trans (Out.of_below hb8)); clear hrd hb8 hms8))
                  cases ft
                  · have b1 : w8.cell? ⟨wz.heap.size, 0, none⟩ = some (.int .u8 0) := by rw [b0]; first | done | rfl
                    have hlk0 := hlk w8 rfl
                    have hlkn := fun k => hlk (w8.drewN k) rfl
                    clear b0 hlk
                    go_quiet (fail)
                    clear hlk0 hlkn b1
                    go_wp2
                    go_roundw
                    case rel => exact ⟨t + 1, by omega, by omega, by go_num, M8.out.below (below_drewN _ nq), LP8.out.below (below_drewN _ nq), O8.out.trans (Out.of_below (below_drewN _ nq))⟩
                    case measure => simp [intOf]; omega
                  · have b1 : w8.cell? ⟨wz.heap.size, 0, none⟩ = some (.int .u8 0) := by rw [b0]; first | done | rfl
                    have hlk0 := hlk w8 rfl
                    have hlkn := fun k => hlk (w8.drewN k) rfl
                    clear b0 hlk
                    go_quiet (fail)
                    clear hlk0 hlkn b1
                    go_wp2
                    go_roundw
                    case rel => exact ⟨t + 1, by omega, by omega, by go_num, M8.out.below (below_drewN _ nq), LP8.out.below (below_drewN _ nq), O8.out.trans (Out.of_below (below_drewN _ nq))⟩
                    case measure => simp [intOf]; omega
                · obtain rfl : t = 538 := by omega
                  have OH := hide ho
                  clear ho hlp hms
                  go_wp2
                  go_ret
                  exact ⟨rfl, B3.out.trans (OH.out.below B3.out.size HL.out)⟩
        · obtain rfl : sw = s := by have := HSW.out; rw [if_neg h2] at this; exact this.symm
          have h2b : ((sw : Int) == 2) = false := by rw [beq_eq_false_iff_ne]; omega
          have HH2 := hide h2
          clear h2
          have MB := hide (HasS.new_ w9)
          have LP := hide (lp_start D8.out (by have := HLEN.out; omega) G7.out)
          have OM := hide (O8.out.trans (Out.of_below ((Below.refl _ w9).alloc (Nat.le_refl _) (.map #[] 0))))
          have HSZ := hide (show w2.heap.size ≤ w9.heap.size from Nat.le_trans R0SZ.out O8.out.size)
          have hmm := @run_makeMap Try.prog
          go_wp2_with (fail)
          generalize w9.heap.size = mb at *
          generalize w9.alloc (.map #[] 0) = w10 at *
          clear l0 l1 k0 k1 hmm L7 O8 O7 G6 O6 D8 D7 G7 O5 O4
          go_loopw [101] (fun i wr => ∃ j : Nat, j ≤ l.length ∧ i = .int .i64 j ∧ HasS wr mb j (hasJ l j) ∧ Lp wr mb dg sw c (hasJ l l.length) ∧ Out (fun k => k < w2.heap.size) w3 wr) (fun i _ => l.length - (intOf i).toNat)
          case atStart => exact ⟨0, by omega, rfl, MB.out, LP.out, OM.out⟩
          case round =>
            obtain ⟨j, hj, rfl, hms, hlp, ho⟩ := hrel
            by_cases hlt : j < l.length
            · rename World => wr
              have hj0 : (0 : Int) ≤ (j : Int) := by omega
              have hj1 : (j : Int) < (l.length : Int) := by omega
              have hj2 : (j : Int) ≤ 100 := by have := HLEN.out; omega
              obtain ⟨A', c', he, _, hrow⟩ := HV.out.below (B3.out.trans (ho.below B3.out.size HL.out))
              obtain ⟨b, o, rfl, _, hcell⟩ := hrow (by rw [List.length_map]; omega)
              injection he with e1 e2 e3
              subst e1
              clear e2 e3
              obtain ⟨x, hx⟩ : ∃ x, l[j]? = some x := ⟨_, List.getElem?_eq_getElem hlt⟩
              have hcq := hcell j (.int .i64 x) (by rw [List.getElem?_map, hx]; rfl)
              obtain ⟨h511, hn⟩ := jn_spec x
              obtain ⟨w4, hrun, hm4, hk4⟩ := hms.put (by have := HLEN.out; omega) (m := 1 + jn x) (by omega) (hasJ_next hx)
              rw [show ((1 + jn x : Nat) : Int) = 1 + (jn x : Int) by omega] at hrun
              have hn2 : (jn x : Int) ≤ 1000 := by omega
              have M4 := hide hm4
              have LP4 := hide (hlp.stored hk4)
              have O4 := hide (ho.trans (hk4.mono (fun k e => .inl (by have := HSZ.out; omega))))
              clear hms hlp ho hx hcell hrow hn hm4 hk4
              generalize jn x = jx at *
              go_wp2
              go_roundw
              case rel => exact ⟨j + 1, by omega, by go_num, M4.out, LP4.out, O4.out⟩
              case measure => simp [intOf]; omega
            · obtain rfl : j = l.length := by omega
              have M4 := hide hms
              have LP4 := hide hlp
              have O4 := hide ho
              clear hms hlp ho hj hlt
              go_wp2
              go_loopw [20] (fun i wz => ∃ t : Nat, 1 ≤ t ∧ t ≤ 538 ∧ i = .int .i64 t ∧ HasS wz mb l.length (hasJ l l.length) ∧ Lp wz mb dg sw c (hasJ l l.length) ∧ Out (fun k => k < w2.heap.size) w3 wz) (fun i _ => 538 - (intOf i).toNat)
              case atStart => exact ⟨1, by omega, by omega, rfl, M4.out, LP4.out, O4.out⟩
              case round =>
                obtain ⟨t, ht1, ht2, rfl, hms, hlp, ho⟩ := hrel
                by_cases hlt : t < 538
                · rename World => wz
                  have hrd := hlp.read ht1 hlt
                  have ht3 : (t : Int) < 538 := by omega
                  have MH := hide hms
                  have LPH := hide hlp
                  have OH := hide ho
                  clear hms hlp ho
                  obtain ⟨ft, hft⟩ : ∃ ft, hasJ l l.length t = ft := ⟨_, rfl⟩
                  rw [hft] at hrd
                  go_upto_region 33 with (go_at_call 14; go_loud ((with_reducible refine hrd.mono ?_); rintro e w8 ⟨rfl, b0, hb8⟩; have hms8 := MH.out.below hb8; have hlk := hms8.look (s := t) (by omega); rw [hft] at hlk; have M8 := hide hms8; have LP8 := hide (LPH.out.below hb8); have O8 := hide (OH.out.trans (Out.of_below hb8)); clear hrd hb8 hms8))
                  cases ft
                  · have b1 : w8.cell? ⟨wz.heap.size, 0, none⟩ = some (.int .u8 0) := by rw [b0, Bool.false_and]; first | done | rfl
                    have z1 : ((sw : Int) == 1) = decide (sw = 1) := by by_cases h : sw = 1 <;> simp [h] <;> omega
                    have hlk0 := hlk w8 rfl
                    have hlkn := fun k => hlk (w8.drewN k) rfl
                    clear b0 hlk
                    go_quiet (fail)
                    clear hlk0 hlkn b1
                    go_wp2
                    go_roundw
                    case rel => exact ⟨t + 1, by omega, by omega, by go_num, M8.out.below (below_drewN _ nq), LP8.out.below (below_drewN _ nq), O8.out.trans (Out.of_below (below_drewN _ nq))⟩
                    case measure => simp [intOf]; omega
                  · by_cases h1 : sw = 1
                    · subst h1
                      have b1 : w8.cell? ⟨wz.heap.size, 0, none⟩ = some (.int .u8 7) := by rw [b0]; first | done | rfl
                      have hlk0 := hlk w8 rfl
                      have hlkn := fun k => hlk (w8.drewN k) rfl
                      clear b0 hlk
                      go_quiet (fail)
                      clear hlk0 hlkn b1
                      go_wp2
                      go_roundw
                      case rel => exact ⟨t + 1, by omega, by omega, by go_num, M8.out.below (below_drewN _ nq), LP8.out.below (below_drewN _ nq), O8.out.trans (Out.of_below (below_drewN _ nq))⟩
                      case measure => simp [intOf]; omega
                    · have z1 : ((sw : Int) == 1) = false := by rw [beq_eq_false_iff_ne]; omega
                      have b1 : w8.cell? ⟨wz.heap.size, 0, none⟩ = some (.int .u8 0) := by rw [b0, show (sw == 1) = false from by rw [beq_eq_false_iff_ne]; exact h1, Bool.and_false]; first | done | rfl
                      have HH1 := hide h1
                      clear h1
                      have hlk0 := hlk w8 rfl
                      have hlkn := fun k => hlk (w8.drewN k) rfl
                      clear b0 hlk
                      go_quiet (fail)
                      clear hlk0 hlkn b1
                      go_wp2
                      go_roundw
                      case rel => exact ⟨t + 1, by omega, by omega, by go_num, M8.out.below (below_drewN _ nq), LP8.out.below (below_drewN _ nq), O8.out.trans (Out.of_below (below_drewN _ nq))⟩
                      case measure => simp [intOf]; omega
                · obtain rfl : t = 538 := by omega
                  have OH := hide ho
                  clear ho hlp hms
                  go_wp2
                  go_ret
                  exact ⟨rfl, B3.out.trans (OH.out.below B3.out.size HL.out)⟩
theorem settles_walk (m0 m1 c : Int) (v : Value) (l : List Int) (w : World) (_ : (Lit.int .i64 m0).wf = true) (_ : (Lit.int .i64 m1).wf = true) (hc : (Lit.int .u32 c).wf = true) (hv : Row w w.heap.size v (l.map fun x => .int .i64 x)) :
    Calls Try.prog 3 #[.agg #[.int .i64 m0, .int .i64 m1], .int .u32 c, v] w fun e w' => e = .returned (.bool true) ∧ Below w.heap.size w w' := by
  obtain ⟨n, rfl, hn⟩ := u32_nat hc
  obtain ⟨A, cap, rfl, _⟩ := id hv
  rw [List.length_map] at hv ⊢
  exact settles_walk0 A cap l m0 m1 n w hn hv
end Go.Proofs.Ytlplibgcfhamgaa
