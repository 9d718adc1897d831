/-
  RollDowns' walk.
-/
import Derived.Test.YtlplibgcfhamgaaDw15
import Derived.Test.YtlplibgcfhamgaaIntsIn
namespace Go.Proofs.Ytlplibgcfhamgaa
open Go.RowKit
set_option maxRecDepth 20000
set_option linter.unusedSimpArgs false
set_option linter.unusedVariables false

theorem nine (w : World) : Rd (w.alloc (.cells #[.int .u8 9] 5)) (.slice (some ⟨w.heap.size, 0, none⟩) 1 1) (u8s [9]) := Rd.new_ w #[.int .u8 9] _ _ rfl rfl (Nat.le_refl _) rfl
set_option maxHeartbeats 4000000 in
theorem downs_walk0 (A : Option Addr) (cap : Nat) (l : List Int) (junk : Int) (mask : Nat) (w : World) (hv : Row w w.heap.size (.slice A l.length cap) (l.map fun x => .int .i64 x)) :
    Calls Try.prog 4 #[.slice A l.length cap, .int .i64 junk, .int .u64 (mask : Int)] w fun e w' => e = .returned (.bool true) ∧ Below w.heap.size w w' := by
  have hfit := fit_any
  have HV := hide hv
  obtain ⟨m, hm, hjm⟩ := and_low junk 6 (by omega)
  rw [show ((2 ^ 6 - 1 : Nat) : Int) = 63 from rfl] at hjm
  have hm64 : m < 64 := hm
  clear hm hv
  by_cases hlen : 20 < l.length
  · have hg1 : ((20 : Int) < (l.length : Int)) := by omega
    go_enter Try.func4, Try.ntmps4
    go_wp2_with (go_at_call 6; ((with_reducible refine (hfit _).mono ?_); rintro e w1 ⟨rfl, hb1⟩; have B1 := hide hb1; clear hb1 hfit))
    go_ret
    exact ⟨rfl, B1.out⟩
  · have hg1 : ¬ ((20 : Int) < (l.length : Int)) := by omega
    go_enter Try.func4, Try.ntmps4
    go_wp2_with (first
      | (go_at_call 6; ((with_reducible refine (hfit _).mono ?_); rintro e w1 ⟨rfl, hb1⟩; have B1 := hide hb1; clear hb1 hfit))
      | (go_at_call 7; go_loud ((with_reducible refine (dr_new1 _).mono ?_); rintro e w2 ⟨dg, d, rfl, h0, hb2⟩; have B2 := hide (B1.out.trans (hb2.mono B1.out.size)); have R0 := hide h0; clear h0 hb2)))
    go_loopw [26] (fun i wr => ∃ (j : Nat) (d' : Ds) (g' : Rg), j ≤ m ∧ i = .int .i64 j ∧ g'.armed = false ∧ Dr wr (fun k => k < w1.heap.size) dg d' 0 g' 538 j ∧ Out (fun k => k < w1.heap.size) w2 wr) (fun i _ => m - (intOf i).toNat)
    case atStart => exact ⟨0, d, Rg.new 538, by omega, rfl, rfl, R0.out, Out.refl _ _⟩
    case round =>
      obtain ⟨j, d', g', hj, rfl, hup, hd, ho⟩ := hrel
      by_cases hlt : j < m
      · have hj0 : (0 : Int) ≤ (j : Int) := by omega
        have hj1 : (j : Int) < (m : Int) := by omega
        have hwr := dr_wr (s := 1 + 3 * j) (bs := [9]) (m := 1) (hd.alloc (.cells #[.int .u8 9] 5)) (by omega) (by omega) rfl (by omega) hup (nine wr)
        rw [show ((1 + 3 * j : Nat) : Int) = 1 + 3 * (j : Int) by omega] at hwr
        have HUP := hide hup
        have O := hide (ho.trans (Out.of_below ((Below.refl _ wr).alloc (Nat.le_refl _) (.cells #[.int .u8 9] 5))))
        clear hup hd ho
        go_wp2_with (go_at_call 8; go_loud ((with_reducible refine hwr.mono ?_); rintro e w4 ⟨rfl, d4, hd4⟩; have D4 := hide hd4; clear hwr hd4))
        go_roundw
        case rel => exact ⟨j + 1, d4, g'.write (1 + 3 * j) (pad [9]), by omega, by go_num, HUP.out, D4.out.dr, O.out.trans D4.out.o⟩
        case measure => simp [intOf]; omega
      · obtain rfl : j = m := by omega
        rename World => w3
        have hbr := dr_bar hd hup
        have HUP := hide hup
        have O := hide ho
        clear hup hd ho
        go_wp2_with (first
          | (go_at_call 9; go_loud ((with_reducible refine hbr.mono ?_); rintro e w4 ⟨rfl, d4, hd4⟩; have O4 := hide (O.out.trans hd4.o); have hw := dr_write (z := 2) (s := 2) (c := 5) hd4.dr (by omega) (by omega) rfl; rw [writeG_up (g := g'.barrier) HUP.out, show ((5 : Nat) : Int) = 5 from rfl] at hw; dsimp only at hw; have BT := hide (bet_write (g := g'.barrier) (c := 5) HUP.out hd4.dr.a.fit (by omega)); clear hbr hd4))
          | (go_at_call 10; go_loud ((with_reducible refine hw.mono ?_); rintro e w5 ⟨rfl, d5, hd5⟩; have O5 := hide (O4.out.trans hd5.o); have D5 := hide hd5.dr; clear hw hd5)))
        have HLEN := hide (show l.length ≤ 20 from by omega)
        have HM64 := hide hm64
        clear O HUP hlen hg1 hm64 hj hlt
        try (rename (l.length : Int) ≤ 20 => h20; clear h20)
        have HL := hide (show ∀ k, k < w.heap.size → k < w1.heap.size from fun k hk => Nat.lt_of_lt_of_le hk B1.out.size)
        go_loopw [43] (fun i wr => ∃ (q : Nat) (dq : Ds) (gq : Rg), q ≤ l.length ∧ i = .int .i64 q ∧ Bet gq 5 ∧ Dr wr (fun k => k < w1.heap.size) dg dq 0 gq 538 (j + 1 + 540 * q) ∧ Out (fun k => k < w1.heap.size) w2 wr) (fun i _ => l.length - (intOf i).toNat)
        case atStart => exact ⟨0, d5, _, by omega, rfl, BT.out, D5.out, O5.out⟩
        case round =>
          obtain ⟨q, dq, gq, hq, rfl, hbt, hd, ho⟩ := hrel
          by_cases hlt2 : q < l.length
          · have hq0 : (0 : Int) ≤ (q : Int) := by omega
            have hq1 : (q : Int) < (l.length : Int) := by omega
            obtain ⟨A', c', he, _, hrow⟩ := HV.out.below (B2.out.trans (ho.below B2.out.size HL.out))
            obtain ⟨b, o, rfl, _, hcell⟩ := hrow (by rw [List.length_map]; omega)
            injection he with e1 e2 e3
            subst e1
            clear e2 e3
            obtain ⟨x, hx⟩ : ∃ x, l[q]? = some x := ⟨_, List.getElem?_eq_getElem hlt2⟩
            have hcq := hcell q (.int .i64 x) (by rw [List.getElem?_map, hx]; rfl)
            obtain ⟨z, hz, h31⟩ := and31 x
            obtain ⟨p, hp, h63⟩ := and_low (q : Int) 6 (by omega)
            rw [show ((2 ^ 6 - 1 : Nat) : Int) = 63 from rfl] at h63
            have HP64 := hide (show p < 64 from hp)
            have hq20 : (q : Int) ≤ 100 := by have := HLEN.out; omega
            have har := dr_arm hd (z : Int) (by omega)
            have BTQ := hide hbt
            have O := hide ho
            clear hp hz hx hcell hrow hbt hd ho
            go_upto_region 18 with (first
              | (go_at_call 15; go_loud ((with_reducible refine har.mono ?_); rintro e wa ⟨rfl, da, hda⟩; have OA := hide (O.out.trans hda.o); have hst := down_settle (c := 5) hda.dr BTQ.out (by omega) (by have := HLEN.out; have := HM64.out; omega); clear har hda))
              | (go_at_call 11; go_loud ((with_reducible refine hst.mono ?_); rintro e wb ⟨l1, l2, cd, gb, db, rfl, hcd, h0b, hdb, hob⟩; have HCD := hide hcd; have A0B := hide h0b; have DB := hide (hdb.alloc (.cells #[.int .i64 (l1 : Int), .int .u64 (l2 : Int)] 35)); have OB := hide ((OA.out.trans hob).trans (Out.of_below ((Below.refl _ wb).alloc (Nat.le_refl _) (.cells #[.int .i64 (l1 : Int), .int .u64 (l2 : Int)] 35)))); clear hst hcd h0b hdb hob)))
            rcases HCD.out with hcd | ⟨hcd, hl1⟩
            · subst hcd
              clear HCD
              go_wp2_with (go_at_call 12; go_loud ((with_reducible refine (dr_crashI DB.out (by have := HLEN.out; have := HM64.out; omega) _ (Int.ediv_nonneg (Int.natCast_nonneg _) (Int.le_of_lt (Int.pow_pos (by decide))))).mono ?_); rintro e wc ⟨rfl, hdc, hoc⟩; have DC := hide hdc; have OC := hide (OB.out.trans hoc); clear hdc hoc))
              go_roundw
              case rel => exact ⟨q + 1, _, _, by omega, by go_num, bet_crash A0B.out _, DC.out.more (by omega), OC.out⟩
              case measure => simp [intOf]; omega
            · subst hcd hl1
              clear HCD
              rw [show ((0 : Nat) : Int) = 0 from rfl] at DB OB
              go_wp2_with (go_at_call 12; go_loud ((with_reducible refine (dr_crashI DB.out (by have := HLEN.out; have := HM64.out; omega) _ (Int.ediv_nonneg (Int.natCast_nonneg _) (Int.le_of_lt (Int.pow_pos (by decide))))).mono ?_); rintro e wc ⟨rfl, hdc, hoc⟩; have DC := hide hdc; have OC := hide (OB.out.trans hoc); clear hdc hoc))
              go_roundw
              case rel => exact ⟨q + 1, _, _, by omega, by go_num, bet_crash A0B.out _, DC.out.more (by omega), OC.out⟩
              case measure => simp [intOf]; omega
          · obtain rfl : q = l.length := by omega
            rename World => w6
            have hst := last_settle (c := 5) hd hbt (by omega) (by have := HLEN.out; have := HM64.out; omega)
            rw [show ((5 : Nat) : Int) = 5 from rfl] at hst
            have O := hide ho
            clear hbt hd ho
            go_wp2_with (go_at_call 11; go_loud ((with_reducible refine hst.mono ?_); rintro e w7 ⟨rfl, gl, dl, hq7, hz7, hd7, ho7⟩; have c0 := (Blk.new_ w7 #[.int .i64 0, .int .u64 5] 35 rfl).cell 0 _ rfl; have HQ7 := hide hq7; have HZ7 := hide hz7; have D7 := hide (hd7.alloc (.cells #[.int .i64 0, .int .u64 5] 35)); have O7 := hide ((O.out.trans ho7).trans (Out.of_below ((Below.refl _ w7).alloc (Nat.le_refl _) (.cells #[.int .i64 0, .int .u64 5] 35)))); clear hst hq7 hz7 hd7 ho7))
            have HLQ := hide (show ∀ k, k < w.heap.size → k < w1.heap.size from HL.out)
            go_loopw [15] (fun i wz => ∃ s : Nat, 1 ≤ s ∧ s ≤ 538 ∧ i = .int .i64 s ∧ Dr wz (fun k => k < w1.heap.size) dg dl 0 gl 538 (j + 1 + 540 * l.length + 540) ∧ Out (fun k => k < w1.heap.size) w2 wz) (fun i _ => 538 - (intOf i).toNat)
            case atStart => exact ⟨1, by omega, by omega, rfl, D7.out, O7.out⟩
            case round =>
              obtain ⟨s, hs1, hs, rfl, hd, ho⟩ := hrel
              by_cases hlt3 : s < 538
              · have hrd := dr_sec hd hlt3 (HZ7.out s hs1 hlt3)
                have hs3 : (s : Int) < 538 := by omega
                have HD := hide hd
                have O := hide ho
                clear hd ho
                go_wp2_with (go_at_call 14; go_loud ((with_reducible refine hrd.mono ?_); rintro e w8 ⟨rfl, _, hblk, hb8⟩; have b0 := hblk.cell 0 (.int .u8 0) rfl; have D8 := hide (HD.out.below hb8); have O8 := hide (O.out.trans (Out.of_below hb8)); clear hrd hb8 hblk))
                go_roundw
                case rel => exact ⟨s + 1, by omega, by omega, by go_num, D8.out, O8.out⟩
                case measure => simp [intOf]; omega
              · obtain rfl : s = 538 := by omega
                have hwt := dr_waits hd HQ7.out
                have O := hide ho
                clear hd ho
                go_wp2_with (go_at_call 16; go_loud ((with_reducible refine hwt.mono ?_); rintro e w8 ⟨rfl, rfl⟩))
                go_ret
                exact ⟨rfl, B2.out.trans (O.out.below B2.out.size HLQ.out)⟩
theorem downs_walk (v : Value) (l : List Int) (junk mask : Int) (w : World) (hv : Row w w.heap.size v (l.map fun x => .int .i64 x)) (_ : (Lit.int .i64 junk).wf = true) (hm : (Lit.int .u64 mask).wf = true) :
    Calls Try.prog 4 #[v, .int .i64 junk, .int .u64 mask] w fun e w' => e = .returned (.bool true) ∧ Below w.heap.size w w' := by
  obtain ⟨m, rfl, _⟩ := u64_nat hm
  obtain ⟨A, c, rfl, _⟩ := id hv
  rw [List.length_map] at hv ⊢
  exact downs_walk0 A c l junk m w hv
end Go.Proofs.Ytlplibgcfhamgaa
