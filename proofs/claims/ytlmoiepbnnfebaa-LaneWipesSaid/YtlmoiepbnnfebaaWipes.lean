/-
  LaneWipes' walk.
-/
import Derived.Test.YtlmoiepbnnfebaaMapB
import Derived.WalkKit
import Derived.BigQuiet
namespace Go.Proofs.Ytlmoiepbnnfebaa
open Go.RowKit
set_option maxRecDepth 20000
set_option linter.unusedSimpArgs false
set_option linter.unusedVariables false

set_option maxHeartbeats 8000000 in
theorem wipes_walk (v : Value) (l : List Int) (x y : Int) (w : World) (hv : Row w w.heap.size v (l.map fun x => .int .i64 x)) (_ : (Lit.int .i64 x).wf = true) (_ : (Lit.int .i64 y).wf = true) :
    Calls Try.prog 6 #[v, .int .i64 x, .int .i64 y] w fun e w' => e = .returned (.bool true) ∧ Below w.heap.size w w' := by
  obtain ⟨Al, cl, el, _, _⟩ := id hv
  rw [List.length_map] at el
  subst el
  have HV := hide hv
  have hfit := fit_any w
  obtain ⟨f, hf, handx⟩ := and63w x
  obtain ⟨t, ht, handy⟩ := and63w y
  have hmm := @run_makeMap Try.prog
  clear hv
  by_cases h50 : 50 < l.length
  · have h50' : decide ((50 : Int) < (l.length : Int)) = true := by rw [decide_eq_true_eq]; omega
    go_enter Try.func6, Try.ntmps6
    go_wp2_with (go_at_call 12; ((with_reducible refine hfit.mono ?_); rintro e w0 ⟨rfl, hb0⟩; have B0 := hide hb0; have hnew := disk_new64 w0; clear hb0 hfit))
    go_ret
    exact ⟨rfl, B0.out⟩
  have h50' : decide ((50 : Int) < (l.length : Int)) = false := by rw [decide_eq_false_iff_not]; omega
  go_enter Try.func6, Try.ntmps6
  go_upto_region 9 with (first
    | (go_at_call 12; ((with_reducible refine hfit.mono ?_); rintro e w0 ⟨rfl, hb0⟩; have B0 := hide hb0; have hnew := disk_new64 w0; clear hb0 hfit))
    | (go_at_call 14; ((with_reducible refine hnew.mono ?_); rintro e w1 ⟨dg, d0, rfl, hm1, hd1, hb1⟩; have B1 := hide hb1; have M1 := hide hm1; have D1 := hide hd1; clear hb1 hm1 hd1 hnew)))
  have BM := hide (below_alloc w1 (.map #[] 0))
  have MM := hide (M1.out.more (Y := fun k => k < w0.heap.size ∨ k = w1.heap.size) BM.out (fun k hk => hk.imp id (fun h => by subst h; exact ⟨Nat.le_refl _, by simp⟩)))
  have HM0 := hide (HasMap.new_ w1)
  go_loopw [27] (fun i wr => ∃ (j : Nat) (d : Ds) (g : Rg) (has : Nat → Bool), j ≤ l.length ∧ i = .int .i64 j ∧ Many wr (fun k => k < w0.heap.size ∨ k = w1.heap.size) [(dg, d)] ∧ WD d g 64 j ∧ HasMap wr w1.heap.size j has ∧ Tells g.secs has ∧ Out (fun k => k < w0.heap.size) w1 wr) (fun i _ => l.length - (intOf i).toNat)
  case atStart => exact ⟨0, d0, _, _, by omega, rfl, MM.out, D1.out, HM0.out, tells_new, Out.of_below BM.out⟩
  case round =>
    obtain ⟨j, d, g, has, hj, rfl, hmn, hwd, hmp, htl, ho⟩ := hrel
    have hbw : Below w.heap.size w wr := B0.out.trans ((B1.out.trans ((ho.below B1.out.size (fun k hk => hk)).mono (Nat.le_refl _))).mono B0.out.size)
    by_cases hlt : j < l.length
    · obtain ⟨z, hz⟩ : ∃ z, l[j]? = some z := ⟨_, List.getElem?_eq_getElem hlt⟩
      obtain ⟨Al', cl', el, _, hcl⟩ := HV.out
      rw [List.length_map] at el hcl
      obtain ⟨b2, o2, eAl, hb2, hrd2⟩ := hcl (by omega)
      injection el with ea eb ec
      subst ea
      subst ec
      subst eAl
      have hcz : wr.cell? ⟨b2, o2 + j, none⟩ = some (.int .i64 z) := (hbw.cell hb2).trans (hrd2 j _ (by rw [List.getElem?_map, hz]; rfl))
      obtain ⟨m, hm63, hand⟩ := and63w z
      have hj0 : (0 : Int) ≤ (j : Int) := by omega
      have hj1 : (j : Int) < (l.length : Int) := by omega
      have MN := hide hmn
      have WD0 := hide hwd
      have MP := hide hmp
      have TL := hide htl
      have O := hide ho
      have hj50 : j ≤ 50 := by omega
      clear hz hcl hrd2 hmn hwd hmp htl ho hbw
      obtain ⟨c, hc⟩ : ∃ c : UInt8, z % 256 = (c.toNat : Int) := ⟨UInt8.ofNat (z % 256).toNat, by rw [UInt8.toNat_ofNat']; omega⟩
      obtain ⟨hw1, hw2⟩ := WD0.out.wr (b := [c, 1]) hm63 (by simp)
      have HW2 := hide hw2
      have hwr := write_many (MN.out.below (below_alloc wr (.cells #[.int .u8 (z % 256), .int .u8 1] 5))) (i := 0) rfl (WD0.out.small.more (by omega)) 0 (m : Int) (some ⟨wr.heap.size, 0, none⟩) 2 [c, 1] (Rd.new_ wr #[.int .u8 (z % 256), .int .u8 1] _ _ rfl rfl (Nat.le_refl _) (by rw [hc]; rfl))
      unfold ptr at hwr
      rw [hw1] at hwr
      rw [show ([c, 1] : List UInt8).length = 2 from rfl] at hwr
      have BA := hide (below_alloc wr (.cells #[.int .u8 (z % 256), .int .u8 1] 5))
      have hkey : keyOf Try.prog 3 (.int .i64 (m : Int)) = some (.int .i64 (m : Int)) := Maps.keyOf_int_mk Try.underlying3 (WalkArith.wf_i64 (n := (m : Int)) (by omega))
      clear hw1 hw2 hc
      go_wp2_with (first
        | (go_at_call 28; ((with_reducible refine hwr.mono ?_); rintro e w2 ⟨rfl, hm2, ho2⟩; have M2 := hide hm2; have MP2 := hide ((MP.out.below BA.out).out ho2 (.inr rfl)); have O2 := hide (O.out.trans ((Out.of_below BA.out).trans (ho2.less (fun k hk => .inl hk)))); obtain ⟨D, hown, hism, hat⟩ := MP2.out; have HAT := hide hat; have HISM := hide hism; clear hm2 ho2 hwr hat hism))
        | (at_mapUpdate; refine wpList_mapUpdate_own _ rfl _ _ _ 60 rfl 3 4 lawI Try.underlying60 (plainElem Try.prog 4) w1.heap.size j D rfl hown (by unfold maxLen; omega) _ _ _ rfl rfl hkey _ [] (plainElem_bool Try.underlying4 true) ?_; intro w3 hown3 hgr3))
      have M3 := hide (M2.out.foreign (Kept.of_grown hgr3) (fun k e => .inl (.inr (Option.some.inj e).symm)))
      have MP3 := hide (HasMap.put HISM.out HAT.out hown3)
      have O3 := hide (O2.out.trans ((Kept.of_grown hgr3).mono (fun k e => .inl (fun hk => by have e2 : w1.heap.size = k := Option.some.inj e; have hk2 : k < w0.heap.size := hk; have := B1.out.size; omega))))
      clear hown3 hgr3 hown
      go_roundw
      case rel => exact ⟨j + 1, _, _, _, by omega, by go_num, M3.out, HW2.out, MP3.out, by rw [Rg.secs_write]; exact tells_set TL.out m c, O3.out⟩
      case measure => simp [intOf]; omega
    · rename World => wL
      obtain rfl : j = l.length := by omega
      obtain ⟨hb1, hb2⟩ := hwd.br
      have hbr := barrier_many hmn (i := 0) rfl 0
      unfold ptr at hbr
      rw [hb1] at hbr
      have WDB := hide hb2
      have MP := hide hmp
      have TL := hide htl
      have BWL := hide hbw
      have HG := hide (show g.barrier.secs = g.secs from rfl)
      have hl50 : l.length ≤ 50 := by omega
      clear hb1 hb2 hmn hwd hmp htl ho hbw MM HM0
      go_upto_region 19 with (first
        | (go_at_call 29; ((with_reducible refine hbr.mono ?_); rintro e w2 ⟨rfl, hm2, ho2⟩; have MP2 := hide (MP.out.out ho2 (.inr rfl)); have O2 := hide ho2; have hwp := wipe_ok (f := f) (t := t) hm2 WDB.out (by omega) (by omega) (by omega) (by omega); clear hm2 ho2 hbr))
        | (go_at_call 30; ((with_reducible refine hwp.mono ?_); rintro e w3 ⟨rfl, d3, g3, hm3, hd3, hws3, hbs3, ho3⟩; have MP3 := hide (MP2.out.out ho3 (.inr rfl)); have O3 := hide (O2.out.trans ho3); have D3 := hide hd3; have WS3 := hide hws3; have BS3 := hide hbs3; have hcr := crash_many (i := 0) hm3 rfl (hd3.small.more (by omega)) 0; unfold ptr at hcr; rw [show ((0 : Nat) : Int) = 0 from rfl] at hcr; clear hm3 hd3 hws3 hbs3 ho3 hwp))
        | (go_at_call 22; ((with_reducible refine hcr.mono ?_); rintro e w4 ⟨rfl, hm4, ho4⟩; have M4 := hide hm4; have MP4 := hide (MP3.out.out ho4 (.inr rfl)); have O4 := hide (O3.out.trans ho4); clear hm4 ho4 hcr)))
      have D4 := hide (D3.out.crash (bitOf 0))
      have S4 := hide (show ∀ s : Nat, (g3.crash (bitOf 0)).secs[s]? = if f ≤ s ∧ s < t then (g.secs[s]?).map (fun _ => zsec) else g.secs[s]? from fun s => by
        have e : (g3.crash (bitOf 0)).secs = g3.base := by unfold Rg.secs Rg.crash; rw [WS3.out]; rfl
        rw [e, BS3.out s]
        rfl)
      have BW4 := hide (BWL.out.trans ((O4.out.below (B := w0.heap.size) (Nat.le_trans B1.out.size (Nat.le_of_lt MP.out.lt)) (fun k hk => .inl hk)).mono B0.out.size))
      clear MP2 MP3 O2 O3 D3 WS3 BS3 WDB MP
      go_loopw [51] (fun i wr => ∃ s : Nat, s ≤ 64 ∧ i = .int .i64 s ∧ Below w4.heap.size w4 wr) (fun i _ => 64 - (intOf i).toNat)
      case atStart => exact ⟨0, by omega, rfl, Below.refl _ _⟩
      case round =>
        obtain ⟨s, hs, rfl, hbel⟩ := hrel
        by_cases hs64 : s < 64
        · obtain ⟨b, hb2, hbs, hb64⟩ := D4.out.rd hs64
          have hread := read_many (M4.out.below hbel) (i := 0) rfl 0 (s : Int) hb2
          unfold ptr at hread
          obtain ⟨b0, hb0, hb01⟩ := TL.out s hs64
          have hval : b[1]? = some (if f ≤ s ∧ s < t then 0 else if has s then (1 : UInt8) else 0) := by
            rw [S4.out s, hb0] at hbs
            split at hbs
            · rename_i hh
              rw [if_pos hh, ← Option.some.inj hbs]
              rfl
            · rename_i hh
              rw [if_neg hh, ← Option.some.inj hbs]
              exact hb01
          have HV1 := hide hval
          have HB := hide hbel
          have MP5 := hide (MP4.out.below hbel)
          have hs1 : (s : Int) < 64 := by omega
          clear hbel hb2 hbs hb64 hb0 hb01 hval
          go_upto_region 22 with (go_at_call 31; ((with_reducible refine hread.mono ?_); rintro e w5 ⟨rfl, h64, hblk, _, hb5⟩; have B5 := hide (HB.out.trans (hb5.mono HB.out.size)); have LK := hide ((MP5.out.below hb5).look hs64); have C1 := hide (hblk.cell 1 (.int .u8 ((if f ≤ s ∧ s < t then (0 : UInt8) else if has s then 1 else 0).toNat : Int)) (by have := HV1.out; simp [blk8, u8s, this])); clear h64 hblk hb5 hread))
          have hlk := fun k => LK.out (w5.drewN k) rfl
          have hlk0 := LK.out w5 rfl
          have c1 := C1.out
          cases hhas : has s <;> by_cases hsf : s < f <;> by_cases hts : t ≤ s
          · have e1 : decide ((s : Int) < (f : Int)) = true := by simp; omega
            have e2 : decide ((t : Int) ≤ (s : Int)) = true := by simp; omega
            rw [hhas] at hlk hlk0 c1
            rw [if_neg (by omega)] at c1
            clear LK C1
            go_quiet (fail)
            clear hlk hlk0 c1 e1 e2
            go_wp2
            go_roundw
            case rel => exact ⟨s + 1, by omega, by go_num, B5.out.trans ((below_dr _ _).mono B5.out.size)⟩
            case measure => simp [intOf]; omega
          · have e1 : decide ((s : Int) < (f : Int)) = true := by simp; omega
            have e2 : decide ((t : Int) ≤ (s : Int)) = false := by simp; omega
            rw [hhas] at hlk hlk0 c1
            rw [if_neg (by omega)] at c1
            clear LK C1
            go_quiet (fail)
            clear hlk hlk0 c1 e1 e2
            go_wp2
            go_roundw
            case rel => exact ⟨s + 1, by omega, by go_num, B5.out.trans ((below_dr _ _).mono B5.out.size)⟩
            case measure => simp [intOf]; omega
          · have e1 : decide ((s : Int) < (f : Int)) = false := by simp; omega
            have e2 : decide ((t : Int) ≤ (s : Int)) = true := by simp; omega
            rw [hhas] at hlk hlk0 c1
            rw [if_neg (by omega)] at c1
            clear LK C1
            go_quiet (fail)
            clear hlk hlk0 c1 e1 e2
            go_wp2
            go_roundw
            case rel => exact ⟨s + 1, by omega, by go_num, B5.out.trans ((below_dr _ _).mono B5.out.size)⟩
            case measure => simp [intOf]; omega
          · have e1 : decide ((s : Int) < (f : Int)) = false := by simp; omega
            have e2 : decide ((t : Int) ≤ (s : Int)) = false := by simp; omega
            rw [hhas] at hlk hlk0 c1
            rw [if_pos (by omega)] at c1
            clear LK C1
            go_quiet (fail)
            clear hlk hlk0 c1 e1 e2
            go_wp2
            go_roundw
            case rel => exact ⟨s + 1, by omega, by go_num, B5.out.trans ((below_dr _ _).mono B5.out.size)⟩
            case measure => simp [intOf]; omega
          · have e1 : decide ((s : Int) < (f : Int)) = true := by simp; omega
            have e2 : decide ((t : Int) ≤ (s : Int)) = true := by simp; omega
            rw [hhas] at hlk hlk0 c1
            rw [if_neg (by omega)] at c1
            clear LK C1
            go_quiet (fail)
            clear hlk hlk0 c1 e1 e2
            go_wp2
            go_roundw
            case rel => exact ⟨s + 1, by omega, by go_num, B5.out.trans ((below_dr _ _).mono B5.out.size)⟩
            case measure => simp [intOf]; omega
          · have e1 : decide ((s : Int) < (f : Int)) = true := by simp; omega
            have e2 : decide ((t : Int) ≤ (s : Int)) = false := by simp; omega
            rw [hhas] at hlk hlk0 c1
            rw [if_neg (by omega)] at c1
            clear LK C1
            go_quiet (fail)
            clear hlk hlk0 c1 e1 e2
            go_wp2
            go_roundw
            case rel => exact ⟨s + 1, by omega, by go_num, B5.out.trans ((below_dr _ _).mono B5.out.size)⟩
            case measure => simp [intOf]; omega
          · have e1 : decide ((s : Int) < (f : Int)) = false := by simp; omega
            have e2 : decide ((t : Int) ≤ (s : Int)) = true := by simp; omega
            rw [hhas] at hlk hlk0 c1
            rw [if_neg (by omega)] at c1
            clear LK C1
            go_quiet (fail)
            clear hlk hlk0 c1 e1 e2
            go_wp2
            go_roundw
            case rel => exact ⟨s + 1, by omega, by go_num, B5.out.trans ((below_dr _ _).mono B5.out.size)⟩
            case measure => simp [intOf]; omega
          · have e1 : decide ((s : Int) < (f : Int)) = false := by simp; omega
            have e2 : decide ((t : Int) ≤ (s : Int)) = false := by simp; omega
            rw [hhas] at hlk hlk0 c1
            rw [if_pos (by omega)] at c1
            clear LK C1
            go_quiet (fail)
            clear hlk hlk0 c1 e1 e2
            go_wp2
            go_roundw
            case rel => exact ⟨s + 1, by omega, by go_num, B5.out.trans ((below_dr _ _).mono B5.out.size)⟩
            case measure => simp [intOf]; omega
        · obtain rfl : s = 64 := by omega
          have hbad := wipe_bad (f := 60) (t := 70) (M4.out.below hbel) D4.out (by omega) (by omega) (by omega) (by omega)
          rw [show ((60 : Nat) : Int) = 60 from rfl, show ((70 : Nat) : Int) = 70 from rfl] at hbad
          have HB := hide hbel
          clear hbel
          go_wp2_with (go_at_call 30; ((with_reducible refine hbad.mono ?_); rintro e w5 ⟨rfl, hb5⟩; have B5 := hide (HB.out.trans (hb5.mono HB.out.size)); clear hb5 hbad))
          go_ret
          exact ⟨rfl, BW4.out.trans (B5.out.mono BW4.out.size)⟩
end Go.Proofs.Ytlmoiepbnnfebaa
