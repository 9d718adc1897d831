/-
  RollLines' walk.
-/
import Derived.Test.YtlplibgcfhamgaaArgs15
import Derived.BigRegion
namespace Go.Proofs.Ytlplibgcfhamgaa
open Go.RowKit
set_option maxRecDepth 20000
set_option linter.unusedSimpArgs false
set_option linter.unusedVariables false


set_option maxHeartbeats 4000000 in
theorem lines_walk0 (x0 x1 y0 y1 mask : Nat) (w : World) (hx0 : x0 < 4294967296) (hx1 : x1 < 4294967296) (hy0 : y0 < 4294967296) (hy1 : y1 < 4294967296) :
    Calls Try.prog 5 #[.agg #[.int .u32 (x0 : Int), .int .u32 (x1 : Int)], .agg #[.int .u32 (y0 : Int), .int .u32 (y1 : Int)], .int .u64 (mask : Int)] w fun e w' => e = .returned (.bool true) ∧ Below w.heap.size w w' := by
  have hfit := fit_any
  have KX := hide ((Blk.new_ w #[.int .u32 (x0 : Int), .int .u32 (x1 : Int)] 47 rfl).alloc (.cells #[.int .u32 (y0 : Int), .int .u32 (y1 : Int)] 47))
  have KY := hide (Blk.new_ (w.alloc (.cells #[.int .u32 (x0 : Int), .int .u32 (x1 : Int)] 47)) #[.int .u32 (y0 : Int), .int .u32 (y1 : Int)] 47 (g := w.heap.size + 1) (World.size_alloc ..))
  have hmx : Int.tmod (x0 : Int) 3 = ((x0 % 3 : Nat) : Int) := by rw [Int.tmod_eq_emod_of_nonneg (by omega)]; omega
  have hmy : Int.tmod (y0 : Int) 3 = ((y0 % 3 : Nat) : Int) := by rw [Int.tmod_eq_emod_of_nonneg (by omega)]; omega
  have hlx : x0 % 3 < 3 := Nat.mod_lt _ (by decide)
  have hly : y0 % 3 < 3 := Nat.mod_lt _ (by decide)
  generalize x0 % 3 = sx at *
  generalize y0 % 3 = sy at *
  go_enter Try.func5, Try.ntmps5
  go_wp2_with (first
    | (go_at_call 6; go_loud ((with_reducible refine (hfit _).mono ?_); rintro e w1 ⟨rfl, hb1⟩; have B1 := hide ((((Below.refl _ w).alloc (Nat.le_refl _) (.cells #[.int .u32 (x0 : Int), .int .u32 (x1 : Int)] 47)).alloc (by simp) (.cells #[.int .u32 (y0 : Int), .int .u32 (y1 : Int)] 47)).trans (hb1.mono (by simp only [World.size_alloc]; omega))); have KX1 := hide (KX.out.below hb1); have KY1 := hide (KY.out.below hb1); clear hb1 hfit))
    | (go_at_call 7; go_loud ((with_reducible refine (dr_new3 _).mono ?_); rintro e w2 ⟨dg, d, rfl, h0, h1, h2, h3, hb2⟩; have B2 := hide hb2; have R0 := hide h0; have R1 := hide h1; have R2 := hide h2; have N3 := hide h3; have KX2 := KX1.out.below hb2; have KY2 := KY1.out.below hb2; have x0n := KX2.cell 0 _ rfl; have x1n := KX2.cell 1 _ rfl; have y0n := KY2.cell 0 _ rfl; have y1n := KY2.cell 1 _ rfl; have x0a := (KX2.alloc (.cells #[.int .i64 0, .int .u64 0] 35)).cell 0 _ rfl; have x1a := (KX2.alloc (.cells #[.int .i64 0, .int .u64 0] 35)).cell 1 _ rfl; have y0a := (KY2.alloc (.cells #[.int .i64 0, .int .u64 0] 35)).cell 0 _ rfl; have y1a := (KY2.alloc (.cells #[.int .i64 0, .int .u64 0] 35)).cell 1 _ rfl; have x0b := ((KX2.alloc (.cells #[.int .i64 0, .int .u64 0] 35)).alloc (.cells #[.int .i64 0, .int .u64 0] 35)).cell 0 _ rfl; have x1b := ((KX2.alloc (.cells #[.int .i64 0, .int .u64 0] 35)).alloc (.cells #[.int .i64 0, .int .u64 0] 35)).cell 1 _ rfl; have y0b := ((KY2.alloc (.cells #[.int .i64 0, .int .u64 0] 35)).alloc (.cells #[.int .i64 0, .int .u64 0] 35)).cell 0 _ rfl; have y1b := ((KY2.alloc (.cells #[.int .i64 0, .int .u64 0] 35)).alloc (.cells #[.int .i64 0, .int .u64 0] 35)).cell 1 _ rfl; have hxl := KX2.lt; have hyl := KY2.lt; clear h0 h1 h2 h3 hb2 KX2 KY2)))
  go_region
  · clear x0n x1n y0n y1n x0a x1a y0a y1a x0b x1b y0b y1b hxl hyl
    have PX := ((Blk.new_ w2 (g := w2.heap.size) #[.int .i64 (sx : Int), .int .u64 (x1 : Int)] 35 rfl).alloc (.cells #[.int .i64 (sy : Int), .int .u64 (y1 : Int)] 35)).drew
    have PY := (Blk.new_ (w2.alloc (.cells #[.int .i64 (sx : Int), .int .u64 (x1 : Int)] 35)) (g := w2.heap.size + 1) #[.int .i64 (sy : Int), .int .u64 (y1 : Int)] 35 (World.size_alloc ..)).drew
    have PB := hide (((Below.refl _ w2).alloc (Nat.le_refl _) (.cells #[.int .i64 (sx : Int), .int .u64 (x1 : Int)] 35)).alloc (by rw [World.size_alloc]; omega) (.cells #[.int .i64 (sy : Int), .int .u64 (y1 : Int)] 35)).drew
    have PS := hide (show ((w2.alloc (.cells #[.int .i64 (sx : Int), .int .u64 (x1 : Int)] 35)).alloc (.cells #[.int .i64 (sy : Int), .int .u64 (y1 : Int)] 35)).drew.heap.size = w2.heap.size + 2 from by show ((w2.alloc _).alloc _).heap.size = _; rw [World.size_alloc, World.size_alloc])
    generalize ((w2.alloc (.cells #[.int .i64 (sx : Int), .int .u64 (x1 : Int)] 35)).alloc (.cells #[.int .i64 (sy : Int), .int .u64 (y1 : Int)] 35)).drew = w3 at *
    obtain ⟨q, h2⟩ : ∃ q, q = w2.heap.size + 1 := ⟨_, rfl⟩
    rw [← h2] at PY ⊢
    obtain ⟨p, h1⟩ : ∃ p, p = w2.heap.size := ⟨_, rfl⟩
    rw [← h1] at PX ⊢
    have HP := hide (show w2.heap.size ≤ p ∧ p < w3.heap.size from by rw [PS.out]; omega)
    have HQ := hide (show w2.heap.size ≤ q ∧ q < w3.heap.size from by rw [PS.out]; omega)
    have D0 := R0.out.wider PB.out
    have D1 := hide (R1.out.wider PB.out)
    have D2 := hide (R2.out.wider PB.out)
    have BX := hide PX
    have BY := hide PY
    have xc0 := PX.cell 0 _ rfl
    have xc1 := PX.cell 1 _ rfl
    have hw1 := dr_write (z := (sx : Int)) (s := sx) (c := x1) D0 (by omega) (by omega) (knN_nat hlx)
    rw [writeG_up rfl] at hw1
    dsimp only at hw1
    have E3 := hide (B1.out.trans ((B2.out.trans (PB.out.mono B2.out.size)).mono B1.out.size))
    have HL := hide (show ∀ k, k < w.heap.size → Ext2 (fun k => k < w1.heap.size) w2.heap.size w3.heap.size k from fun k hk => .inl (Nat.lt_of_lt_of_le hk B1.out.size))
    clear PX PY h1 h2 D0
    go_wp2_with (first
      | (go_at_call 10; ((with_reducible refine hw1.mono ?_); rintro e w4 ⟨rfl, d4, hd4⟩; have D0 := hide hd4.dr; have D1b := hide (hd4.dr.at (q := 1) ((hd4.e.2 1 (by decide)).trans D1.out.a.at_) D1.out.a.fit); have D2b := hd4.dr.at (q := 2) ((hd4.e.2 2 (by decide)).trans D2.out.a.at_) D2.out.a.fit; have N4 := hide ((hd4.e.2 3 (by decide)).trans N3.out); have E4 := hide (E3.out.trans (hd4.o.below E3.out.size HL.out)); have BX4 := hide (hd4.o.blk BX.out (.inr HP.out)); have BY4 := hide (hd4.o.blk BY.out (.inr HQ.out)); have yc0 := BY4.out.cell 0 _ rfl; have yc1 := BY4.out.cell 1 _ rfl; have hw2 := dr_write (z := (sy : Int)) (s := sy) (c := y1) D2b (by omega) (by omega) (knN_nat hly); rw [writeG_up rfl] at hw2; dsimp only at hw2; clear hd4 hw1 D2b xc0 xc1))
      | (go_at_call 10; ((with_reducible refine hw2.mono ?_); rintro e w5 ⟨rfl, d5, hd5⟩; have D0c := hd5.dr.at (q := 0) ((hd5.e.2 0 (by decide)).trans D0.out.a.at_) D0.out.a.fit; have D1c := hide (hd5.dr.at (q := 1) ((hd5.e.2 1 (by decide)).trans D1b.out.a.at_) D1b.out.a.fit); have D2c := hide hd5.dr; have N5 := hide ((hd5.e.2 3 (by decide)).trans N4.out); have E5 := hide (E4.out.trans (hd5.o.below E4.out.size HL.out)); have BX5 := hide (hd5.o.blk BX4.out (.inr HP.out)); have BY5 := hide (hd5.o.blk BY4.out (.inr HQ.out)); have hcr := dr_crash D0c (by omega) mask; clear hd5 hw2 yc0 yc1 D0c))
      | (go_at_call 12; ((with_reducible refine hcr.mono ?_); rintro e w6 ⟨rfl, hd6, ho6⟩; have D1d := hide (hd6.at (q := 1) (by rw [at_crash, D1c.out.a.at_]; rfl) (D1c.out.a.fit.crash (bitOf mask))); have D2d := hide (hd6.at (q := 2) (by rw [at_crash, D2c.out.a.at_]; rfl) (D2c.out.a.fit.crash (bitOf mask))); have N6 := hide (show (d5.crash (bitOf mask)).at? 3 = none from by rw [at_crash, N5.out]; rfl); have E6 := hide (E5.out.trans (ho6.below E5.out.size HL.out)); have BX6 := hide (ho6.blk BX5.out (.inr HP.out)); have BY6 := hide (ho6.blk BY5.out (.inr HQ.out)); have hr0 := dr_read hd6 (by omega) (b := pad (lineB sx x1)) (by rw [(crash_quiet rfl _).1]; exact line_sec (Rg.new_fit 538) (by omega) _); rw [staB_pad sx x1 (by omega), cntB_pad sx x1 hx1] at hr0; clear hd6 ho6 hcr))
      | (go_at_call 13; ((with_reducible refine hr0.mono ?_); rintro e w7 ⟨rfl, hb7⟩; have F7 := hb7.alloc hb7.size (.cells #[.int .i64 (sx : Int), .int .u64 (x1 : Int)] 35); have G7 := hide (Blk.new_ w7 #[.int .i64 (sx : Int), .int .u64 (x1 : Int)] 35 rfl); have D1e := D1d.out.below F7; have D2e := hide (D2d.out.below F7); have E7 := hide (E6.out.trans (F7.mono E6.out.size)); have BX7 := hide (BX6.out.below F7); have BY7 := hide (BY6.out.below F7); have hr1 := dr_read D1e (by omega) (b := zsec) (by rw [(crash_quiet rfl _).1]; exact new_sec 538 0 (by omega)); rw [staB_zero, cntB_zero] at hr1; clear hb7 F7 hr0))
      | (go_at_call 13; ((with_reducible refine hr1.mono ?_); rintro e w8 ⟨rfl, hb8⟩; have F8 := hb8.alloc hb8.size (.cells #[.int .i64 0, .int .u64 0] 35); have H8 := hide (Blk.new_ w8 #[.int .i64 0, .int .u64 0] 35 rfl); have G8 := hide (G7.out.below F8); have D2f := D2e.out.below F8; have D2g := hide D2f; have E8 := hide (E7.out.trans (F8.mono E7.out.size)); have BX8 := hide (BX7.out.below F8); have BY8 := hide (BY7.out.below F8); have hr2 := dr_read D2f (by omega) (b := pad (lineB sy y1)) (by rw [(crash_quiet rfl _).1]; exact line_sec (Rg.new_fit 538) (by omega) _); rw [staB_pad sy y1 (by omega), cntB_pad sy y1 hy1] at hr2; clear hb8 F8 hr1 D2f D1e))
      | (go_at_call 13; ((with_reducible refine hr2.mono ?_); rintro e w9 ⟨rfl, hb9⟩; have F9 := hb9.alloc hb9.size (.cells #[.int .i64 (sy : Int), .int .u64 (y1 : Int)] 35); have I9 := hide (Blk.new_ w9 #[.int .i64 (sy : Int), .int .u64 (y1 : Int)] 35 rfl); have G9 := hide (G8.out.below F9); have H9 := hide (H8.out.below F9); have D2h := D2g.out.below F9; have E9 := hide (E8.out.trans (F9.mono E8.out.size)); have BX9 := hide (BX8.out.below F9); have BY9 := hide (BY8.out.below F9); have hr3 := rread_no (r := 3) D2h.m (rd_none N6.out); clear hb9 F9 hr2 D2h))
      | (go_at_call 13; ((with_reducible refine hr3.mono ?_); rintro e w10 ⟨rfl, hb10⟩; have F10 := hb10.alloc hb10.size (.cells #[.int .i64 0, .int .u64 0] 35); have g0 := (G9.out.below F10).cell 0 _ rfl; have g1 := (G9.out.below F10).cell 1 _ rfl; have h0 := (H9.out.below F10).cell 0 _ rfl; have h1 := (H9.out.below F10).cell 1 _ rfl; have i0 := (I9.out.below F10).cell 0 _ rfl; have i1 := (I9.out.below F10).cell 1 _ rfl; have px0 := (BX9.out.below F10).cell 0 _ rfl; have px1 := (BX9.out.below F10).cell 1 _ rfl; have py0 := (BY9.out.below F10).cell 0 _ rfl; have py1 := (BY9.out.below F10).cell 1 _ rfl; have E10 := hide (E9.out.trans (F10.mono E9.out.size)); clear hb10 F10 hr3)))
    go_ret
    exact ⟨rfl, E10.out⟩
  · clear x0n x1n y0n y1n x0a x1a y0a y1a x0b x1b y0b y1b hxl hyl
    have PY := ((Blk.new_ w2 (g := w2.heap.size) #[.int .i64 (sy : Int), .int .u64 (y1 : Int)] 35 rfl).alloc (.cells #[.int .i64 (sx : Int), .int .u64 (x1 : Int)] 35)).drew
    have PX := (Blk.new_ (w2.alloc (.cells #[.int .i64 (sy : Int), .int .u64 (y1 : Int)] 35)) (g := w2.heap.size + 1) #[.int .i64 (sx : Int), .int .u64 (x1 : Int)] 35 (World.size_alloc ..)).drew
    have PB := hide (((Below.refl _ w2).alloc (Nat.le_refl _) (.cells #[.int .i64 (sy : Int), .int .u64 (y1 : Int)] 35)).alloc (by rw [World.size_alloc]; omega) (.cells #[.int .i64 (sx : Int), .int .u64 (x1 : Int)] 35)).drew
    have PS := hide (show ((w2.alloc (.cells #[.int .i64 (sy : Int), .int .u64 (y1 : Int)] 35)).alloc (.cells #[.int .i64 (sx : Int), .int .u64 (x1 : Int)] 35)).drew.heap.size = w2.heap.size + 2 from by show ((w2.alloc _).alloc _).heap.size = _; rw [World.size_alloc, World.size_alloc])
    generalize ((w2.alloc (.cells #[.int .i64 (sy : Int), .int .u64 (y1 : Int)] 35)).alloc (.cells #[.int .i64 (sx : Int), .int .u64 (x1 : Int)] 35)).drew = w3 at *
    obtain ⟨p, h2⟩ : ∃ q, q = w2.heap.size + 1 := ⟨_, rfl⟩
    rw [← h2] at PX ⊢
    obtain ⟨q, h1⟩ : ∃ p, p = w2.heap.size := ⟨_, rfl⟩
    rw [← h1] at PY ⊢
    have HP := hide (show w2.heap.size ≤ p ∧ p < w3.heap.size from by rw [PS.out]; omega)
    have HQ := hide (show w2.heap.size ≤ q ∧ q < w3.heap.size from by rw [PS.out]; omega)
    have D0 := R0.out.wider PB.out
    have D1 := hide (R1.out.wider PB.out)
    have D2 := hide (R2.out.wider PB.out)
    have BX := hide PX
    have BY := hide PY
    have xc0 := PX.cell 0 _ rfl
    have xc1 := PX.cell 1 _ rfl
    have hw1 := dr_write (z := (sx : Int)) (s := sx) (c := x1) D0 (by omega) (by omega) (knN_nat hlx)
    rw [writeG_up rfl] at hw1
    dsimp only at hw1
    have E3 := hide (B1.out.trans ((B2.out.trans (PB.out.mono B2.out.size)).mono B1.out.size))
    have HL := hide (show ∀ k, k < w.heap.size → Ext2 (fun k => k < w1.heap.size) w2.heap.size w3.heap.size k from fun k hk => .inl (Nat.lt_of_lt_of_le hk B1.out.size))
    clear PX PY h1 h2 D0
    go_wp2_with (first
      | (go_at_call 10; ((with_reducible refine hw1.mono ?_); rintro e w4 ⟨rfl, d4, hd4⟩; have D0 := hide hd4.dr; have D1b := hide (hd4.dr.at (q := 1) ((hd4.e.2 1 (by decide)).trans D1.out.a.at_) D1.out.a.fit); have D2b := hd4.dr.at (q := 2) ((hd4.e.2 2 (by decide)).trans D2.out.a.at_) D2.out.a.fit; have N4 := hide ((hd4.e.2 3 (by decide)).trans N3.out); have E4 := hide (E3.out.trans (hd4.o.below E3.out.size HL.out)); have BX4 := hide (hd4.o.blk BX.out (.inr HP.out)); have BY4 := hide (hd4.o.blk BY.out (.inr HQ.out)); have yc0 := BY4.out.cell 0 _ rfl; have yc1 := BY4.out.cell 1 _ rfl; have hw2 := dr_write (z := (sy : Int)) (s := sy) (c := y1) D2b (by omega) (by omega) (knN_nat hly); rw [writeG_up rfl] at hw2; dsimp only at hw2; clear hd4 hw1 D2b xc0 xc1))
      | (go_at_call 10; ((with_reducible refine hw2.mono ?_); rintro e w5 ⟨rfl, d5, hd5⟩; have D0c := hd5.dr.at (q := 0) ((hd5.e.2 0 (by decide)).trans D0.out.a.at_) D0.out.a.fit; have D1c := hide (hd5.dr.at (q := 1) ((hd5.e.2 1 (by decide)).trans D1b.out.a.at_) D1b.out.a.fit); have D2c := hide hd5.dr; have N5 := hide ((hd5.e.2 3 (by decide)).trans N4.out); have E5 := hide (E4.out.trans (hd5.o.below E4.out.size HL.out)); have BX5 := hide (hd5.o.blk BX4.out (.inr HP.out)); have BY5 := hide (hd5.o.blk BY4.out (.inr HQ.out)); have hcr := dr_crash D0c (by omega) mask; clear hd5 hw2 yc0 yc1 D0c))
      | (go_at_call 12; ((with_reducible refine hcr.mono ?_); rintro e w6 ⟨rfl, hd6, ho6⟩; have D1d := hide (hd6.at (q := 1) (by rw [at_crash, D1c.out.a.at_]; rfl) (D1c.out.a.fit.crash (bitOf mask))); have D2d := hide (hd6.at (q := 2) (by rw [at_crash, D2c.out.a.at_]; rfl) (D2c.out.a.fit.crash (bitOf mask))); have N6 := hide (show (d5.crash (bitOf mask)).at? 3 = none from by rw [at_crash, N5.out]; rfl); have E6 := hide (E5.out.trans (ho6.below E5.out.size HL.out)); have BX6 := hide (ho6.blk BX5.out (.inr HP.out)); have BY6 := hide (ho6.blk BY5.out (.inr HQ.out)); have hr0 := dr_read hd6 (by omega) (b := pad (lineB sx x1)) (by rw [(crash_quiet rfl _).1]; exact line_sec (Rg.new_fit 538) (by omega) _); rw [staB_pad sx x1 (by omega), cntB_pad sx x1 hx1] at hr0; clear hd6 ho6 hcr))
      | (go_at_call 13; ((with_reducible refine hr0.mono ?_); rintro e w7 ⟨rfl, hb7⟩; have F7 := hb7.alloc hb7.size (.cells #[.int .i64 (sx : Int), .int .u64 (x1 : Int)] 35); have G7 := hide (Blk.new_ w7 #[.int .i64 (sx : Int), .int .u64 (x1 : Int)] 35 rfl); have D1e := D1d.out.below F7; have D2e := hide (D2d.out.below F7); have E7 := hide (E6.out.trans (F7.mono E6.out.size)); have BX7 := hide (BX6.out.below F7); have BY7 := hide (BY6.out.below F7); have hr1 := dr_read D1e (by omega) (b := zsec) (by rw [(crash_quiet rfl _).1]; exact new_sec 538 0 (by omega)); rw [staB_zero, cntB_zero] at hr1; clear hb7 F7 hr0))
      | (go_at_call 13; ((with_reducible refine hr1.mono ?_); rintro e w8 ⟨rfl, hb8⟩; have F8 := hb8.alloc hb8.size (.cells #[.int .i64 0, .int .u64 0] 35); have H8 := hide (Blk.new_ w8 #[.int .i64 0, .int .u64 0] 35 rfl); have G8 := hide (G7.out.below F8); have D2f := D2e.out.below F8; have D2g := hide D2f; have E8 := hide (E7.out.trans (F8.mono E7.out.size)); have BX8 := hide (BX7.out.below F8); have BY8 := hide (BY7.out.below F8); have hr2 := dr_read D2f (by omega) (b := pad (lineB sy y1)) (by rw [(crash_quiet rfl _).1]; exact line_sec (Rg.new_fit 538) (by omega) _); rw [staB_pad sy y1 (by omega), cntB_pad sy y1 hy1] at hr2; clear hb8 F8 hr1 D2f D1e))
      | (go_at_call 13; ((with_reducible refine hr2.mono ?_); rintro e w9 ⟨rfl, hb9⟩; have F9 := hb9.alloc hb9.size (.cells #[.int .i64 (sy : Int), .int .u64 (y1 : Int)] 35); have I9 := hide (Blk.new_ w9 #[.int .i64 (sy : Int), .int .u64 (y1 : Int)] 35 rfl); have G9 := hide (G8.out.below F9); have H9 := hide (H8.out.below F9); have D2h := D2g.out.below F9; have E9 := hide (E8.out.trans (F9.mono E8.out.size)); have BX9 := hide (BX8.out.below F9); have BY9 := hide (BY8.out.below F9); have hr3 := rread_no (r := 3) D2h.m (rd_none N6.out); clear hb9 F9 hr2 D2h))
      | (go_at_call 13; ((with_reducible refine hr3.mono ?_); rintro e w10 ⟨rfl, hb10⟩; have F10 := hb10.alloc hb10.size (.cells #[.int .i64 0, .int .u64 0] 35); have g0 := (G9.out.below F10).cell 0 _ rfl; have g1 := (G9.out.below F10).cell 1 _ rfl; have h0 := (H9.out.below F10).cell 0 _ rfl; have h1 := (H9.out.below F10).cell 1 _ rfl; have i0 := (I9.out.below F10).cell 0 _ rfl; have i1 := (I9.out.below F10).cell 1 _ rfl; have px0 := (BX9.out.below F10).cell 0 _ rfl; have px1 := (BX9.out.below F10).cell 1 _ rfl; have py0 := (BY9.out.below F10).cell 0 _ rfl; have py1 := (BY9.out.below F10).cell 1 _ rfl; have E10 := hide (E9.out.trans (F10.mono E9.out.size)); clear hb10 F10 hr3)))
    go_ret
    exact ⟨rfl, E10.out⟩
theorem lines_walk (a b c d m : Int) (w : World) (ha : (Lit.int .u32 a).wf = true) (hb : (Lit.int .u32 b).wf = true) (hc : (Lit.int .u32 c).wf = true) (hd : (Lit.int .u32 d).wf = true) (hm : (Lit.int .u64 m).wf = true) :
    Calls Try.prog 5 #[.agg #[.int .u32 a, .int .u32 b], .agg #[.int .u32 c, .int .u32 d], .int .u64 m] w fun e w' => e = .returned (.bool true) ∧ Below w.heap.size w w' := by
  obtain ⟨a, rfl, ka⟩ := u32_nat ha
  obtain ⟨b, rfl, kb⟩ := u32_nat hb
  obtain ⟨c, rfl, kc⟩ := u32_nat hc
  obtain ⟨d, rfl, kd⟩ := u32_nat hd
  obtain ⟨m, rfl, _⟩ := u64_nat hm
  exact lines_walk0 a b c d m w ka kb kc kd
end Go.Proofs.Ytlplibgcfhamgaa
