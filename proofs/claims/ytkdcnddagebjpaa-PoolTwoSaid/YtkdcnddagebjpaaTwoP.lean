/-
  PoolTwo's walk.
-/
import Derived.Test.YtkdcnddagebjpaaTwoNo
import Derived.Test.YtkdcnddagebjpaaParts8
namespace Go.Proofs.Ytkdcnddagebjpaa
open Go.RowKit
set_option maxRecDepth 20000
set_option linter.unusedSimpArgs false
set_option linter.unusedVariables false

set_option maxHeartbeats 8000000 in
theorem two_yes (t1 : Int) (k1 u1 : ByteArray) (t2 : Int) (k2 u2 : ByteArray) (n : Int) (w : World) (h1 : rowOkB t1 k1 u1 = true) (h2 : rowOkB t2 k2 u2 = true) :
    Calls Try.prog 7 #[.agg #[.int .i64 t1, .string k1, .string u1], .agg #[.int .i64 t2, .string k2, .string u2], .int .i64 n] w fun e w' => e = .returned (.bool true) ∧ Below w.heap.size w w' := by
  have hfit := fit_any (((w.alloc (.cells #[.int .i64 t1, .string k1, .string u1] 34)).alloc (.cells #[.int .i64 t2, .string k2, .string u2] 34)).alloc (.cells #[.int .i64 n] 3))
  have e1 : (w.alloc (.cells #[.int .i64 t1, .string k1, .string u1] 34)).heap.size = w.heap.size + 1 := by simp
  have e2 : ((w.alloc (.cells #[.int .i64 t1, .string k1, .string u1] 34)).alloc (.cells #[.int .i64 t2, .string k2, .string u2] 34)).heap.size = w.heap.size + 2 := by simp
  have hba := (Below.refl w.heap.size w).alloc (Nat.le_refl _) (.cells #[.int .i64 t1, .string k1, .string u1] 34)
  have hbb := (Below.refl (w.alloc (.cells #[.int .i64 t1, .string k1, .string u1] 34)).heap.size (w.alloc (.cells #[.int .i64 t1, .string k1, .string u1] 34))).alloc (Nat.le_refl _) (.cells #[.int .i64 t2, .string k2, .string u2] 34)
  have hbc := (Below.refl ((w.alloc (.cells #[.int .i64 t1, .string k1, .string u1] 34)).alloc (.cells #[.int .i64 t2, .string k2, .string u2] 34)).heap.size ((w.alloc (.cells #[.int .i64 t1, .string k1, .string u1] 34)).alloc (.cells #[.int .i64 t2, .string k2, .string u2] 34))).alloc (Nat.le_refl _) (.cells #[.int .i64 n] 3)
  have hra := ((Blk.new_ w #[.int .i64 t1, .string k1, .string u1] 34 rfl).below hbb).below hbc
  have hrb := (Blk.new_ (w.alloc (.cells #[.int .i64 t1, .string k1, .string u1] 34)) #[.int .i64 t2, .string k2, .string u2] 34 rfl).below hbc
  have hrn := Blk.new_ ((w.alloc (.cells #[.int .i64 t1, .string k1, .string u1] 34)).alloc (.cells #[.int .i64 t2, .string k2, .string u2] 34)) #[.int .i64 n] 3 rfl
  rw [e1] at hrb
  rw [e2] at hrn
  have RA := hide hra
  have RB := hide hrb
  have RN := hide hrn
  have BB := hide (hba.trans ((hbb.trans (hbc.mono hbb.size)).mono hba.size))
  clear hra hrb hrn hba hbb hbc e1 e2
  have hr1 := fun W => row_right_any t1 k1 u1 W
  have hr2 := fun W => row_right_any t2 k2 u2 W
  rw [h1] at hr1
  rw [h2] at hr2
  obtain ⟨_, _, gk1, gu1⟩ := rightB_iff.1 h1
  obtain ⟨_, _, gk2, gu2⟩ := rightB_iff.1 h2
  have hsz : decide ((200 : Int) < (k1.size : Int) + (u1.size : Int) + (k2.size : Int) + (u2.size : Int)) = false := decide_eq_false (by omega)
  have hsz2 : ¬ (200 : Int) < (k1.size : Int) + (u1.size : Int) + (k2.size : Int) + (u2.size : Int) := by omega
  obtain ⟨L1, hL1⟩ : ∃ L, rowL t1 k1 u1 = L := ⟨_, rfl⟩
  obtain ⟨L2, hL2⟩ : ∃ L, rowL t2 k2 u2 = L := ⟨_, rfl⟩
  have R1 := hide h1
  have R2 := hide h2
  have E1 := hide hL1
  have E2 := hide hL2
  have G1 := hide (show L1.length = 40 by rw [← hL1]; exact rowL_length h1)
  have G2 := hide (show L2.length = 40 by rw [← hL2]; exact rowL_length h2)
  clear h1 h2 hL1 hL2
  obtain ⟨p, hp6, hpm, hp3, hp4⟩ := mod_page n
  have HP6 := hide hp6
  have hmf : ∀ (fn : Fn) (first cap : Array Value) (w : World), (Instr.makeFunc fn first cap).run Try.prog w = .ok (.func fn first cap) w := fun _ _ _ _ => rfl
  have cn0 := RN.out.cell 0 _ rfl
  go_enter Try.func7, Try.ntmps7
  go_upto_region 6 with (first
    | (go_at_call 8; ((with_reducible refine hfit.mono ?_); rintro e w0 ⟨rfl, hb0⟩; have B0 := hide (BB.out.trans (hb0.mono BB.out.size)); have RA0 := hide (RA.out.below hb0); have RB0 := hide (RB.out.below hb0); have RN0 := hide (RN.out.below hb0); obtain ⟨x0, x1, x2⟩ := RA0.out.three; obtain ⟨y0, y1, y2⟩ := RB0.out.three; clear hb0 hfit))
    | (go_at_call 22; ((with_reducible refine (hr1 _).mono ?_); rintro e w1 ⟨rfl, hb1⟩; have B1 := hide (B0.out.trans (hb1.mono B0.out.size)); have RA1 := hide (RA0.out.below hb1); have RB1 := hide (RB0.out.below hb1); have RN1 := hide (RN0.out.below hb1); obtain ⟨z0, z1, z2⟩ := RB1.out.three; clear hb1 hr1))
    | (go_at_call 22; ((with_reducible refine (hr2 _).mono ?_); rintro e w2 ⟨rfl, hb2⟩; have B2 := hide (B1.out.trans (hb2.mono B1.out.size)); have RA2 := hide (RA1.out.below hb2); have RB2 := hide (RB1.out.below hb2); have RN2 := hide (RN1.out.below hb2); have cn2 := RN2.out.cell 0 _ rfl; have zf := RN2.out.frozen 0; clear hb2 hr2)))
  have hset : Blk (w2.setCell ⟨w.heap.size + 2, 0, none⟩ (.int .i64 (p : Int))) (w.heap.size + 2) 3 #[.int .i64 (p : Int)] := RN2.out.set_ 0 (.int .i64 (p : Int))
  have hbs := B2.out.setCell (p := ⟨w.heap.size + 2, 0, none⟩) (Nat.le_add_right _ _) (.int .i64 (p : Int))
  have RN3 := hide hset
  have B3 := hide hbs
  have RA3 := hide (RA2.out.far (p := ⟨w.heap.size + 2, 0, none⟩) (by show w.heap.size ≠ w.heap.size + 2; omega) (.int .i64 (p : Int)))
  have RB3 := hide (RB2.out.far (p := ⟨w.heap.size + 2, 0, none⟩) (by show w.heap.size + 1 ≠ w.heap.size + 2; omega) (.int .i64 (p : Int)))
  clear hset hbs cn2 zf cn0
  generalize w2.setCell ⟨w.heap.size + 2, 0, none⟩ (.int .i64 (p : Int)) = w3 at *
  have hnew := disk_new2 w3
  go_upto_region 7 with (go_at_call 9; ((with_reducible refine hnew.mono ?_); rintro e w4 ⟨dg, d, rfl, hm4, hd4, he4, hdn, hb4⟩; have B4 := hide hb4; have M4 := hide hm4; have D40 := hide hd4; have D41 := hide he4; have DN := hide hdn; clear hb4 hm4 hd4 he4 hdn hnew))
  have hb5 := (Below.refl w4.heap.size w4).alloc (Nat.le_refl _) (.cells #[.pointer (some ⟨dg, 0, none⟩)] 25)
  have DX5 := hide (Blk.new_ w4 #[.pointer (some ⟨dg, 0, none⟩)] 25 rfl)
  have M5 := hide (M4.out.more (Y := fun k => k < w3.heap.size ∨ k = w4.heap.size) hb5 (by rintro k (h | rfl); exact .inl h; exact .inr ⟨Nat.le_refl _, by simp⟩))
  have B5 := hide (B4.out.trans (hb5.mono B4.out.size))
  have RA5 := hide (RA3.out.below B5.out)
  have RB5 := hide (RB3.out.below B5.out)
  have RN5 := hide (RN3.out.below B5.out)
  clear hb5
  generalize w4.alloc (.cells #[.pointer (some ⟨dg, 0, none⟩)] 25) = w5 at *
  have hc0 := closure_zero (bx := w4.heap.size) (bn := w.heap.size + 2) M5.out D40.out DN.out (by omega) HP6.out DX5.out (.inr rfl) RN5.out (.inl RN3.out.lt) R1.out E1.out
  obtain ⟨x0, x1, x2⟩ := RA5.out.three
  go_upto_region 11 with (first
    | (go_at_call 27; ((with_reducible refine hc0.mono ?_); rintro e w6 ⟨rfl, ⟨d6, hm6, ha6, hl6⟩, ho6⟩; have O6 := hide ho6; have L6 := hide hl6; have RA6 := hide (ho6.blk RA5.out (.inl RA3.out.lt)); have RB6 := hide (ho6.blk RB5.out (.inl RB3.out.lt)); have RN6 := hide (ho6.blk RN5.out (.inl RN3.out.lt)); have DX6 := hide (ho6.blk DX5.out (.inr rfl)); have hc1 := closure_one (bx := w4.heap.size) (bn := w.heap.size + 2) hm6 (second D41.out ha6 hl6) (ha6.1.trans DN.out) (by omega) HP6.out DX6.out (.inr rfl) RN6.out (.inl RN3.out.lt) R2.out E2.out; obtain ⟨y0, y1, y2⟩ := RB6.out.three; clear hm6 ha6 hl6 ho6 hc0))
    | (go_at_call 27; ((with_reducible refine hc1.mono ?_); rintro e w7 ⟨rfl, ⟨d7, hm7, ha7, hl7⟩, ho7⟩; have O7 := hide (O6.out.trans ho7); have L7 := hide hl7; have M7 := hide hm7; have RA7 := hide (ho7.blk RA6.out (.inl RA3.out.lt)); have RB7 := hide (ho7.blk RB6.out (.inl RB3.out.lt)); have RN7 := hide (ho7.blk RN6.out (.inl RN3.out.lt)); have DX7 := hide (ho7.blk DX6.out (.inr rfl)); have hkp := left_kept (L6.out.other ha7 (by omega) hl7.small) hm7 HP6.out; unfold Pg.val Pg.cells at hkp; have c1 := DX7.out.cell 0 _ rfl; have c2 := RN7.out.cell 0 _ rfl; clear hm7 ha7 hl7 ho7 hc1))
    | (go_at_call 18; ((with_reducible refine hkp.mono ?_); rintro e w8 ⟨y, rfl, hy8, hb8⟩; have B8 := hide hb8; have Y8 := hide hy8; clear hy8 hb8 hkp)))
  generalize hw9 : w8.alloc (.cells #[.int .u64 (y.mark : Int), .int .i64 (y.ten : Int), .int .i64 (y.num : Int), .string (y.s 0), .string (y.s 1), .string (y.s 2), .string (y.s 3), .string (y.s 4)] 53) = w9
  have e9 : w8.alloc (.cells y.cells 53) = w9 := hw9
  have hb9 := (Below.refl w8.heap.size w8).alloc (Nat.le_refl _) (.cells y.cells 53)
  have hz9 : w8.heap.size < (w8.alloc (.cells y.cells 53)).heap.size := by simp
  have hpy := pgb_new w8 y
  rw [e9] at hb9 hpy hz9
  have PY9 := hide hpy
  have B9 := hide (B8.out.trans (hb9.mono B8.out.size))
  have M9 := hide (M7.out.more (Y := fun k => (k < w3.heap.size ∨ k = w4.heap.size) ∨ k = w8.heap.size) B9.out (by rintro k (h | rfl); exact .inl h; exact .inr ⟨B8.out.size, hz9⟩))
  have RA9 := hide (RA7.out.below B9.out)
  have RB9 := hide (RB7.out.below B9.out)
  have RN9 := hide (RN7.out.below B9.out)
  have DX9 := hide (DX7.out.below B9.out)
  clear hw9 e9 hb9 hz9 hpy c1 c2
  have c1 := DX9.out.cell 0 _ rfl
  have hop := left_open1 L7.out M9.out (by omega)
  go_upto_region 12 with (go_at_call 17; ((with_reducible refine hop.mono ?_); rintro e w10 ⟨g, v10, rfl, ⟨d10, hq10⟩, ho10⟩; have Q10 := hide hq10; have O10 := hide ho10; have RA10 := hide (ho10.blk RA9.out (.inl (.inl RA3.out.lt))); have RB10 := hide (ho10.blk RB9.out (.inl (.inl RB3.out.lt))); have RN10 := hide (ho10.blk RN9.out (.inl (.inl RN3.out.lt))); have DX10 := hide (ho10.blk DX9.out (.inl (.inr rfl))); have PY10 := hide (Out.blk ho10 PY9.out (.inr rfl)); clear hq10 ho10 hop))
  refine region_parts 4 77 [Say.is (.pointer (some ⟨dg, 0, none⟩)), Say.is (.pointer (some ⟨g, 0, none⟩)), Say.openq (fun k => (k < w3.heap.size ∨ k = w4.heap.size) ∨ k = w8.heap.size) dg d10 g 1 p ⟨L2.toArray⟩, Say.is (.int .i64 (p : Int))] (fun i v => if i = 5 then v else if i = 6 then tupPart v 0 else if i = 7 then tupPart v 1 else if i = 8 then tupPart v 0 else if i = 9 then tupPart v 1 else v) (fun v w' => ∃ b, v = .tuple #[.pointer (some ⟨b, 0, none⟩), .int .i64 0] ∧ (∃ y : Pg, PgB w' b y ∧ y.ten = 1 ∧ y.s 0 = ⟨L2.toArray⟩) ∧ Out (fun k => (k < w3.heap.size ∨ k = w4.heap.size) ∨ k = w8.heap.size) w10 w') rfl rfl rfl (by kernel_rfl) (by kernel_rfl) (by kernel_rfl) (by kernel_rfl) (by kernel_rfl) ?_ ?_ ?_ ?_
  · intro i o hik ho a w2 hb hsz old dep
    match i, ho with
    | 0, ho =>
      obtain rfl := Option.some.inj ho
      have o7 : a.tmps.getD 7 undef = _ := old 7 (by kernel_rfl)
      rw [if_pos (wanted_none rfl)]
      have hcx := (Blk.below DX10.out hb).cell 0 _ rfl
      refine grow_same (v := .pointer (some ⟨dg, 0, none⟩)) ?_ rfl
      clear old dep ho hsz hb
      go_simp
    | 1, ho =>
      obtain rfl := Option.some.inj ho
      have o11 : a.tmps.getD 11 undef = _ := old 11 (by kernel_rfl)
      rw [if_pos (wanted_none rfl)]
      refine grow_same (v := .pointer (some ⟨g, 0, none⟩)) ?_ rfl
      clear old dep ho hsz hb
      go_simp
    | 2, ho =>
      obtain rfl := Option.some.inj ho
      have d0 : a.tmps.getD 73 undef = .pointer (some ⟨dg, 0, none⟩) := dep 0 _ _ (by kernel_rfl) rfl rfl
      have e0 : a.tmps[73]?.getD undef = _ := (Array.getD_eq_getD_getElem? ..).symm.trans d0
      have d1 : a.tmps.getD 74 undef = .pointer (some ⟨g, 0, none⟩) := dep 1 _ _ (by kernel_rfl) rfl rfl
      have e1 : a.tmps[74]?.getD undef = _ := (Array.getD_eq_getD_getElem? ..).symm.trans d1
      rw [if_pos (wanted_none rfl)]
      refine grow_enters (f := 11) (args := #[.pointer (some ⟨dg, 0, none⟩), .int .i64 1, .pointer (some ⟨g, 0, none⟩)]) ?_ (open_pool1 (Q10.out.below hb))
      clear old dep ho hsz hb
      go_simp
    | 3, ho =>
      obtain rfl := Option.some.inj ho
      have o5 : a.tmps.getD 5 undef = _ := old 5 (by kernel_rfl)
      rw [if_pos (wanted_none rfl)]
      have hcn := (Blk.below RN10.out hb).cell 0 _ rfl
      refine grow_same (v := .int .i64 (p : Int)) ?_ rfl
      clear old dep ho hsz hb
      go_simp
    | i + 4, ho => exact absurd hik (by omega)
  · intro a w2 hb hsz old dep
    have s2 : (Say.openq (fun k => (k < w3.heap.size ∨ k = w4.heap.size) ∨ k = w8.heap.size) dg d10 g 1 p ⟨L2.toArray⟩).p w2 (a.tmps.getD 75 undef) := dep 2 _ _ (by kernel_rfl) rfl rfl
    have d3 : a.tmps.getD 76 undef = .int .i64 (p : Int) := dep 3 _ _ (by kernel_rfl) rfl rfl
    have e3 : a.tmps[76]?.getD undef = _ := (Array.getD_eq_getD_getElem? ..).symm.trans d3
    obtain ⟨q, hq, hQ⟩ := s2
    have eq2 : a.tmps[75]?.getD undef = _ := (Array.getD_eq_getD_getElem? ..).symm.trans hq
    refine last_enters (f := 12) (args := #[.pointer (some ⟨q, 0, none⟩), .int .i64 (p : Int)]) ?_ ((open_get hQ HP6.out).mono (fun e w' ⟨b, h1, h2, h3⟩ => ⟨_, h1, b, rfl, h2, (Out.of_below hb).trans h3⟩))
    clear old dep hsz hb
    go_simp
  · intro i o hki ho
    have hin : i < 10 := (Array.getElem?_eq_some_iff.1 ho).1
    obtain rfl | rfl | rfl | rfl | rfl : i = 5 ∨ i = 6 ∨ i = 7 ∨ i = 8 ∨ i = 9 := by omega
    · obtain rfl := Option.some.inj ho
      refine ⟨rfl, fun a w v hR hk hj => ?_⟩
      obtain ⟨b11, rfl, hR⟩ := hR
      have d4 : a.tmps.getD 77 undef = _ := hk (by kernel_rfl)
      have e4 : a.tmps[77]?.getD undef = _ := (Array.getD_eq_getD_getElem? ..).symm.trans d4
      show _ = Result.ok (Go.Next.value (.tuple #[.pointer (some ⟨b11, 0, none⟩), .int .i64 0])) w
      clear hki ho hin hk hj hR
      go_simp
    · obtain rfl := Option.some.inj ho
      refine ⟨rfl, fun a w v hR hk hj => ?_⟩
      obtain ⟨b11, rfl, hR⟩ := hR
      have d5 : a.tmps.getD 72 undef = .tuple #[.pointer (some ⟨b11, 0, none⟩), .int .i64 0] := hj 5 _ _ (by decide) (by kernel_rfl) rfl rfl
      have e5 : a.tmps[72]?.getD undef = _ := (Array.getD_eq_getD_getElem? ..).symm.trans d5
      show _ = Result.ok (Go.Next.value (.pointer (some ⟨b11, 0, none⟩))) w
      clear hki ho hin hk hj hR
      go_simp
    · obtain rfl := Option.some.inj ho
      refine ⟨rfl, fun a w v hR hk hj => ?_⟩
      obtain ⟨b11, rfl, hR⟩ := hR
      have d5 : a.tmps.getD 72 undef = .tuple #[.pointer (some ⟨b11, 0, none⟩), .int .i64 0] := hj 5 _ _ (by decide) (by kernel_rfl) rfl rfl
      have e5 : a.tmps[72]?.getD undef = _ := (Array.getD_eq_getD_getElem? ..).symm.trans d5
      show _ = Result.ok (Go.Next.value (.int .i64 0)) w
      clear hki ho hin hk hj hR
      go_simp
    · obtain rfl := Option.some.inj ho
      refine ⟨rfl, fun a w v hR hk hj => ?_⟩
      obtain ⟨b11, rfl, hR⟩ := hR
      have d6 : a.tmps.getD 78 undef = .pointer (some ⟨b11, 0, none⟩) := hj 6 _ _ (by decide) (by kernel_rfl) rfl rfl
      have e6 : a.tmps[78]?.getD undef = _ := (Array.getD_eq_getD_getElem? ..).symm.trans d6
      show _ = Result.ok (Go.Next.value (.pointer (some ⟨b11, 0, none⟩))) w
      clear hki ho hin hk hj hR
      go_simp
    · obtain rfl := Option.some.inj ho
      refine ⟨rfl, fun a w v hR hk hj => ?_⟩
      obtain ⟨b11, rfl, hR⟩ := hR
      have d7 : a.tmps.getD 79 undef = .int .i64 0 := hj 7 _ _ (by decide) (by kernel_rfl) rfl rfl
      have e7 : a.tmps[79]?.getD undef = _ := (Array.getD_eq_getD_getElem? ..).symm.trans d7
      show _ = Result.ok (Go.Next.value (.int .i64 0)) w
      clear hki ho hin hk hj hR
      go_simp
  · intro a w11 v hR hsz hdf hk fin keep
    obtain ⟨tm, df⟩ := a
    obtain ⟨b11, rfl, hR⟩ := hR
    have hx := frame_of [73, 74, 75, 76, 77, 72, 78, 79, 14, 15] (by kernel_rfl) hsz keep
    dsimp only at hdf hx hk
    simp only [List.foldl_cons, List.foldl_nil] at hx
    subst hdf
    clear hsz keep
    rw [hk] at hx
    clear hk
    generalize tm.getD 73 undef = y73 at hx
    generalize tm.getD 74 undef = y74 at hx
    generalize tm.getD 75 undef = y75 at hx
    generalize tm.getD 76 undef = y76 at hx
    have kn : tm.getD 72 undef = .tuple #[.pointer (some ⟨b11, 0, none⟩), .int .i64 0] := fin 5 _ _ (by decide) rfl rfl
    rw [kn] at hx
    clear kn
    have kn : tm.getD 78 undef = .pointer (some ⟨b11, 0, none⟩) := fin 6 _ _ (by decide) rfl rfl
    rw [kn] at hx
    clear kn
    have kn : tm.getD 79 undef = .int .i64 0 := fin 7 _ _ (by decide) rfl rfl
    rw [kn] at hx
    clear kn
    have kn : tm.getD 14 undef = .pointer (some ⟨b11, 0, none⟩) := fin 8 _ _ (by decide) rfl rfl
    rw [kn] at hx
    clear kn
    have kn : tm.getD 15 undef = .int .i64 0 := fin 9 _ _ (by decide) rfl rfl
    rw [kn] at hx
    clear kn
    clear fin
    simp only [List.setIfInBounds_toArray, List.set_cons_succ, List.set_cons_zero] at hx
    subst hx
    have RA11 := hide (hR.2.blk RA10.out (.inl (.inl RA3.out.lt)))
    have RB11 := hide (hR.2.blk RB10.out (.inl (.inl RB3.out.lt)))
    have PY11 := hide (Out.blk hR.2 PY10.out (.inr rfl))
    have O11 := hide (O10.out.trans hR.2)
    obtain ⟨⟨y11, hy11, ht11, hs11⟩, _⟩ := hR
    have H11 := hide hy11
    have T11 := hide ht11
    have S11 := hide hs11
    clear hy11 ht11 hs11 c1
    go_upto_region 13 with fail
    refine region_grows [Say.is (.bool true), Say.is (.bool true), Say.is (.string ⟨L1.toArray⟩), Say.is (.agg #[.int .i64 t1, .string k1, .string u1]), Say.rd 40 (L1), Say.is (.string ⟨(L1).toArray⟩), Say.is (.bool true), Say.is (.bool true), Say.is (.bool true), Say.is (.int .i64 0), Say.is (.bool true), Say.is (.bool true), Say.is (.bool true), Say.is (.pointer (some ⟨b11, 0, none⟩)), Say.is (.string ⟨L2.toArray⟩), Say.is (.agg #[.int .i64 t2, .string k2, .string u2]), Say.rd 40 (L2), Say.is (.string ⟨(L2).toArray⟩), Say.is (.bool true), Say.is (.bool true), Say.is (.bool true), Say.is (.pointer (some ⟨b11, 0, none⟩)), Say.is (.pointer (some ⟨b11, 0, none⟩)), Say.is (.pointer (some ⟨b11, 1, none⟩)), Say.is (.int .i64 1), Say.is (.bool true), Say.is (.bool true), Say.is (.bool true)] (by kernel_rfl) (by kernel_rfl) (by kernel_rfl) (by kernel_rfl) ?_ ?_
    · intro i o ho a w2 hb hsz old dep
      match i, ho with
      | 0, ho =>
        obtain rfl := Option.some.inj ho
        have o10 : a.tmps.getD 10 undef = _ := old 10 (by kernel_rfl)
        rw [if_pos (wanted_none rfl)]
        refine grow_same (v := .bool true) ?_ rfl
        clear old dep ho hsz hb
        go_simp
      | 1, ho =>
        obtain rfl := Option.some.inj ho
        have d0 : a.tmps.getD 80 undef = .bool true := dep 0 _ _ (by kernel_rfl) rfl rfl
        have e0 : a.tmps[80]?.getD undef = _ := (Array.getD_eq_getD_getElem? ..).symm.trans d0
        rw [if_pos (wanted_none rfl)]
        refine grow_same (v := .bool true) ?_ rfl
        clear old dep ho hsz hb
        go_simp
      | 2, ho =>
        obtain rfl := Option.some.inj ho
        have o9 : a.tmps.getD 9 undef = _ := old 9 (by kernel_rfl)
        have d1 : a.tmps.getD 81 undef = .bool true := dep 1 _ _ (by kernel_rfl) rfl rfl
        have e1 : a.tmps[81]?.getD undef = _ := (Array.getD_eq_getD_getElem? ..).symm.trans d1
        rw [if_pos (wanted_some rfl rfl rfl (by rw [hsz]; exact of_decide_eq_true rfl) d1)]
        refine grow_enters (f := 25) (args := #[.pointer (some ⟨w8.heap.size, 0, none⟩), .int .i64 0]) ?_ (slot_at (PgB.below PY11.out hb) 0 (by omega) Y8.out)
        clear old dep ho hsz hb
        go_simp
      | 3, ho =>
        obtain rfl := Option.some.inj ho
        have o3 : a.tmps.getD 3 undef = _ := old 3 (by kernel_rfl)
        have d1 : a.tmps.getD 81 undef = .bool true := dep 1 _ _ (by kernel_rfl) rfl rfl
        have e1 : a.tmps[81]?.getD undef = _ := (Array.getD_eq_getD_getElem? ..).symm.trans d1
        rw [if_pos (wanted_some rfl rfl rfl (by rw [hsz]; exact of_decide_eq_true rfl) d1)]
        obtain ⟨hx0, hx1, hx2⟩ := (Blk.below RA11.out hb).three
        refine grow_same (v := .agg #[.int .i64 t1, .string k1, .string u1]) ?_ rfl
        clear old dep ho hsz hb
        go_simp
      | 4, ho =>
        obtain rfl := Option.some.inj ho
        have d3 : a.tmps.getD 83 undef = .agg #[.int .i64 t1, .string k1, .string u1] := dep 3 _ _ (by kernel_rfl) rfl rfl
        have e3 : a.tmps[83]?.getD undef = _ := (Array.getD_eq_getD_getElem? ..).symm.trans d3
        have d1 : a.tmps.getD 81 undef = .bool true := dep 1 _ _ (by kernel_rfl) rfl rfl
        have e1 : a.tmps[81]?.getD undef = _ := (Array.getD_eq_getD_getElem? ..).symm.trans d1
        rw [if_pos (wanted_some rfl rfl rfl (by rw [hsz]; exact of_decide_eq_true rfl) d1)]
        refine grow_enters (f := 24) (args := #[.agg #[.int .i64 t1, .string k1, .string u1]]) ?_ (row_enc_told R1.out E1.out _)
        clear old dep ho hsz hb
        go_simp
      | 5, ho =>
        obtain rfl := Option.some.inj ho
        obtain ⟨A4, C4, d4, r4⟩ : ∃ A c, a.tmps.getD 84 undef = .slice A 40 c ∧ Rd w2 (.slice A 40 c) (u8s (L1)) := dep 4 _ _ (by kernel_rfl) rfl rfl
        have e4 : a.tmps[84]?.getD undef = _ := (Array.getD_eq_getD_getElem? ..).symm.trans d4
        have d1 : a.tmps.getD 81 undef = .bool true := dep 1 _ _ (by kernel_rfl) rfl rfl
        have e1 : a.tmps[81]?.getD undef = _ := (Array.getD_eq_getD_getElem? ..).symm.trans d1
        rw [if_pos (wanted_some rfl rfl rfl (by rw [hsz]; exact of_decide_eq_true rfl) d1)]
        have hcv := conv_rdn G1.out r4
        refine grow_same (v := .string ⟨(L1).toArray⟩) ?_ rfl
        clear old dep ho hsz hb r4
        go_simp
      | 6, ho =>
        obtain rfl := Option.some.inj ho
        have d2 : a.tmps.getD 82 undef = .string ⟨L1.toArray⟩ := dep 2 _ _ (by kernel_rfl) rfl rfl
        have e2 : a.tmps[82]?.getD undef = _ := (Array.getD_eq_getD_getElem? ..).symm.trans d2
        have d5 : a.tmps.getD 85 undef = .string ⟨(L1).toArray⟩ := dep 5 _ _ (by kernel_rfl) rfl rfl
        have e5 : a.tmps[85]?.getD undef = _ := (Array.getD_eq_getD_getElem? ..).symm.trans d5
        have d1 : a.tmps.getD 81 undef = .bool true := dep 1 _ _ (by kernel_rfl) rfl rfl
        have e1 : a.tmps[81]?.getD undef = _ := (Array.getD_eq_getD_getElem? ..).symm.trans d1
        rw [if_pos (wanted_some rfl rfl rfl (by rw [hsz]; exact of_decide_eq_true rfl) d1)]
        refine grow_same (v := .bool true) ?_ rfl
        clear old dep ho hsz hb
        go_simp
      | 7, ho =>
        obtain rfl := Option.some.inj ho
        have d1 : a.tmps.getD 81 undef = .bool true := dep 1 _ _ (by kernel_rfl) rfl rfl
        have e1 : a.tmps[81]?.getD undef = _ := (Array.getD_eq_getD_getElem? ..).symm.trans d1
        have d6 : a.tmps.getD 86 undef = .bool true := dep 6 _ _ (by kernel_rfl) rfl rfl
        have e6 : a.tmps[86]?.getD undef = _ := (Array.getD_eq_getD_getElem? ..).symm.trans d6
        rw [if_pos (wanted_none rfl)]
        refine grow_same (v := .bool true) ?_ rfl
        clear old dep ho hsz hb
        go_simp
      | 8, ho =>
        obtain rfl := Option.some.inj ho
        have d7 : a.tmps.getD 87 undef = .bool true := dep 7 _ _ (by kernel_rfl) rfl rfl
        have e7 : a.tmps[87]?.getD undef = _ := (Array.getD_eq_getD_getElem? ..).symm.trans d7
        rw [if_pos (wanted_none rfl)]
        refine grow_same (v := .bool true) ?_ rfl
        clear old dep ho hsz hb
        go_simp
      | 9, ho =>
        obtain rfl := Option.some.inj ho
        have o15 : a.tmps.getD 15 undef = _ := old 15 (by kernel_rfl)
        have d8 : a.tmps.getD 88 undef = .bool true := dep 8 _ _ (by kernel_rfl) rfl rfl
        have e8 : a.tmps[88]?.getD undef = _ := (Array.getD_eq_getD_getElem? ..).symm.trans d8
        rw [if_pos (wanted_some rfl rfl rfl (by rw [hsz]; exact of_decide_eq_true rfl) d8)]
        refine grow_same (v := .int .i64 0) ?_ rfl
        clear old dep ho hsz hb
        go_simp
      | 10, ho =>
        obtain rfl := Option.some.inj ho
        have d9 : a.tmps.getD 89 undef = .int .i64 0 := dep 9 _ _ (by kernel_rfl) rfl rfl
        have e9 : a.tmps[89]?.getD undef = _ := (Array.getD_eq_getD_getElem? ..).symm.trans d9
        have d8 : a.tmps.getD 88 undef = .bool true := dep 8 _ _ (by kernel_rfl) rfl rfl
        have e8 : a.tmps[88]?.getD undef = _ := (Array.getD_eq_getD_getElem? ..).symm.trans d8
        rw [if_pos (wanted_some rfl rfl rfl (by rw [hsz]; exact of_decide_eq_true rfl) d8)]
        refine grow_same (v := .bool true) ?_ rfl
        clear old dep ho hsz hb
        go_simp
      | 11, ho =>
        obtain rfl := Option.some.inj ho
        have d8 : a.tmps.getD 88 undef = .bool true := dep 8 _ _ (by kernel_rfl) rfl rfl
        have e8 : a.tmps[88]?.getD undef = _ := (Array.getD_eq_getD_getElem? ..).symm.trans d8
        have d10 : a.tmps.getD 90 undef = .bool true := dep 10 _ _ (by kernel_rfl) rfl rfl
        have e10 : a.tmps[90]?.getD undef = _ := (Array.getD_eq_getD_getElem? ..).symm.trans d10
        rw [if_pos (wanted_none rfl)]
        refine grow_same (v := .bool true) ?_ rfl
        clear old dep ho hsz hb
        go_simp
      | 12, ho =>
        obtain rfl := Option.some.inj ho
        have d11 : a.tmps.getD 91 undef = .bool true := dep 11 _ _ (by kernel_rfl) rfl rfl
        have e11 : a.tmps[91]?.getD undef = _ := (Array.getD_eq_getD_getElem? ..).symm.trans d11
        rw [if_pos (wanted_none rfl)]
        refine grow_same (v := .bool true) ?_ rfl
        clear old dep ho hsz hb
        go_simp
      | 13, ho =>
        obtain rfl := Option.some.inj ho
        have o14 : a.tmps.getD 14 undef = _ := old 14 (by kernel_rfl)
        have d12 : a.tmps.getD 92 undef = .bool true := dep 12 _ _ (by kernel_rfl) rfl rfl
        have e12 : a.tmps[92]?.getD undef = _ := (Array.getD_eq_getD_getElem? ..).symm.trans d12
        rw [if_pos (wanted_some rfl rfl rfl (by rw [hsz]; exact of_decide_eq_true rfl) d12)]
        refine grow_same (v := .pointer (some ⟨b11, 0, none⟩)) ?_ rfl
        clear old dep ho hsz hb
        go_simp
      | 14, ho =>
        obtain rfl := Option.some.inj ho
        have d13 : a.tmps.getD 93 undef = .pointer (some ⟨b11, 0, none⟩) := dep 13 _ _ (by kernel_rfl) rfl rfl
        have e13 : a.tmps[93]?.getD undef = _ := (Array.getD_eq_getD_getElem? ..).symm.trans d13
        have d12 : a.tmps.getD 92 undef = .bool true := dep 12 _ _ (by kernel_rfl) rfl rfl
        have e12 : a.tmps[92]?.getD undef = _ := (Array.getD_eq_getD_getElem? ..).symm.trans d12
        rw [if_pos (wanted_some rfl rfl rfl (by rw [hsz]; exact of_decide_eq_true rfl) d12)]
        refine grow_enters (f := 25) (args := #[.pointer (some ⟨b11, 0, none⟩), .int .i64 0]) ?_ (slot_at (PgB.below H11.out hb) 0 (by omega) S11.out)
        clear old dep ho hsz hb
        go_simp
      | 15, ho =>
        obtain rfl := Option.some.inj ho
        have o4 : a.tmps.getD 4 undef = _ := old 4 (by kernel_rfl)
        have d12 : a.tmps.getD 92 undef = .bool true := dep 12 _ _ (by kernel_rfl) rfl rfl
        have e12 : a.tmps[92]?.getD undef = _ := (Array.getD_eq_getD_getElem? ..).symm.trans d12
        rw [if_pos (wanted_some rfl rfl rfl (by rw [hsz]; exact of_decide_eq_true rfl) d12)]
        obtain ⟨hx0, hx1, hx2⟩ := (Blk.below RB11.out hb).three
        refine grow_same (v := .agg #[.int .i64 t2, .string k2, .string u2]) ?_ rfl
        clear old dep ho hsz hb
        go_simp
      | 16, ho =>
        obtain rfl := Option.some.inj ho
        have d15 : a.tmps.getD 95 undef = .agg #[.int .i64 t2, .string k2, .string u2] := dep 15 _ _ (by kernel_rfl) rfl rfl
        have e15 : a.tmps[95]?.getD undef = _ := (Array.getD_eq_getD_getElem? ..).symm.trans d15
        have d12 : a.tmps.getD 92 undef = .bool true := dep 12 _ _ (by kernel_rfl) rfl rfl
        have e12 : a.tmps[92]?.getD undef = _ := (Array.getD_eq_getD_getElem? ..).symm.trans d12
        rw [if_pos (wanted_some rfl rfl rfl (by rw [hsz]; exact of_decide_eq_true rfl) d12)]
        refine grow_enters (f := 24) (args := #[.agg #[.int .i64 t2, .string k2, .string u2]]) ?_ (row_enc_told R2.out E2.out _)
        clear old dep ho hsz hb
        go_simp
      | 17, ho =>
        obtain rfl := Option.some.inj ho
        obtain ⟨A16, C16, d16, r16⟩ : ∃ A c, a.tmps.getD 96 undef = .slice A 40 c ∧ Rd w2 (.slice A 40 c) (u8s (L2)) := dep 16 _ _ (by kernel_rfl) rfl rfl
        have e16 : a.tmps[96]?.getD undef = _ := (Array.getD_eq_getD_getElem? ..).symm.trans d16
        have d12 : a.tmps.getD 92 undef = .bool true := dep 12 _ _ (by kernel_rfl) rfl rfl
        have e12 : a.tmps[92]?.getD undef = _ := (Array.getD_eq_getD_getElem? ..).symm.trans d12
        rw [if_pos (wanted_some rfl rfl rfl (by rw [hsz]; exact of_decide_eq_true rfl) d12)]
        have hcv := conv_rdn G2.out r16
        refine grow_same (v := .string ⟨(L2).toArray⟩) ?_ rfl
        clear old dep ho hsz hb r16
        go_simp
      | 18, ho =>
        obtain rfl := Option.some.inj ho
        have d14 : a.tmps.getD 94 undef = .string ⟨L2.toArray⟩ := dep 14 _ _ (by kernel_rfl) rfl rfl
        have e14 : a.tmps[94]?.getD undef = _ := (Array.getD_eq_getD_getElem? ..).symm.trans d14
        have d17 : a.tmps.getD 97 undef = .string ⟨(L2).toArray⟩ := dep 17 _ _ (by kernel_rfl) rfl rfl
        have e17 : a.tmps[97]?.getD undef = _ := (Array.getD_eq_getD_getElem? ..).symm.trans d17
        have d12 : a.tmps.getD 92 undef = .bool true := dep 12 _ _ (by kernel_rfl) rfl rfl
        have e12 : a.tmps[92]?.getD undef = _ := (Array.getD_eq_getD_getElem? ..).symm.trans d12
        rw [if_pos (wanted_some rfl rfl rfl (by rw [hsz]; exact of_decide_eq_true rfl) d12)]
        refine grow_same (v := .bool true) ?_ rfl
        clear old dep ho hsz hb
        go_simp
      | 19, ho =>
        obtain rfl := Option.some.inj ho
        have d12 : a.tmps.getD 92 undef = .bool true := dep 12 _ _ (by kernel_rfl) rfl rfl
        have e12 : a.tmps[92]?.getD undef = _ := (Array.getD_eq_getD_getElem? ..).symm.trans d12
        have d18 : a.tmps.getD 98 undef = .bool true := dep 18 _ _ (by kernel_rfl) rfl rfl
        have e18 : a.tmps[98]?.getD undef = _ := (Array.getD_eq_getD_getElem? ..).symm.trans d18
        rw [if_pos (wanted_none rfl)]
        refine grow_same (v := .bool true) ?_ rfl
        clear old dep ho hsz hb
        go_simp
      | 20, ho =>
        obtain rfl := Option.some.inj ho
        have d19 : a.tmps.getD 99 undef = .bool true := dep 19 _ _ (by kernel_rfl) rfl rfl
        have e19 : a.tmps[99]?.getD undef = _ := (Array.getD_eq_getD_getElem? ..).symm.trans d19
        rw [if_pos (wanted_none rfl)]
        refine grow_same (v := .bool true) ?_ rfl
        clear old dep ho hsz hb
        go_simp
      | 21, ho =>
        obtain rfl := Option.some.inj ho
        have o14 : a.tmps.getD 14 undef = _ := old 14 (by kernel_rfl)
        have d20 : a.tmps.getD 100 undef = .bool true := dep 20 _ _ (by kernel_rfl) rfl rfl
        have e20 : a.tmps[100]?.getD undef = _ := (Array.getD_eq_getD_getElem? ..).symm.trans d20
        rw [if_pos (wanted_some rfl rfl rfl (by rw [hsz]; exact of_decide_eq_true rfl) d20)]
        refine grow_same (v := .pointer (some ⟨b11, 0, none⟩)) ?_ rfl
        clear old dep ho hsz hb
        go_simp
      | 22, ho =>
        obtain rfl := Option.some.inj ho
        have d21 : a.tmps.getD 101 undef = .pointer (some ⟨b11, 0, none⟩) := dep 21 _ _ (by kernel_rfl) rfl rfl
        have e21 : a.tmps[101]?.getD undef = _ := (Array.getD_eq_getD_getElem? ..).symm.trans d21
        have d20 : a.tmps.getD 100 undef = .bool true := dep 20 _ _ (by kernel_rfl) rfl rfl
        have e20 : a.tmps[100]?.getD undef = _ := (Array.getD_eq_getD_getElem? ..).symm.trans d20
        rw [if_pos (wanted_some rfl rfl rfl (by rw [hsz]; exact of_decide_eq_true rfl) d20)]
        refine grow_same (v := .pointer (some ⟨b11, 0, none⟩)) ?_ rfl
        clear old dep ho hsz hb
        go_simp
      | 23, ho =>
        obtain rfl := Option.some.inj ho
        have d22 : a.tmps.getD 102 undef = .pointer (some ⟨b11, 0, none⟩) := dep 22 _ _ (by kernel_rfl) rfl rfl
        have e22 : a.tmps[102]?.getD undef = _ := (Array.getD_eq_getD_getElem? ..).symm.trans d22
        have d20 : a.tmps.getD 100 undef = .bool true := dep 20 _ _ (by kernel_rfl) rfl rfl
        have e20 : a.tmps[100]?.getD undef = _ := (Array.getD_eq_getD_getElem? ..).symm.trans d20
        rw [if_pos (wanted_some rfl rfl rfl (by rw [hsz]; exact of_decide_eq_true rfl) d20)]
        refine grow_same (v := .pointer (some ⟨b11, 1, none⟩)) ?_ rfl
        clear old dep ho hsz hb
        go_simp
      | 24, ho =>
        obtain rfl := Option.some.inj ho
        have d23 : a.tmps.getD 103 undef = .pointer (some ⟨b11, 1, none⟩) := dep 23 _ _ (by kernel_rfl) rfl rfl
        have e23 : a.tmps[103]?.getD undef = _ := (Array.getD_eq_getD_getElem? ..).symm.trans d23
        have d20 : a.tmps.getD 100 undef = .bool true := dep 20 _ _ (by kernel_rfl) rfl rfl
        have e20 : a.tmps[100]?.getD undef = _ := (Array.getD_eq_getD_getElem? ..).symm.trans d20
        rw [if_pos (wanted_some rfl rfl rfl (by rw [hsz]; exact of_decide_eq_true rfl) d20)]
        have hmk : w2.cell? ⟨b11, 1, none⟩ = some (.int .i64 1) := by have h := PgB.tenC (PgB.below H11.out hb); rw [T11.out] at h; exact h
        refine grow_same (v := .int .i64 1) ?_ rfl
        clear old dep ho hsz hb
        go_simp
      | 25, ho =>
        obtain rfl := Option.some.inj ho
        have d24 : a.tmps.getD 104 undef = .int .i64 1 := dep 24 _ _ (by kernel_rfl) rfl rfl
        have e24 : a.tmps[104]?.getD undef = _ := (Array.getD_eq_getD_getElem? ..).symm.trans d24
        have d20 : a.tmps.getD 100 undef = .bool true := dep 20 _ _ (by kernel_rfl) rfl rfl
        have e20 : a.tmps[100]?.getD undef = _ := (Array.getD_eq_getD_getElem? ..).symm.trans d20
        rw [if_pos (wanted_some rfl rfl rfl (by rw [hsz]; exact of_decide_eq_true rfl) d20)]
        refine grow_same (v := .bool true) ?_ rfl
        clear old dep ho hsz hb
        go_simp
      | 26, ho =>
        obtain rfl := Option.some.inj ho
        have d20 : a.tmps.getD 100 undef = .bool true := dep 20 _ _ (by kernel_rfl) rfl rfl
        have e20 : a.tmps[100]?.getD undef = _ := (Array.getD_eq_getD_getElem? ..).symm.trans d20
        have d25 : a.tmps.getD 105 undef = .bool true := dep 25 _ _ (by kernel_rfl) rfl rfl
        have e25 : a.tmps[105]?.getD undef = _ := (Array.getD_eq_getD_getElem? ..).symm.trans d25
        rw [if_pos (wanted_none rfl)]
        refine grow_same (v := .bool true) ?_ rfl
        clear old dep ho hsz hb
        go_simp
      | 27, ho =>
        obtain rfl := Option.some.inj ho
        have d26 : a.tmps.getD 106 undef = .bool true := dep 26 _ _ (by kernel_rfl) rfl rfl
        have e26 : a.tmps[106]?.getD undef = _ := (Array.getD_eq_getD_getElem? ..).symm.trans d26
        rw [if_pos (wanted_none rfl)]
        refine grow_same (v := .bool true) ?_ rfl
        clear old dep ho hsz hb
        go_simp
      | i + 28, ho => exact absurd ho (by simp)
    · intro a w2 hb hsz hdf fin keep
      obtain ⟨tm, df⟩ := a
      have hx := frame_of [80, 81, 82, 83, 84, 85, 86, 87, 88, 89, 90, 91, 92, 93, 94, 95, 96, 97, 98, 99, 100, 101, 102, 103, 104, 105, 106, 6] (by kernel_rfl) hsz keep
      dsimp only at hdf hx
      simp only [List.foldl_cons, List.foldl_nil] at hx
      subst hdf
      clear hsz keep
      have kn : tm.getD 80 undef = .bool true := fin 0 _ _ rfl rfl
      rw [kn] at hx
      clear kn
      have kn : tm.getD 81 undef = .bool true := fin 1 _ _ rfl rfl
      rw [kn] at hx
      clear kn
      have kn : tm.getD 82 undef = .string ⟨L1.toArray⟩ := fin 2 _ _ rfl rfl
      rw [kn] at hx
      clear kn
      have kn : tm.getD 83 undef = .agg #[.int .i64 t1, .string k1, .string u1] := fin 3 _ _ rfl rfl
      rw [kn] at hx
      clear kn
      obtain ⟨A84, C84, kn, R84⟩ : ∃ A c, tm.getD 84 undef = .slice A 40 c ∧ Rd w2 (.slice A 40 c) (u8s (L1)) := fin 4 _ _ rfl rfl
      rw [kn] at hx
      clear kn
      clear R84
      have kn : tm.getD 85 undef = .string ⟨(L1).toArray⟩ := fin 5 _ _ rfl rfl
      rw [kn] at hx
      clear kn
      have kn : tm.getD 86 undef = .bool true := fin 6 _ _ rfl rfl
      rw [kn] at hx
      clear kn
      have kn : tm.getD 87 undef = .bool true := fin 7 _ _ rfl rfl
      rw [kn] at hx
      clear kn
      have kn : tm.getD 88 undef = .bool true := fin 8 _ _ rfl rfl
      rw [kn] at hx
      clear kn
      have kn : tm.getD 89 undef = .int .i64 0 := fin 9 _ _ rfl rfl
      rw [kn] at hx
      clear kn
      have kn : tm.getD 90 undef = .bool true := fin 10 _ _ rfl rfl
      rw [kn] at hx
      clear kn
      have kn : tm.getD 91 undef = .bool true := fin 11 _ _ rfl rfl
      rw [kn] at hx
      clear kn
      have kn : tm.getD 92 undef = .bool true := fin 12 _ _ rfl rfl
      rw [kn] at hx
      clear kn
      have kn : tm.getD 93 undef = .pointer (some ⟨b11, 0, none⟩) := fin 13 _ _ rfl rfl
      rw [kn] at hx
      clear kn
      have kn : tm.getD 94 undef = .string ⟨L2.toArray⟩ := fin 14 _ _ rfl rfl
      rw [kn] at hx
      clear kn
      have kn : tm.getD 95 undef = .agg #[.int .i64 t2, .string k2, .string u2] := fin 15 _ _ rfl rfl
      rw [kn] at hx
      clear kn
      obtain ⟨A96, C96, kn, R96⟩ : ∃ A c, tm.getD 96 undef = .slice A 40 c ∧ Rd w2 (.slice A 40 c) (u8s (L2)) := fin 16 _ _ rfl rfl
      rw [kn] at hx
      clear kn
      clear R96
      have kn : tm.getD 97 undef = .string ⟨(L2).toArray⟩ := fin 17 _ _ rfl rfl
      rw [kn] at hx
      clear kn
      have kn : tm.getD 98 undef = .bool true := fin 18 _ _ rfl rfl
      rw [kn] at hx
      clear kn
      have kn : tm.getD 99 undef = .bool true := fin 19 _ _ rfl rfl
      rw [kn] at hx
      clear kn
      have kn : tm.getD 100 undef = .bool true := fin 20 _ _ rfl rfl
      rw [kn] at hx
      clear kn
      have kn : tm.getD 101 undef = .pointer (some ⟨b11, 0, none⟩) := fin 21 _ _ rfl rfl
      rw [kn] at hx
      clear kn
      have kn : tm.getD 102 undef = .pointer (some ⟨b11, 0, none⟩) := fin 22 _ _ rfl rfl
      rw [kn] at hx
      clear kn
      have kn : tm.getD 103 undef = .pointer (some ⟨b11, 1, none⟩) := fin 23 _ _ rfl rfl
      rw [kn] at hx
      clear kn
      have kn : tm.getD 104 undef = .int .i64 1 := fin 24 _ _ rfl rfl
      rw [kn] at hx
      clear kn
      have kn : tm.getD 105 undef = .bool true := fin 25 _ _ rfl rfl
      rw [kn] at hx
      clear kn
      have kn : tm.getD 106 undef = .bool true := fin 26 _ _ rfl rfl
      rw [kn] at hx
      clear kn
      have kn : tm.getD 6 undef = .bool true := fin 27 _ _ rfl rfl
      rw [kn] at hx
      clear kn
      clear fin
      simp only [List.setIfInBounds_toArray, List.set_cons_succ, List.set_cons_zero] at hx
      subst hx
      have OT := (O7.out.trans (Out.of_below B9.out)).trans ((O11.out.less (X := fun k => k < w3.heap.size ∨ k = w4.heap.size) (fun k hk => .inl hk)).trans (Out.of_below hb))
      go_wp2
      go_ret
      exact ⟨rfl, B3.out.trans ((B5.out.trans ((OT.below B5.out.size (fun k hk => .inl hk)).mono (Nat.le_refl _))).mono B3.out.size)⟩
theorem two_walk (t1 : Int) (k1 u1 : ByteArray) (t2 : Int) (k2 u2 : ByteArray) (n : Int) (w : World) (_ : (Lit.int .i64 t1).wf = true) (hk1 : k1.size ≤ maxLen) (hu1 : u1.size ≤ maxLen) (_ : (Lit.int .i64 t2).wf = true) (hk2 : k2.size ≤ maxLen) (hu2 : u2.size ≤ maxLen) (_ : (Lit.int .i64 n).wf = true) :
    Calls Try.prog 7 #[.agg #[.int .i64 t1, .string k1, .string u1], .agg #[.int .i64 t2, .string k2, .string u2], .int .i64 n] w fun e w' => e = .returned (.bool true) ∧ Below w.heap.size w w' := by
  cases h1 : rowOkB t1 k1 u1
  · exact two_no t1 k1 u1 t2 k2 u2 n w hk1 hu1 hk2 hu2 (.inl h1)
  · cases h2 : rowOkB t2 k2 u2
    · exact two_no t1 k1 u1 t2 k2 u2 n w hk1 hu1 hk2 hu2 (.inr h2)
    · exact two_yes t1 k1 u1 t2 k2 u2 n w h1 h2
end Go.Proofs.Ytkdcnddagebjpaa
