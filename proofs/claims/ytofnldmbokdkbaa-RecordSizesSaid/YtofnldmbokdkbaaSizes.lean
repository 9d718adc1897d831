/-
  The walk of RecordSizes.
-/
import Derived.Test.YtofnldmbokdkbaaHas
namespace Go.Proofs.Ytofnldmbokdkbaa
open Go.RowKit

set_option linter.unusedSimpArgs false
set_option linter.unusedVariables false

set_option maxHeartbeats 4000000 in
theorem sizes_walk (x : SeedD) (w : World) (hx : x.Fit w w.heap.size) :
    Calls Try.prog 9 #[.agg x.cells.toArray] w fun e w' => e = .returned (.bool true) ∧ Below w.heap.size w w' := by
  obtain ⟨A, c, ee, _, _⟩ := id hx.row
  obtain ⟨n, hn_x⟩ : ∃ n, x.ds.length = n := ⟨_, rfl⟩
  rw [u64s_length, hn_x] at ee
  have hv_x := hx.row
  have hu_x := hide hx.u
  rw [ee] at hv_x
  unfold SeedD.cells
  rw [ee]
  clear ee
  have S0 := Sbx.new_ hv_x
  by_cases h100 : 100 < n
  · go_enter Try.func9, Try.ntmps9
    go_wp2_with (go_at_call 10; ((with_reducible refine (fit_any _).mono ?_); rintro e w1 ⟨rfl, hb1⟩; have S1 := S0.below hb1; obtain ⟨p0, p1, p2, p3, p4, p5, p6, p7⟩ := S1.cells))
    go_ret
    exact ⟨rfl, S1.bel⟩
  · go_enter Try.func9, Try.ntmps9
    go_wp2_with (first
      | (go_at_call 10; ((with_reducible refine (fit_any _).mono ?_); rintro e w1 ⟨rfl, hb1⟩; have S1 := S0.below hb1; obtain ⟨p0, p1, p2, p3, p4, p5, p6, p7⟩ := S1.cells))
      | (go_at_call 11; ((with_reducible refine (seed_told x A n c _ hn_x hu_x.out S1.rd).mono ?_); rintro e w2 ⟨r, A2, c2, rfl, hO, hrd2, hb2⟩; have H2 := Has.new_ (S1.bel.trans (hb2.mono S1.bel.size)) (hrd2.rd (Nat.le_refl _)); obtain ⟨q0, q1, q2, q3, q4, q5, q6, q7⟩ := H2.cells; have HO := hide hO))
      | (go_at_call 12; ((with_reducible refine (enc_told r A2 c2 _ HO.out H2.rd).mono ?_); rintro e w3 ⟨A3, c3, rfl, m3, hb3⟩; have H3 := H2.below hb3; obtain ⟨u0, u1, u2, u3, u4, u5, u6, u7⟩ := H3.cells; have hsb := HO.out.b; have hsa := HO.out.a; have hsi := HO.out.i; have hsd : r.ds.length ≤ 6 := (by have := HO.out.d; omega))))
    have hlen := r.frame_length
    have hsl := Rc.said_lt HO.out
    have hs2 : r.frame.length = r.said.length + 2 := by rw [frame_head r]; rfl
    obtain ⟨g3, rfl, _, hg, _, _, hcell⟩ := mine_at m3 (by omega)
    have hg3 := hide hg
    have k0 := hcell 0 (UInt8.ofNat (r.said.length / 256)) (by rw [frame_head r]; rfl)
    have k1 := hcell 1 (UInt8.ofNat r.said.length) (by rw [frame_head r]; rfl)
    have b0 : (UInt8.ofNat (r.said.length / 256)).toNat = r.said.length / 256 := by rw [UInt8.toNat_ofNat']; omega
    have b1 : (UInt8.ofNat r.said.length).toNat = r.said.length % 256 := UInt8.toNat_ofNat' ..
    rw [b0] at k0
    rw [b1] at k1
    obtain ⟨x0, hx0⟩ : ∃ x0, r.said.length / 256 = x0 := ⟨_, rfl⟩
    obtain ⟨x1, hx1⟩ : ∃ x1, r.said.length % 256 = x1 := ⟨_, rfl⟩
    rw [hx0] at k0
    rw [hx1] at k1
    have hc0 := hide k0
    have hc1 := hide k1
    have B0 := hide (show x0 ≤ 1 by omega)
    have B1 := hide (show x1 < 256 by omega)
    have E1 := hide (show ((r.frame.length : Int) == 11 + (r.b.size : Int) + (r.a.size : Int) + (r.i.size : Int) + 8 * (r.ds.length : Int)) = true by rw [beq_iff_eq]; omega)
    have E2 := hide (show (11 + (r.b.size : Int) + (r.a.size : Int) + (r.i.size : Int) + 8 * (r.ds.length : Int)) ≤ 395 by omega)
    have E3 := hide (show 0 ≤ (11 + (r.b.size : Int) + (r.a.size : Int) + (r.i.size : Int) + 8 * (r.ds.length : Int)) ∧ (11 + (r.b.size : Int) + (r.a.size : Int) + (r.i.size : Int) + 8 * (r.ds.length : Int)) ≤ 395 by omega)
    have E4 := hide (show (x0 : Int) * 256 + (x1 : Int) = (11 + (r.b.size : Int) + (r.a.size : Int) + (r.i.size : Int) + 8 * (r.ds.length : Int)) - 2 by omega)
    have EL := hide (show 2 ≤ r.frame.length by omega)
    have HOR := hide (or_bytes x0 x1 (by omega) (by omega))
    clear hlen hsl hs2 hcell k0 k1 b0 b1 hx0 hx1 hg m3 hsb hsa hsi hsd
    generalize r.frame.length = N at *
    refine region_grows [Say.is (.slice (some ⟨g3, 0, none⟩) N c3), Say.is (.int .i64 (N : Int)), Say.is (.int .i64 (11 + (r.b.size : Int) + (r.a.size : Int) + (r.i.size : Int) + 8 * (r.ds.length : Int))), Say.is (.bool true), Say.is (.bool true), Say.is (.int .i64 (11 + (r.b.size : Int) + (r.a.size : Int) + (r.i.size : Int) + 8 * (r.ds.length : Int))), Say.is (.bool true), Say.is (.bool true), Say.is (.bool true), Say.is (.slice (some ⟨g3, 0, none⟩) N c3), Say.is (.pointer (some ⟨g3, 0, none⟩)), Say.is (.int .u8 (x0 : Int)), Say.is (.int .i64 (x0 : Int)), Say.is (.int .i64 ((x0 : Int) * 256)), Say.is (.slice (some ⟨g3, 0, none⟩) N c3), Say.is (.pointer (some ⟨g3, 1, none⟩)), Say.is (.int .u8 (x1 : Int)), Say.is (.int .i64 (x1 : Int)), Say.is (.int .i64 ((x0 * 256 + x1 : Nat) : Int)), Say.is (.int .i64 (11 + (r.b.size : Int) + (r.a.size : Int) + (r.i.size : Int) + 8 * (r.ds.length : Int))), Say.is (.int .i64 (11 + (r.b.size : Int) + (r.a.size : Int) + (r.i.size : Int) + 8 * (r.ds.length : Int) - 2)), Say.is (.bool true), Say.is (.bool true), Say.is (.bool true)] (by kernel_rfl) (by kernel_rfl) (by kernel_rfl) (by kernel_rfl) ?_ ?_
    · intro i o ho a w2 hb hsz old dep
      match i, ho with
      | 0, ho =>
        obtain rfl := Option.some.inj ho
        have o4 : a.tmps.getD 4 undef = _ := old 4 (by kernel_rfl)
        rw [if_pos (wanted_none rfl)]
        refine grow_same (v := .slice (some ⟨g3, 0, none⟩) N c3) ?_ rfl
        clear old dep ho hsz hb
        go_simp
      | 1, ho =>
        obtain rfl := Option.some.inj ho
        have d0 : a.tmps.getD 33 undef = .slice (some ⟨g3, 0, none⟩) N c3 := dep 0 _ _ (by kernel_rfl) rfl rfl
        have e0 : a.tmps[33]?.getD undef = _ := (Array.getD_eq_getD_getElem? ..).symm.trans d0
        rw [if_pos (wanted_none rfl)]
        refine grow_same (v := .int .i64 (N : Int)) ?_ rfl
        clear old dep ho hsz hb
        go_simp
      | 2, ho =>
        obtain rfl := Option.some.inj ho
        have o5 : a.tmps.getD 5 undef = _ := old 5 (by kernel_rfl)
        rw [if_pos (wanted_none rfl)]
        refine grow_same (v := .int .i64 (11 + (r.b.size : Int) + (r.a.size : Int) + (r.i.size : Int) + 8 * (r.ds.length : Int))) ?_ rfl
        clear old dep ho hsz hb
        go_simp
      | 3, ho =>
        obtain rfl := Option.some.inj ho
        have d1 : a.tmps.getD 34 undef = .int .i64 (N : Int) := dep 1 _ _ (by kernel_rfl) rfl rfl
        have e1 : a.tmps[34]?.getD undef = _ := (Array.getD_eq_getD_getElem? ..).symm.trans d1
        have d2 : a.tmps.getD 35 undef = .int .i64 (11 + (r.b.size : Int) + (r.a.size : Int) + (r.i.size : Int) + 8 * (r.ds.length : Int)) := dep 2 _ _ (by kernel_rfl) rfl rfl
        have e2 : a.tmps[35]?.getD undef = _ := (Array.getD_eq_getD_getElem? ..).symm.trans d2
        rw [if_pos (wanted_none rfl)]
        have hw := E1.out
        refine grow_same (v := .bool true) ?_ rfl
        clear old dep ho hsz hb
        go_simp
      | 4, ho =>
        obtain rfl := Option.some.inj ho
        have d3 : a.tmps.getD 36 undef = .bool true := dep 3 _ _ (by kernel_rfl) rfl rfl
        have e3 : a.tmps[36]?.getD undef = _ := (Array.getD_eq_getD_getElem? ..).symm.trans d3
        rw [if_pos (wanted_none rfl)]
        refine grow_same (v := .bool true) ?_ rfl
        clear old dep ho hsz hb
        go_simp
      | 5, ho =>
        obtain rfl := Option.some.inj ho
        have o5 : a.tmps.getD 5 undef = _ := old 5 (by kernel_rfl)
        have d4 : a.tmps.getD 37 undef = .bool true := dep 4 _ _ (by kernel_rfl) rfl rfl
        have e4 : a.tmps[37]?.getD undef = _ := (Array.getD_eq_getD_getElem? ..).symm.trans d4
        rw [if_pos (wanted_some rfl rfl rfl (by rw [hsz]; exact of_decide_eq_true rfl) d4)]
        refine grow_same (v := .int .i64 (11 + (r.b.size : Int) + (r.a.size : Int) + (r.i.size : Int) + 8 * (r.ds.length : Int))) ?_ rfl
        clear old dep ho hsz hb
        go_simp
      | 6, ho =>
        obtain rfl := Option.some.inj ho
        have d5 : a.tmps.getD 38 undef = .int .i64 (11 + (r.b.size : Int) + (r.a.size : Int) + (r.i.size : Int) + 8 * (r.ds.length : Int)) := dep 5 _ _ (by kernel_rfl) rfl rfl
        have e5 : a.tmps[38]?.getD undef = _ := (Array.getD_eq_getD_getElem? ..).symm.trans d5
        have d4 : a.tmps.getD 37 undef = .bool true := dep 4 _ _ (by kernel_rfl) rfl rfl
        have e4 : a.tmps[37]?.getD undef = _ := (Array.getD_eq_getD_getElem? ..).symm.trans d4
        rw [if_pos (wanted_some rfl rfl rfl (by rw [hsz]; exact of_decide_eq_true rfl) d4)]
        have hw := E2.out
        refine grow_same (v := .bool true) ?_ rfl
        clear old dep ho hsz hb
        go_simp
      | 7, ho =>
        obtain rfl := Option.some.inj ho
        have d4 : a.tmps.getD 37 undef = .bool true := dep 4 _ _ (by kernel_rfl) rfl rfl
        have e4 : a.tmps[37]?.getD undef = _ := (Array.getD_eq_getD_getElem? ..).symm.trans d4
        have d6 : a.tmps.getD 39 undef = .bool true := dep 6 _ _ (by kernel_rfl) rfl rfl
        have e6 : a.tmps[39]?.getD undef = _ := (Array.getD_eq_getD_getElem? ..).symm.trans d6
        rw [if_pos (wanted_none rfl)]
        refine grow_same (v := .bool true) ?_ rfl
        clear old dep ho hsz hb
        go_simp
      | 8, ho =>
        obtain rfl := Option.some.inj ho
        have d7 : a.tmps.getD 40 undef = .bool true := dep 7 _ _ (by kernel_rfl) rfl rfl
        have e7 : a.tmps[40]?.getD undef = _ := (Array.getD_eq_getD_getElem? ..).symm.trans d7
        rw [if_pos (wanted_none rfl)]
        refine grow_same (v := .bool true) ?_ rfl
        clear old dep ho hsz hb
        go_simp
      | 9, ho =>
        obtain rfl := Option.some.inj ho
        have o4 : a.tmps.getD 4 undef = _ := old 4 (by kernel_rfl)
        have d8 : a.tmps.getD 41 undef = .bool true := dep 8 _ _ (by kernel_rfl) rfl rfl
        have e8 : a.tmps[41]?.getD undef = _ := (Array.getD_eq_getD_getElem? ..).symm.trans d8
        rw [if_pos (wanted_some rfl rfl rfl (by rw [hsz]; exact of_decide_eq_true rfl) d8)]
        refine grow_same (v := .slice (some ⟨g3, 0, none⟩) N c3) ?_ rfl
        clear old dep ho hsz hb
        go_simp
      | 10, ho =>
        obtain rfl := Option.some.inj ho
        have d9 : a.tmps.getD 42 undef = .slice (some ⟨g3, 0, none⟩) N c3 := dep 9 _ _ (by kernel_rfl) rfl rfl
        have e9 : a.tmps[42]?.getD undef = _ := (Array.getD_eq_getD_getElem? ..).symm.trans d9
        have d8 : a.tmps.getD 41 undef = .bool true := dep 8 _ _ (by kernel_rfl) rfl rfl
        have e8 : a.tmps[41]?.getD undef = _ := (Array.getD_eq_getD_getElem? ..).symm.trans d8
        rw [if_pos (wanted_some rfl rfl rfl (by rw [hsz]; exact of_decide_eq_true rfl) d8)]
        have hw := EL.out
        refine grow_same (v := .pointer (some ⟨g3, 0, none⟩)) ?_ rfl
        clear old dep ho hsz hb
        go_simp
        intro hz
        exact absurd hz (by omega)
      | 11, ho =>
        obtain rfl := Option.some.inj ho
        have d10 : a.tmps.getD 43 undef = .pointer (some ⟨g3, 0, none⟩) := dep 10 _ _ (by kernel_rfl) rfl rfl
        have e10 : a.tmps[43]?.getD undef = _ := (Array.getD_eq_getD_getElem? ..).symm.trans d10
        have d8 : a.tmps.getD 41 undef = .bool true := dep 8 _ _ (by kernel_rfl) rfl rfl
        have e8 : a.tmps[41]?.getD undef = _ := (Array.getD_eq_getD_getElem? ..).symm.trans d8
        rw [if_pos (wanted_some rfl rfl rfl (by rw [hsz]; exact of_decide_eq_true rfl) d8)]
        have hc := (hb.cell (p := ⟨g3, 0, none⟩) hg3.out).trans hc0.out
        refine grow_same (v := .int .u8 (x0 : Int)) ?_ rfl
        clear old dep ho hsz hb
        go_simp
      | 12, ho =>
        obtain rfl := Option.some.inj ho
        have d11 : a.tmps.getD 44 undef = .int .u8 (x0 : Int) := dep 11 _ _ (by kernel_rfl) rfl rfl
        have e11 : a.tmps[44]?.getD undef = _ := (Array.getD_eq_getD_getElem? ..).symm.trans d11
        have d8 : a.tmps.getD 41 undef = .bool true := dep 8 _ _ (by kernel_rfl) rfl rfl
        have e8 : a.tmps[41]?.getD undef = _ := (Array.getD_eq_getD_getElem? ..).symm.trans d8
        rw [if_pos (wanted_some rfl rfl rfl (by rw [hsz]; exact of_decide_eq_true rfl) d8)]
        have hw := B0.out
        refine grow_same (v := .int .i64 (x0 : Int)) ?_ rfl
        clear old dep ho hsz hb
        go_simp
        try (rw [IntKind.wrap_i64]; omega)
      | 13, ho =>
        obtain rfl := Option.some.inj ho
        have d12 : a.tmps.getD 45 undef = .int .i64 (x0 : Int) := dep 12 _ _ (by kernel_rfl) rfl rfl
        have e12 : a.tmps[45]?.getD undef = _ := (Array.getD_eq_getD_getElem? ..).symm.trans d12
        have d8 : a.tmps.getD 41 undef = .bool true := dep 8 _ _ (by kernel_rfl) rfl rfl
        have e8 : a.tmps[41]?.getD undef = _ := (Array.getD_eq_getD_getElem? ..).symm.trans d8
        rw [if_pos (wanted_some rfl rfl rfl (by rw [hsz]; exact of_decide_eq_true rfl) d8)]
        have hw := B0.out
        refine grow_same (v := .int .i64 ((x0 : Int) * 256)) ?_ rfl
        clear old dep ho hsz hb
        go_simp
        try (rw [IntKind.wrap_i64]; omega)
      | 14, ho =>
        obtain rfl := Option.some.inj ho
        have o4 : a.tmps.getD 4 undef = _ := old 4 (by kernel_rfl)
        have d8 : a.tmps.getD 41 undef = .bool true := dep 8 _ _ (by kernel_rfl) rfl rfl
        have e8 : a.tmps[41]?.getD undef = _ := (Array.getD_eq_getD_getElem? ..).symm.trans d8
        rw [if_pos (wanted_some rfl rfl rfl (by rw [hsz]; exact of_decide_eq_true rfl) d8)]
        refine grow_same (v := .slice (some ⟨g3, 0, none⟩) N c3) ?_ rfl
        clear old dep ho hsz hb
        go_simp
      | 15, ho =>
        obtain rfl := Option.some.inj ho
        have d14 : a.tmps.getD 47 undef = .slice (some ⟨g3, 0, none⟩) N c3 := dep 14 _ _ (by kernel_rfl) rfl rfl
        have e14 : a.tmps[47]?.getD undef = _ := (Array.getD_eq_getD_getElem? ..).symm.trans d14
        have d8 : a.tmps.getD 41 undef = .bool true := dep 8 _ _ (by kernel_rfl) rfl rfl
        have e8 : a.tmps[41]?.getD undef = _ := (Array.getD_eq_getD_getElem? ..).symm.trans d8
        rw [if_pos (wanted_some rfl rfl rfl (by rw [hsz]; exact of_decide_eq_true rfl) d8)]
        have hw := EL.out
        refine grow_same (v := .pointer (some ⟨g3, 1, none⟩)) ?_ rfl
        clear old dep ho hsz hb
        go_simp
        intro hz
        exact absurd hz (by omega)
      | 16, ho =>
        obtain rfl := Option.some.inj ho
        have d15 : a.tmps.getD 48 undef = .pointer (some ⟨g3, 1, none⟩) := dep 15 _ _ (by kernel_rfl) rfl rfl
        have e15 : a.tmps[48]?.getD undef = _ := (Array.getD_eq_getD_getElem? ..).symm.trans d15
        have d8 : a.tmps.getD 41 undef = .bool true := dep 8 _ _ (by kernel_rfl) rfl rfl
        have e8 : a.tmps[41]?.getD undef = _ := (Array.getD_eq_getD_getElem? ..).symm.trans d8
        rw [if_pos (wanted_some rfl rfl rfl (by rw [hsz]; exact of_decide_eq_true rfl) d8)]
        have hc := (hb.cell (p := ⟨g3, 1, none⟩) hg3.out).trans hc1.out
        refine grow_same (v := .int .u8 (x1 : Int)) ?_ rfl
        clear old dep ho hsz hb
        go_simp
      | 17, ho =>
        obtain rfl := Option.some.inj ho
        have d16 : a.tmps.getD 49 undef = .int .u8 (x1 : Int) := dep 16 _ _ (by kernel_rfl) rfl rfl
        have e16 : a.tmps[49]?.getD undef = _ := (Array.getD_eq_getD_getElem? ..).symm.trans d16
        have d8 : a.tmps.getD 41 undef = .bool true := dep 8 _ _ (by kernel_rfl) rfl rfl
        have e8 : a.tmps[41]?.getD undef = _ := (Array.getD_eq_getD_getElem? ..).symm.trans d8
        rw [if_pos (wanted_some rfl rfl rfl (by rw [hsz]; exact of_decide_eq_true rfl) d8)]
        have hw := B1.out
        refine grow_same (v := .int .i64 (x1 : Int)) ?_ rfl
        clear old dep ho hsz hb
        go_simp
        try (rw [IntKind.wrap_i64]; omega)
      | 18, ho =>
        obtain rfl := Option.some.inj ho
        have d13 : a.tmps.getD 46 undef = .int .i64 ((x0 : Int) * 256) := dep 13 _ _ (by kernel_rfl) rfl rfl
        have e13 : a.tmps[46]?.getD undef = _ := (Array.getD_eq_getD_getElem? ..).symm.trans d13
        have d17 : a.tmps.getD 50 undef = .int .i64 (x1 : Int) := dep 17 _ _ (by kernel_rfl) rfl rfl
        have e17 : a.tmps[50]?.getD undef = _ := (Array.getD_eq_getD_getElem? ..).symm.trans d17
        have d8 : a.tmps.getD 41 undef = .bool true := dep 8 _ _ (by kernel_rfl) rfl rfl
        have e8 : a.tmps[41]?.getD undef = _ := (Array.getD_eq_getD_getElem? ..).symm.trans d8
        rw [if_pos (wanted_some rfl rfl rfl (by rw [hsz]; exact of_decide_eq_true rfl) d8)]
        have hw := HOR.out
        refine grow_same (v := .int .i64 ((x0 * 256 + x1 : Nat) : Int)) ?_ rfl
        clear old dep ho hsz hb
        go_simp
      | 19, ho =>
        obtain rfl := Option.some.inj ho
        have o5 : a.tmps.getD 5 undef = _ := old 5 (by kernel_rfl)
        have d8 : a.tmps.getD 41 undef = .bool true := dep 8 _ _ (by kernel_rfl) rfl rfl
        have e8 : a.tmps[41]?.getD undef = _ := (Array.getD_eq_getD_getElem? ..).symm.trans d8
        rw [if_pos (wanted_some rfl rfl rfl (by rw [hsz]; exact of_decide_eq_true rfl) d8)]
        refine grow_same (v := .int .i64 (11 + (r.b.size : Int) + (r.a.size : Int) + (r.i.size : Int) + 8 * (r.ds.length : Int))) ?_ rfl
        clear old dep ho hsz hb
        go_simp
      | 20, ho =>
        obtain rfl := Option.some.inj ho
        have d19 : a.tmps.getD 52 undef = .int .i64 (11 + (r.b.size : Int) + (r.a.size : Int) + (r.i.size : Int) + 8 * (r.ds.length : Int)) := dep 19 _ _ (by kernel_rfl) rfl rfl
        have e19 : a.tmps[52]?.getD undef = _ := (Array.getD_eq_getD_getElem? ..).symm.trans d19
        have d8 : a.tmps.getD 41 undef = .bool true := dep 8 _ _ (by kernel_rfl) rfl rfl
        have e8 : a.tmps[41]?.getD undef = _ := (Array.getD_eq_getD_getElem? ..).symm.trans d8
        rw [if_pos (wanted_some rfl rfl rfl (by rw [hsz]; exact of_decide_eq_true rfl) d8)]
        have hw := E3.out
        refine grow_same (v := .int .i64 (11 + (r.b.size : Int) + (r.a.size : Int) + (r.i.size : Int) + 8 * (r.ds.length : Int) - 2)) ?_ rfl
        clear old dep ho hsz hb
        go_simp
        try (rw [IntKind.wrap_i64]; omega)
      | 21, ho =>
        obtain rfl := Option.some.inj ho
        have d18 : a.tmps.getD 51 undef = .int .i64 ((x0 * 256 + x1 : Nat) : Int) := dep 18 _ _ (by kernel_rfl) rfl rfl
        have e18 : a.tmps[51]?.getD undef = _ := (Array.getD_eq_getD_getElem? ..).symm.trans d18
        have d20 : a.tmps.getD 53 undef = .int .i64 (11 + (r.b.size : Int) + (r.a.size : Int) + (r.i.size : Int) + 8 * (r.ds.length : Int) - 2) := dep 20 _ _ (by kernel_rfl) rfl rfl
        have e20 : a.tmps[53]?.getD undef = _ := (Array.getD_eq_getD_getElem? ..).symm.trans d20
        have d8 : a.tmps.getD 41 undef = .bool true := dep 8 _ _ (by kernel_rfl) rfl rfl
        have e8 : a.tmps[41]?.getD undef = _ := (Array.getD_eq_getD_getElem? ..).symm.trans d8
        rw [if_pos (wanted_some rfl rfl rfl (by rw [hsz]; exact of_decide_eq_true rfl) d8)]
        have hw := E4.out
        refine grow_same (v := .bool true) ?_ rfl
        clear old dep ho hsz hb
        go_simp
        try omega
      | 22, ho =>
        obtain rfl := Option.some.inj ho
        have d8 : a.tmps.getD 41 undef = .bool true := dep 8 _ _ (by kernel_rfl) rfl rfl
        have e8 : a.tmps[41]?.getD undef = _ := (Array.getD_eq_getD_getElem? ..).symm.trans d8
        have d21 : a.tmps.getD 54 undef = .bool true := dep 21 _ _ (by kernel_rfl) rfl rfl
        have e21 : a.tmps[54]?.getD undef = _ := (Array.getD_eq_getD_getElem? ..).symm.trans d21
        rw [if_pos (wanted_none rfl)]
        refine grow_same (v := .bool true) ?_ rfl
        clear old dep ho hsz hb
        go_simp
      | 23, ho =>
        obtain rfl := Option.some.inj ho
        have d22 : a.tmps.getD 55 undef = .bool true := dep 22 _ _ (by kernel_rfl) rfl rfl
        have e22 : a.tmps[55]?.getD undef = _ := (Array.getD_eq_getD_getElem? ..).symm.trans d22
        rw [if_pos (wanted_none rfl)]
        refine grow_same (v := .bool true) ?_ rfl
        clear old dep ho hsz hb
        go_simp
      | i + 24, ho => exact absurd ho (by simp)
    · intro a w4 hb hsz hdf fin keep
      obtain ⟨tm, df⟩ := a
      have hx := frame_of [33, 34, 35, 36, 37, 38, 39, 40, 41, 42, 43, 44, 45, 46, 47, 48, 49, 50, 51, 52, 53, 54, 55, 2] (by kernel_rfl) hsz keep
      dsimp only at hdf hx
      simp only [List.foldl_cons, List.foldl_nil] at hx
      subst hdf
      clear hsz keep
      have kn : tm.getD 33 undef = .slice (some ⟨g3, 0, none⟩) N c3 := fin 0 _ _ rfl rfl
      rw [kn] at hx
      clear kn
      have kn : tm.getD 34 undef = .int .i64 (N : Int) := fin 1 _ _ rfl rfl
      rw [kn] at hx
      clear kn
      have kn : tm.getD 35 undef = .int .i64 (11 + (r.b.size : Int) + (r.a.size : Int) + (r.i.size : Int) + 8 * (r.ds.length : Int)) := fin 2 _ _ rfl rfl
      rw [kn] at hx
      clear kn
      have kn : tm.getD 36 undef = .bool true := fin 3 _ _ rfl rfl
      rw [kn] at hx
      clear kn
      have kn : tm.getD 37 undef = .bool true := fin 4 _ _ rfl rfl
      rw [kn] at hx
      clear kn
      have kn : tm.getD 38 undef = .int .i64 (11 + (r.b.size : Int) + (r.a.size : Int) + (r.i.size : Int) + 8 * (r.ds.length : Int)) := fin 5 _ _ rfl rfl
      rw [kn] at hx
      clear kn
      have kn : tm.getD 39 undef = .bool true := fin 6 _ _ rfl rfl
      rw [kn] at hx
      clear kn
      have kn : tm.getD 40 undef = .bool true := fin 7 _ _ rfl rfl
      rw [kn] at hx
      clear kn
      have kn : tm.getD 41 undef = .bool true := fin 8 _ _ rfl rfl
      rw [kn] at hx
      clear kn
      have kn : tm.getD 42 undef = .slice (some ⟨g3, 0, none⟩) N c3 := fin 9 _ _ rfl rfl
      rw [kn] at hx
      clear kn
      have kn : tm.getD 43 undef = .pointer (some ⟨g3, 0, none⟩) := fin 10 _ _ rfl rfl
      rw [kn] at hx
      clear kn
      have kn : tm.getD 44 undef = .int .u8 (x0 : Int) := fin 11 _ _ rfl rfl
      rw [kn] at hx
      clear kn
      have kn : tm.getD 45 undef = .int .i64 (x0 : Int) := fin 12 _ _ rfl rfl
      rw [kn] at hx
      clear kn
      have kn : tm.getD 46 undef = .int .i64 ((x0 : Int) * 256) := fin 13 _ _ rfl rfl
      rw [kn] at hx
      clear kn
      have kn : tm.getD 47 undef = .slice (some ⟨g3, 0, none⟩) N c3 := fin 14 _ _ rfl rfl
      rw [kn] at hx
      clear kn
      have kn : tm.getD 48 undef = .pointer (some ⟨g3, 1, none⟩) := fin 15 _ _ rfl rfl
      rw [kn] at hx
      clear kn
      have kn : tm.getD 49 undef = .int .u8 (x1 : Int) := fin 16 _ _ rfl rfl
      rw [kn] at hx
      clear kn
      have kn : tm.getD 50 undef = .int .i64 (x1 : Int) := fin 17 _ _ rfl rfl
      rw [kn] at hx
      clear kn
      have kn : tm.getD 51 undef = .int .i64 ((x0 * 256 + x1 : Nat) : Int) := fin 18 _ _ rfl rfl
      rw [kn] at hx
      clear kn
      have kn : tm.getD 52 undef = .int .i64 (11 + (r.b.size : Int) + (r.a.size : Int) + (r.i.size : Int) + 8 * (r.ds.length : Int)) := fin 19 _ _ rfl rfl
      rw [kn] at hx
      clear kn
      have kn : tm.getD 53 undef = .int .i64 (11 + (r.b.size : Int) + (r.a.size : Int) + (r.i.size : Int) + 8 * (r.ds.length : Int) - 2) := fin 20 _ _ rfl rfl
      rw [kn] at hx
      clear kn
      have kn : tm.getD 54 undef = .bool true := fin 21 _ _ rfl rfl
      rw [kn] at hx
      clear kn
      have kn : tm.getD 55 undef = .bool true := fin 22 _ _ rfl rfl
      rw [kn] at hx
      clear kn
      have kn : tm.getD 2 undef = .bool true := fin 23 _ _ rfl rfl
      rw [kn] at hx
      clear kn
      clear fin
      simp only [List.setIfInBounds_toArray, List.set_cons_succ, List.set_cons_zero] at hx
      subst hx
      have H4 := H3.below hb
      clear hb
      go_wp2
      go_ret
      exact ⟨rfl, H4.bel⟩
end Go.Proofs.Ytofnldmbokdkbaa
