/-
  The reference's Bytes.
-/
import Derived.Test.YthkocbfioegcnaaSw14
namespace Go.Proofs.Ythkocbfioegcnaa
open Go.RowKit Crc
set_option maxRecDepth 20000
set_option linter.unusedSimpArgs false
set_option linter.unusedVariables false

set_option maxHeartbeats 8000000 in
theorem bytes_any {w : World} {v : Value} {l : List Rw} (hv : Rws w v l) (hl : l.length < 65536) (hs : ∀ x ∈ l, x.k.size ≤ 1000 ∧ x.v.size ≤ 1000) : Calls Try.prog 16 #[v] w fun e w' => ∃ u, e = .returned u ∧ Mine w' w.heap.size u (portL l) ∧ Below w.heap.size w w' := by
  suffices hsuf : ∀ PP : Value → World → Prop, (∀ u W', Mine W' w.heap.size u (portL l) → Below w.heap.size w W' → PP u W') → Calls Try.prog 16 #[v] w fun e W' => ∃ u, e = .returned u ∧ PP u W' from hsuf _ (fun _ _ h1 h2 => ⟨h1, h2⟩)
  intro PP hPP
  have HPP := hide hPP
  obtain ⟨A, c, rfl⟩ := hv.form
  have HV := hide hv
  have HS := hide hs
  have HLL := hide hl
  have hl1 : (l.length : Int) < 65536 := by omega
  clear hv hs hPP
  go_enter Try.func16, Try.ntmps16
  go_wp2
  have HM0 := hide (show Mine (w.alloc (.cells #[.int .u8 84, .int .u8 78, .int .u8 77, .int .u8 49, .int .u8 ((l.length : Int) / 256), .int .u8 ((l.length : Int) % 256)] 5)) w.heap.size (.slice (some ⟨w.heap.size, 0, none⟩) 6 6) (headL ++ be 2 l.length ++ rowsL (l.take 0)) from by
    have h := pg_mine_new (w := w) (b := w.heap.size) (g := w.heap.size) (n := 6) (headL ++ be 2 l.length) (Nat.le_refl _) rfl rfl (by omega)
    rw [List.take_zero, rowsL_nil, List.append_nil]
    have e : blk8 (headL ++ be 2 l.length) = #[.int .u8 84, .int .u8 78, .int .u8 77, .int .u8 49, .int .u8 ((l.length : Int) / 256), .int .u8 ((l.length : Int) % 256)] := by
      have e1 : ((UInt8.ofNat (l.length / 256)).toNat : Int) = (l.length : Int) / 256 := by rw [UInt8.toNat_ofNat']; omega
      have e2 : ((UInt8.ofNat l.length).toNat : Int) = (l.length : Int) % 256 := by rw [UInt8.toNat_ofNat']; omega
      rw [← e1, ← e2]
      rfl
    rw [e] at h
    exact h)
  have HB0 := hide ((Below.refl w.heap.size w).alloc (Nat.le_refl _) (.cells #[.int .u8 84, .int .u8 78, .int .u8 77, .int .u8 49, .int .u8 ((l.length : Int) / 256), .int .u8 ((l.length : Int) % 256)] 5))
  clear hl
  generalize (w.alloc (.cells #[.int .u8 84, .int .u8 78, .int .u8 77, .int .u8 49, .int .u8 ((l.length : Int) / 256), .int .u8 ((l.length : Int) % 256)] 5)) = w1 at *
  go_loopw [3, 4] (fun u i wr => ∃ (j : Nat) (A3 : Option Addr) (n3 c3 : Nat), j ≤ l.length ∧ i = .int .i64 j ∧ u = .slice A3 n3 c3 ∧ Hid (Below w.heap.size w wr) ∧ Hid (Mine wr w.heap.size (.slice A3 n3 c3) (headL ++ be 2 l.length ++ rowsL (l.take j)))) (fun _ i _ => l.length - (intOf i).toNat)
  case atStart => exact ⟨0, _, _, _, by omega, rfl, rfl, HB0, HM0⟩
  case round =>
    obtain ⟨j, A3, n3, c3, hj, rfl, rfl, HBEL, HM⟩ := hrel
    by_cases hlt : j < l.length
    · obtain ⟨x, hc⟩ : ∃ x, l[j]? = some x := ⟨_, List.getElem?_eq_getElem hlt⟩
      obtain ⟨b, o, rfl, i0, i1, i2⟩ := HV.out.at_ HBEL.out hc
      have HC := hide hc
      have q0 : (0 : Int) ≤ (j : Int) := by omega
      have q1 : (j : Int) < (l.length : Int) := by omega
      have HLT := hide hlt
      obtain ⟨L0, hL0⟩ : ∃ L, headL ++ be 2 l.length ++ rowsL (l.take j) = L := ⟨_, rfl⟩
      have HTK : Hid (headL ++ be 2 l.length ++ rowsL (l.take (j + 1)) = L0 ++ [UInt8.ofNat (x.t % 256).toNat, UInt8.ofNat x.k.size] ++ x.k.data.toList ++ [UInt8.ofNat x.v.size] ++ x.v.data.toList) := hide (by
        rw [List.take_add_one, hc]
        show _ ++ rowsL (l.take j ++ [x]) = _
        rw [rowsL_snoc, ← List.append_assoc, hL0]
        simp [rowL])
      obtain ⟨hxk, hxv⟩ := HS.out x (List.mem_of_getElem? hc)
      have HLEN : Hid (L0.length ≤ 200000000) := hide (by
        have h1 : (rowsL (l.take j)).length ≤ (l.take j).length * (3 + 2000) := rowsL_le (fun y hy => by have := HS.out y (List.mem_of_mem_take hy); omega)
        rw [← hL0, List.length_append, List.length_append, be_length]
        rw [List.length_take] at h1
        have : min j l.length * 2003 ≤ 65536 * 2003 := Nat.mul_le_mul_right _ (by have := HLL.out; omega)
        simp only [headL, List.length_cons, List.length_nil]
        omega)
      rw [hL0] at HM
      have HB : Hid (b < wr.heap.size) := hide (by
        obtain ⟨A9, c9, e9, h9⟩ := HV.out
        obtain ⟨b9, o9, rfl, h3, _⟩ := h9 (by omega)
        injection e9 with e9 _ _
        injection e9 with e9
        injection e9 with e9 _ _
        subst e9
        exact Nat.lt_of_lt_of_le h3 HBEL.out.size)
      have hw1 : IntKind.u8.wrap x.t = ((UInt8.ofNat (x.t % 256).toNat).toNat : Int) := by
        rw [UInt8.toNat_ofNat']
        show x.t % 256 = _
        omega
      have hw2 : IntKind.u8.wrap (x.k.size : Int) = ((UInt8.ofNat x.k.size).toNat : Int) := by
        rw [UInt8.toNat_ofNat']
        show (x.k.size : Int) % 256 = _
        omega
      have hw3 : IntKind.u8.wrap (x.v.size : Int) = ((UInt8.ofNat x.v.size).toNat : Int) := by
        rw [UInt8.toNat_ofNat']
        show (x.v.size : Int) % 256 = _
        omega
      have HXK := hide hxk
      have HXV := hide hxv
      clear hlt hc hL0 hxk hxv
      go_upto_region 5 with (fail)
      refine region_last 15 36 [Say.is (.slice A3 n3 c3), Say.is (.slice (some ⟨b, o, none⟩) l.length c), Say.is (.int .i64 (j : Int)), Say.is (.pointer (some ⟨b, o + j * 3, none⟩)), Say.is (.pointer (some ⟨b, o + j * 3, none⟩)), Say.is (.int .i64 x.t), Say.is (.int .u8 ((UInt8.ofNat (x.t % 256).toNat).toNat : Int)), Say.is (.slice (some ⟨b, o, none⟩) l.length c), Say.is (.int .i64 (j : Int)), Say.is (.pointer (some ⟨b, o + j * 3, none⟩)), Say.is (.pointer (some ⟨b, o + j * 3 + 1, none⟩)), Say.is (.string x.k), Say.is (.int .i64 (x.k.size : Int)), Say.is (.int .u8 ((UInt8.ofNat x.k.size).toNat : Int)), Say.rd 2 ([UInt8.ofNat (x.t % 256).toNat, UInt8.ofNat x.k.size])] (fun v w' => Mine w' w.heap.size v (L0 ++ [UInt8.ofNat (x.t % 256).toNat, UInt8.ofNat x.k.size]) ∧ Below w.heap.size w w') rfl rfl rfl (by kernel_rfl) (by kernel_rfl) (by kernel_rfl) (by kernel_rfl) (by kernel_rfl) ?_ ?_ ?_ ?_
      · intro i o hik ho a w2 hb hsz old dep
        match i, ho with
        | 0, ho =>
          obtain rfl := Option.some.inj ho
          have o3 : a.tmps.getD 3 undef = _ := old 3 (by kernel_rfl)
          rw [if_pos (wanted_none rfl)]
          refine grow_same (v := .slice A3 n3 c3) ?_ rfl
          clear old dep ho hsz hb
          go_simp
        | 1, ho =>
          obtain rfl := Option.some.inj ho
          have o0 : a.tmps.getD 0 undef = _ := old 0 (by kernel_rfl)
          rw [if_pos (wanted_none rfl)]
          refine grow_same (v := .slice (some ⟨b, o, none⟩) l.length c) ?_ rfl
          clear old dep ho hsz hb
          go_simp
        | 2, ho =>
          obtain rfl := Option.some.inj ho
          have o4 : a.tmps.getD 4 undef = _ := old 4 (by kernel_rfl)
          rw [if_pos (wanted_none rfl)]
          refine grow_same (v := .int .i64 (j : Int)) ?_ rfl
          clear old dep ho hsz hb
          go_simp
        | 3, ho =>
          obtain rfl := Option.some.inj ho
          have d1 : a.tmps.getD 22 undef = .slice (some ⟨b, o, none⟩) l.length c := dep 1 _ _ (by kernel_rfl) rfl rfl
          have e1 : a.tmps[22]?.getD undef = _ := (Array.getD_eq_getD_getElem? ..).symm.trans d1
          have d2 : a.tmps.getD 23 undef = .int .i64 (j : Int) := dep 2 _ _ (by kernel_rfl) rfl rfl
          have e2 : a.tmps[23]?.getD undef = _ := (Array.getD_eq_getD_getElem? ..).symm.trans d2
          rw [if_pos (wanted_none rfl)]
          refine grow_same (v := .pointer (some ⟨b, o + j * 3, none⟩)) ?_ rfl
          clear old dep ho hsz hb
          go_simp
        | 4, ho =>
          obtain rfl := Option.some.inj ho
          have d3 : a.tmps.getD 24 undef = .pointer (some ⟨b, o + j * 3, none⟩) := dep 3 _ _ (by kernel_rfl) rfl rfl
          have e3 : a.tmps[24]?.getD undef = _ := (Array.getD_eq_getD_getElem? ..).symm.trans d3
          rw [if_pos (wanted_none rfl)]
          refine grow_same (v := .pointer (some ⟨b, o + j * 3, none⟩)) ?_ rfl
          clear old dep ho hsz hb
          go_simp
        | 5, ho =>
          obtain rfl := Option.some.inj ho
          have d4 : a.tmps.getD 25 undef = .pointer (some ⟨b, o + j * 3, none⟩) := dep 4 _ _ (by kernel_rfl) rfl rfl
          have e4 : a.tmps[25]?.getD undef = _ := (Array.getD_eq_getD_getElem? ..).symm.trans d4
          rw [if_pos (wanted_none rfl)]
          have g0 := (hb.cell (p := ⟨b, o + j * 3, none⟩) HB.out).trans i0
          refine grow_same (v := .int .i64 x.t) ?_ rfl
          clear old dep ho hsz hb
          go_simp
        | 6, ho =>
          obtain rfl := Option.some.inj ho
          have d5 : a.tmps.getD 26 undef = .int .i64 x.t := dep 5 _ _ (by kernel_rfl) rfl rfl
          have e5 : a.tmps[26]?.getD undef = _ := (Array.getD_eq_getD_getElem? ..).symm.trans d5
          rw [if_pos (wanted_none rfl)]
          refine grow_same (v := .int .u8 ((UInt8.ofNat (x.t % 256).toNat).toNat : Int)) ?_ rfl
          clear old dep ho hsz hb
          go_simp
        | 7, ho =>
          obtain rfl := Option.some.inj ho
          have o0 : a.tmps.getD 0 undef = _ := old 0 (by kernel_rfl)
          rw [if_pos (wanted_none rfl)]
          refine grow_same (v := .slice (some ⟨b, o, none⟩) l.length c) ?_ rfl
          clear old dep ho hsz hb
          go_simp
        | 8, ho =>
          obtain rfl := Option.some.inj ho
          have o4 : a.tmps.getD 4 undef = _ := old 4 (by kernel_rfl)
          rw [if_pos (wanted_none rfl)]
          refine grow_same (v := .int .i64 (j : Int)) ?_ rfl
          clear old dep ho hsz hb
          go_simp
        | 9, ho =>
          obtain rfl := Option.some.inj ho
          have d7 : a.tmps.getD 28 undef = .slice (some ⟨b, o, none⟩) l.length c := dep 7 _ _ (by kernel_rfl) rfl rfl
          have e7 : a.tmps[28]?.getD undef = _ := (Array.getD_eq_getD_getElem? ..).symm.trans d7
          have d8 : a.tmps.getD 29 undef = .int .i64 (j : Int) := dep 8 _ _ (by kernel_rfl) rfl rfl
          have e8 : a.tmps[29]?.getD undef = _ := (Array.getD_eq_getD_getElem? ..).symm.trans d8
          rw [if_pos (wanted_none rfl)]
          refine grow_same (v := .pointer (some ⟨b, o + j * 3, none⟩)) ?_ rfl
          clear old dep ho hsz hb
          go_simp
        | 10, ho =>
          obtain rfl := Option.some.inj ho
          have d9 : a.tmps.getD 30 undef = .pointer (some ⟨b, o + j * 3, none⟩) := dep 9 _ _ (by kernel_rfl) rfl rfl
          have e9 : a.tmps[30]?.getD undef = _ := (Array.getD_eq_getD_getElem? ..).symm.trans d9
          rw [if_pos (wanted_none rfl)]
          refine grow_same (v := .pointer (some ⟨b, o + j * 3 + 1, none⟩)) ?_ rfl
          clear old dep ho hsz hb
          go_simp
        | 11, ho =>
          obtain rfl := Option.some.inj ho
          have d10 : a.tmps.getD 31 undef = .pointer (some ⟨b, o + j * 3 + 1, none⟩) := dep 10 _ _ (by kernel_rfl) rfl rfl
          have e10 : a.tmps[31]?.getD undef = _ := (Array.getD_eq_getD_getElem? ..).symm.trans d10
          rw [if_pos (wanted_none rfl)]
          have g1 := (hb.cell (p := ⟨b, o + j * 3 + 1, none⟩) HB.out).trans i1
          refine grow_same (v := .string x.k) ?_ rfl
          clear old dep ho hsz hb
          go_simp
        | 12, ho =>
          obtain rfl := Option.some.inj ho
          have d11 : a.tmps.getD 32 undef = .string x.k := dep 11 _ _ (by kernel_rfl) rfl rfl
          have e11 : a.tmps[32]?.getD undef = _ := (Array.getD_eq_getD_getElem? ..).symm.trans d11
          rw [if_pos (wanted_none rfl)]
          refine grow_same (v := .int .i64 (x.k.size : Int)) ?_ rfl
          clear old dep ho hsz hb
          go_simp
        | 13, ho =>
          obtain rfl := Option.some.inj ho
          have d12 : a.tmps.getD 33 undef = .int .i64 (x.k.size : Int) := dep 12 _ _ (by kernel_rfl) rfl rfl
          have e12 : a.tmps[33]?.getD undef = _ := (Array.getD_eq_getD_getElem? ..).symm.trans d12
          rw [if_pos (wanted_none rfl)]
          refine grow_same (v := .int .u8 ((UInt8.ofNat x.k.size).toNat : Int)) ?_ rfl
          clear old dep ho hsz hb
          go_simp
        | 14, ho =>
          obtain rfl := Option.some.inj ho
          have d6 : a.tmps.getD 27 undef = .int .u8 ((UInt8.ofNat (x.t % 256).toNat).toNat : Int) := dep 6 _ _ (by kernel_rfl) rfl rfl
          have e6 : a.tmps[27]?.getD undef = _ := (Array.getD_eq_getD_getElem? ..).symm.trans d6
          have d13 : a.tmps.getD 34 undef = .int .u8 ((UInt8.ofNat x.k.size).toNat : Int) := dep 13 _ _ (by kernel_rfl) rfl rfl
          have e13 : a.tmps[34]?.getD undef = _ := (Array.getD_eq_getD_getElem? ..).symm.trans d13
          rw [if_pos (wanted_none rfl)]
          refine grow_yields (v := .slice (some ⟨w2.heap.size, 0, none⟩) 2 2) (w' := w2.alloc (.cells #[.int .u8 ((UInt8.ofNat (x.t % 256).toNat).toNat : Int), .int .u8 ((UInt8.ofNat x.k.size).toNat : Int)] 5)) ?_ ⟨_, _, rfl, Rd.new_ (xs := u8s [UInt8.ofNat (x.t % 256).toNat, UInt8.ofNat x.k.size]) w2 (n := 2) (c := 2) _ _ (0, 0) rfl rfl (Nat.le_refl _) rfl⟩ ((Below.refl _ _).alloc (Nat.le_refl _) _)
          clear old dep ho hsz hb
          go_simp
        | i + 15, ho => exact absurd hik (by omega)
      · intro a w2 hb hsz old dep
        have d0 : a.tmps.getD 21 undef = .slice A3 n3 c3 := dep 0 _ _ (by kernel_rfl) rfl rfl
        have e0 : a.tmps[21]?.getD undef = _ := (Array.getD_eq_getD_getElem? ..).symm.trans d0
        obtain ⟨A14, C14, d14, r14⟩ : ∃ A c, a.tmps.getD 35 undef = .slice A 2 c ∧ Rd w2 (.slice A 2 c) (u8s ([UInt8.ofNat (x.t % 256).toNat, UInt8.ofNat x.k.size])) := dep 14 _ _ (by kernel_rfl) rfl rfl
        have e14 : a.tmps[35]?.getD undef = _ := (Array.getD_eq_getD_getElem? ..).symm.trans d14
        have hm2 := HM.out.below hb
        obtain ⟨v', w4, hrun, h1, h2⟩ := mine_app hm2 r14 (by have := HLEN.out; show _ + 2 ≤ _; omega) (Nat.le_trans HBEL.out.size hb.size) 26
        unfold Oper.wp
        rw [exec_append_run (.tmp 21) (.tmp 35) 26 rfl d0 d14 hrun]
        exact ⟨v', rfl, h1, hm2.bel (HBEL.out.trans (hb.mono HBEL.out.size)) (Nat.le_trans HBEL.out.size hb.size) h2⟩
      · intro i o hki ho
        have hin : i < 17 := (Array.getElem?_eq_some_iff.1 ho).1
        obtain rfl : i = 16 := by omega
        obtain rfl := Option.some.inj ho
        refine ⟨rfl, fun a w => ?_⟩
        rw [Array.getD_eq_getD_getElem?]
        clear hki ho hin
        go_simp
      · intro a w5 v hR hsz hdf hk fin keep
        obtain ⟨tm, df⟩ := a
        have hx := frame_of [21, 22, 23, 24, 25, 26, 27, 28, 29, 30, 31, 32, 33, 34, 35, 36, 3] (by kernel_rfl) hsz keep
        dsimp only at hdf hx hk
        simp only [List.foldl_cons, List.foldl_nil] at hx
        subst hdf
        clear hsz keep
        rw [hk] at hx
        clear hk
        generalize tm.getD 21 undef = y21 at hx
        generalize tm.getD 22 undef = y22 at hx
        generalize tm.getD 23 undef = y23 at hx
        generalize tm.getD 24 undef = y24 at hx
        generalize tm.getD 25 undef = y25 at hx
        generalize tm.getD 26 undef = y26 at hx
        generalize tm.getD 27 undef = y27 at hx
        generalize tm.getD 28 undef = y28 at hx
        generalize tm.getD 29 undef = y29 at hx
        generalize tm.getD 30 undef = y30 at hx
        generalize tm.getD 31 undef = y31 at hx
        generalize tm.getD 32 undef = y32 at hx
        generalize tm.getD 33 undef = y33 at hx
        generalize tm.getD 34 undef = y34 at hx
        generalize tm.getD 35 undef = y35 at hx
        have kn : tm.getD 3 undef = v := fin 16 _ _ (by decide) rfl rfl
        rw [kn] at hx
        clear kn
        clear fin
        simp only [List.setIfInBounds_toArray, List.set_cons_succ, List.set_cons_zero] at hx
        subst hx
        have HM5 := hide hR.1
        have HB5 := hide hR.2
        clear hR i0 i1 i2
        obtain ⟨v6, w6, hrun6, hm6, hg6⟩ := mine_text (s := x.k) HM5.out (by have := HLEN.out; have := HXK.out; rw [List.length_append]; show _ + 2 + _ ≤ _; omega) HB5.out.size 26
        have HR6 := hide hrun6
        have HB6 := hide (HM5.out.bel HB5.out HB5.out.size hg6)
        obtain ⟨v7, w7, hrun7, hm7, hg7⟩ := mine_app (hm6.below ((Below.refl w6.heap.size w6).alloc (Nat.le_refl _) (.cells #[.int .u8 ((UInt8.ofNat x.v.size).toNat : Int)] 5))) (Rd.new_ (xs := u8s [UInt8.ofNat x.v.size]) w6 (g := w6.heap.size) (n := 1) (c := 1) #[.int .u8 ((UInt8.ofNat x.v.size).toNat : Int)] 5 (0, 0) rfl rfl (Nat.le_refl _) rfl) (by have := HLEN.out; have := HXK.out; rw [List.length_append, List.length_append, size_list]; show _ + 2 + _ + 1 ≤ _; omega) (Nat.le_trans HB6.out.size (by simp)) 26
        have HR7 := hide hrun7
        have HB7 := hide ((hm6.below ((Below.refl w6.heap.size w6).alloc (Nat.le_refl _) (.cells #[.int .u8 ((UInt8.ofNat x.v.size).toNat : Int)] 5))).bel (HB6.out.alloc HB6.out.size _) (Nat.le_trans HB6.out.size (by simp)) hg7)
        obtain ⟨v8, w8, hrun8, hm8, hg8⟩ := mine_text (s := x.v) hm7 (by have := HLEN.out; have := HXK.out; have := HXV.out; rw [List.length_append, List.length_append, List.length_append, size_list]; show _ + 2 + _ + 1 + _ ≤ _; omega) HB7.out.size 26
        have HR8 := hide hrun8
        have HB8 := hide (hm7.bel HB7.out HB7.out.size hg8)
        obtain ⟨A8, c8, e8⟩ := hm8.form
        generalize List.length _ = n8 at e8
        subst e8
        have HM8 := hide hm8
        have k1 : w5.cell? ⟨b, o + j * 3 + 1, none⟩ = some (.string x.k) := by
          obtain ⟨b9, o9, e9, _, h, _⟩ := HV.out.at_ HB5.out HC.out
          injection e9 with e9
          injection e9 with e9 e10 _
          subst e9 e10
          exact h
        have k2 : w6.cell? ⟨b, o + j * 3 + 2, none⟩ = some (.string x.v) := by
          obtain ⟨b9, o9, e9, _, _, h⟩ := HV.out.at_ HB6.out HC.out
          injection e9 with e9
          injection e9 with e9 e10 _
          subst e9 e10
          exact h
        have k3 : w7.cell? ⟨b, o + j * 3 + 2, none⟩ = some (.string x.v) := by
          obtain ⟨b9, o9, e9, _, _, h⟩ := HV.out.at_ HB7.out HC.out
          injection e9 with e9
          injection e9 with e9 e10 _
          subst e9 e10
          exact h
        clear hrun6 hm6 hg6 hrun7 hm7 hg7 hrun8 hm8 hg8
        go_wp2_with (first
          | (at_builtin; refine wpList_app2 (by first | rfl | simp [Region.wanted, yielded]) (.tmp 37) (.tmp 42) 26 9 rfl rfl rfl HR6.out ?_)
          | (at_builtin; refine wpList_app2 (by first | rfl | simp [Region.wanted, yielded]) (.tmp 44) (.tmp 52) 26 26 rfl rfl rfl HR7.out ?_)
          | (at_builtin; refine wpList_app2 (by first | rfl | simp [Region.wanted, yielded]) (.tmp 54) (.tmp 59) 26 9 rfl rfl rfl HR8.out ?_))
        go_roundw
        case rel => exact ⟨j + 1, A8, n8, c8, by have := HLT.out; omega, by go_num, rfl, HB8, hide (by rw [HTK.out]; exact HM8.out)⟩
        case measure => simp [intOf]; have := HLT.out; omega
    · have HM1 : Hid (Mine wr w.heap.size (.slice A3 n3 c3) (bodyL l)) := hide (by have h := HM.out; rw [List.take_of_length_le (by omega)] at h; exact h)
      have q1 : ¬ (j : Int) < (l.length : Int) := by omega
      go_upto_region 9 with (fail)
      have HBN : Hid ((bodyL l).length ≤ 200000000) := hide (by
        have h1 : (rowsL l).length ≤ l.length * (3 + 2000) := rowsL_le (fun y hy => by have := HS.out y hy; omega)
        have := HLL.out
        rw [bodyL_length]
        have : l.length * 2003 ≤ 65536 * 2003 := Nat.mul_le_mul_right _ (by omega)
        omega)
      have HPORT : Hid (bodyL l ++ be 4 (crc (bodyL l)).toNat = portL l) := hide rfl
      have HCRC := hide (rcrc_any (.slice A3 n3 c3) (bodyL l) wr (by have := HBN.out; unfold maxLen; omega) HM1.out.rd)
      generalize crc (bodyL l) = cr at HPORT HCRC
      have hcr := cr.isLt
      have b3 := byte_shift cr.toNat 3
      have b2 := byte_shift cr.toNat 2
      have b1 := byte_shift cr.toNat 1
      have b0 := byte_shift cr.toNat 0
      have hcd : w32 cr = (cr.toNat : Int) := rfl
      rw [hcd] at HCRC
      clear q1 hl1 hj hlt hcd
      generalize cr.toNat = z at *
      have z1 : (z : Int) < 4294967296 := by omega
      obtain ⟨v7, w7, hrun7, hm7, hg7⟩ := mine_app (m := be 4 z) (HM1.out.below ((Below.refl wr.heap.size wr).alloc (Nat.le_refl _) (.cells (blk8 (be 4 z)) 5))) (Rd.new_ (xs := u8s (be 4 z)) wr (g := wr.heap.size) (n := 4) (c := 4) (blk8 (be 4 z)) 5 (0, 0) rfl (by rw [blk8_size, be_length]) (Nat.le_refl _) (by simp [blk8])) (by have := HBN.out; rw [be_length]; omega) (Nat.le_trans HBEL.out.size (by simp)) 26
      rw [HPORT.out] at hm7
      have HM7 := hide hm7
      have HB7 := hide ((HM1.out.below ((Below.refl wr.heap.size wr).alloc (Nat.le_refl _) (.cells (blk8 (be 4 z)) 5))).bel (HBEL.out.alloc HBEL.out.size _) (Nat.le_trans HBEL.out.size (by simp)) hg7)
      have HR7 := hide (show (Builtin.append_ #[26, 26] 26 #[.slice A3 n3 c3, .slice (some ⟨wr.heap.size, 0, none⟩) 4 4]).run Try.prog (wr.alloc (.cells #[.int .u8 ((z : Int) / 16777216 % 256), .int .u8 ((z : Int) / 65536 % 256), .int .u8 ((z : Int) / 256 % 256), .int .u8 ((z : Int) % 256)] 5)) = .ok v7 w7 from by
        have e : blk8 (be 4 z) = #[.int .u8 ((z : Int) / 16777216 % 256), .int .u8 ((z : Int) / 65536 % 256), .int .u8 ((z : Int) / 256 % 256), .int .u8 ((z : Int) % 256)] := by
          have e0 : ((UInt8.ofNat z).toNat : Int) = (z : Int) % 256 := by rw [UInt8.toNat_ofNat']; omega
          have e1 : ((UInt8.ofNat (z / 256)).toNat : Int) = (z : Int) / 256 % 256 := by rw [UInt8.toNat_ofNat']; omega
          have e2 : ((UInt8.ofNat (z / 256 / 256)).toNat : Int) = (z : Int) / 65536 % 256 := by rw [UInt8.toNat_ofNat']; omega
          have e3 : ((UInt8.ofNat (z / 256 / 256 / 256)).toNat : Int) = (z : Int) / 16777216 % 256 := by rw [UInt8.toNat_ofNat']; omega
          rw [← e0, ← e1, ← e2, ← e3]
          rfl
        rw [← e]
        exact hrun7)
      clear hrun7 hm7 hg7 b0 b1 b2 b3 hcr z1
      go_wp2_with (first
        | (go_at_call 26; (with_reducible refine HCRC.out.mono ?_); rintro e w4 ⟨rfl, rfl⟩)
        | (at_builtin; refine wpList_app2 (by first | rfl | simp [Region.wanted, yielded]) (.tmp 63) (.tmp 75) 26 26 rfl rfl rfl HR7.out ?_))
      go_ret
      exact ⟨_, rfl, HPP.out _ _ HM7.out HB7.out⟩
end Go.Proofs.Ythkocbfioegcnaa
