/-
  PoolKeeps' walk.
-/
import Derived.Test.YtkdcnddagebjpaaRowS
namespace Go.Proofs.Ytkdcnddagebjpaa
open Go.RowKit
set_option maxRecDepth 20000
set_option linter.unusedSimpArgs false
set_option linter.unusedVariables false

set_option maxHeartbeats 8000000 in
theorem keeps_no (t : Int) (k u : ByteArray) (n : Int) (Av : Option Addr) (m cv : Nat) (w : World) (hk : k.size ≤ maxLen) (hu : u.size ≤ maxLen) (hr : rowOkB t k u = false) :
    Calls Try.prog 5 #[.agg #[.int .i64 t, .string k, .string u], .int .i64 n, .slice Av m cv] w fun e w' => e = .returned (.bool true) ∧ Below w.heap.size w w' := by
  have hfit := fit_any (w.alloc (.cells #[.int .i64 t, .string k, .string u] 34))
  have hbx := Blk.new_ w #[.int .i64 t, .string k, .string u] 34 rfl
  have hbb := (Below.refl w.heap.size w).alloc (Nat.le_refl _) (.cells #[.int .i64 t, .string k, .string u] 34)
  have BX := hide hbx
  have BB := hide hbb
  clear hbx hbb
  have hrt := fun W => row_right_any t k u W
  rw [hr] at hrt
  clear hr
  unfold maxLen at hk hu
  have hk' : (k.size : Int) ≤ 9223372036854775807 := by omega
  have hu' : (u.size : Int) ≤ 9223372036854775807 := by omega
  clear hk hu
  by_cases hov : 9223372036854775807 < (k.size : Int) + (u.size : Int)
  · have hsz : decide ((100 : Int) < wrap64 ((k.size : Int) + (u.size : Int))) = false := decide_eq_false (by unfold wrap64; omega)
    go_enter Try.func5, Try.ntmps5
    go_wp2_with (first
      | (go_at_call 8; ((with_reducible refine hfit.mono ?_); rintro e w0 ⟨rfl, hb0⟩; have B0 := hide hb0; obtain ⟨x0, x1, x2⟩ := (BX.out.below hb0).three; clear hb0 hfit))
      | (go_at_call 22; ((with_reducible refine (hrt _).mono ?_); rintro e w1 ⟨rfl, hb1⟩; have B1 := hide hb1; clear hb1)))
    go_ret
    exact ⟨rfl, (BB.out.trans (B0.out.mono BB.out.size)).trans (B1.out.mono (BB.out.trans (B0.out.mono BB.out.size)).size)⟩
  have hov' : (k.size : Int) + (u.size : Int) ≤ 9223372036854775807 := by omega
  by_cases hbig : (100 : Int) < (k.size : Int) + (u.size : Int)
  · have hsz : decide ((100 : Int) < (k.size : Int) + (u.size : Int)) = true := decide_eq_true hbig
    go_enter Try.func5, Try.ntmps5
    go_wp2_with (go_at_call 8; ((with_reducible refine hfit.mono ?_); rintro e w0 ⟨rfl, hb0⟩; have B0 := hide hb0; obtain ⟨x0, x1, x2⟩ := (BX.out.below hb0).three; clear hb0 hfit))
    go_ret
    exact ⟨rfl, BB.out.trans (B0.out.mono BB.out.size)⟩
  · have hsz : decide ((100 : Int) < (k.size : Int) + (u.size : Int)) = false := decide_eq_false hbig
    go_enter Try.func5, Try.ntmps5
    go_wp2_with (first
      | (go_at_call 8; ((with_reducible refine hfit.mono ?_); rintro e w0 ⟨rfl, hb0⟩; have B0 := hide hb0; obtain ⟨x0, x1, x2⟩ := (BX.out.below hb0).three; clear hb0 hfit))
      | (go_at_call 22; ((with_reducible refine (hrt _).mono ?_); rintro e w1 ⟨rfl, hb1⟩; have B1 := hide hb1; clear hb1)))
    go_ret
    exact ⟨rfl, (BB.out.trans (B0.out.mono BB.out.size)).trans (B1.out.mono (BB.out.trans (B0.out.mono BB.out.size)).size)⟩
set_option maxHeartbeats 8000000 in
theorem keeps_long (t : Int) (k u : ByteArray) (n : Int) (Av : Option Addr) (m cv : Nat) (w : World) (hr : rowOkB t k u = true) (h60 : 60 < m) :
    Calls Try.prog 5 #[.agg #[.int .i64 t, .string k, .string u], .int .i64 n, .slice Av m cv] w fun e w' => e = .returned (.bool true) ∧ Below w.heap.size w w' := by
  have hfit := fit_any (w.alloc (.cells #[.int .i64 t, .string k, .string u] 34))
  have hbx := Blk.new_ w #[.int .i64 t, .string k, .string u] 34 rfl
  have hbb := (Below.refl w.heap.size w).alloc (Nat.le_refl _) (.cells #[.int .i64 t, .string k, .string u] 34)
  have BX := hide hbx
  have BB := hide hbb
  clear hbx hbb
  have hrt := fun W => row_right_any t k u W
  rw [hr] at hrt
  obtain ⟨_, _, hk15, hu21⟩ := rightB_iff.1 hr
  have hsz : decide ((100 : Int) < (k.size : Int) + (u.size : Int)) = false := decide_eq_false (by omega)
  have h60' : (60 : Int) < (m : Int) := by omega
  have hsz2 : ¬ (100 : Int) < (k.size : Int) + (u.size : Int) := by omega
  go_enter Try.func5, Try.ntmps5
  go_wp2_with (first
    | (go_at_call 8; ((with_reducible refine hfit.mono ?_); rintro e w0 ⟨rfl, hb0⟩; have B0 := hide hb0; obtain ⟨x0, x1, x2⟩ := (BX.out.below hb0).three; clear hb0 hfit))
    | (go_at_call 22; ((with_reducible refine (hrt _).mono ?_); rintro e w1 ⟨rfl, hb1⟩; have B1 := hide hb1; clear hb1)))
  all_goals first
    | (go_ret; exact ⟨rfl, (BB.out.trans (B0.out.mono BB.out.size)).trans (B1.out.mono (BB.out.trans (B0.out.mono BB.out.size)).size)⟩)
    | (go_ret; exact ⟨rfl, BB.out.trans (B0.out.mono BB.out.size)⟩)
set_option maxHeartbeats 8000000 in
theorem keeps_yes (t : Int) (k u : ByteArray) (n : Int) (Av : Option Addr) (cv : Nat) (cs : List Int) (w : World) (hv : Row w w.heap.size (.slice Av cs.length cv) (cs.map fun x => .int .i64 x)) (hr : rowOkB t k u = true) (h60 : ¬ 60 < cs.length) :
    Calls Try.prog 5 #[.agg #[.int .i64 t, .string k, .string u], .int .i64 n, .slice Av cs.length cv] w fun e w' => e = .returned (.bool true) ∧ Below w.heap.size w w' := by
  have HV := hide hv
  have hfit := fit_any (w.alloc (.cells #[.int .i64 t, .string k, .string u] 34))
  have hbx := Blk.new_ w #[.int .i64 t, .string k, .string u] 34 rfl
  have hbb := (Below.refl w.heap.size w).alloc (Nat.le_refl _) (.cells #[.int .i64 t, .string k, .string u] 34)
  have BX := hide hbx
  have BB := hide hbb
  clear hbx hbb hv
  have hrt := fun W => row_right_any t k u W
  rw [hr] at hrt
  obtain ⟨_, _, hk15, hu21⟩ := rightB_iff.1 hr
  have hsz : decide ((100 : Int) < (k.size : Int) + (u.size : Int)) = false := decide_eq_false (by omega)
  have h60' : ¬ (60 : Int) < (cs.length : Int) := by omega
  have hsz2 : ¬ (100 : Int) < (k.size : Int) + (u.size : Int) := by omega
  have h60b : decide ((60 : Int) < (cs.length : Int)) = false := decide_eq_false h60'
  obtain ⟨L, hL⟩ : ∃ L, rowL t k u = L := ⟨_, rfl⟩
  have HR := hide hr
  have HL := hide hL
  have HL40 := hide (show L.length = 40 by rw [← hL]; exact rowL_length hr)
  have HOK := hide (show okB ⟨L.toArray⟩ = true by rw [← hL]; exact rowL_ok hr)
  have H60 := hide h60
  clear hr hL h60
  obtain ⟨p, hp6, hpm, hp3, hp4⟩ := mod_page n
  have HP6 := hide hp6
  go_enter Try.func5, Try.ntmps5
  go_wp2_with (first
    | (go_at_call 8; ((with_reducible refine hfit.mono ?_); rintro e w0 ⟨rfl, hb0⟩; have B0 := hide hb0; obtain ⟨x0, x1, x2⟩ := (BX.out.below hb0).three; have BX0 := hide (BX.out.below hb0); clear hb0 hfit))
    | (go_at_call 22; ((with_reducible refine (hrt _).mono ?_); rintro e wr0 ⟨rfl, hb1⟩; have B1 := hide hb1; have hnew := disk_new1 wr0; clear hb1 hrt))
    | (go_at_call 9; ((with_reducible refine hnew.mono ?_); rintro e w1 ⟨dg, d, rfl, hm1, hd1, hdn, hb1⟩; have B2 := hide hb1; have hln := new_lane0 hm1 hd1 hdn (by omega); clear hb1 hm1 hd1 hdn hnew))
    | (go_at_call 10; ((with_reducible refine hln.mono ?_); rintro e w2 ⟨g, d2, rfl, _, hv2, ho2⟩; have O2 := hide ho2; have hpn := new_pool_any hv2; clear hv2 ho2 hln))
    | (go_at_call 11; ((with_reducible refine hpn.mono ?_); rintro e w3 ⟨q, all0, rfl, hl3, hp3, hb3⟩; have HL3 := hide hl3; have HLM := hide (lim_lt (gen := 1) (all := all0) (by omega) (by rw [hl3]; omega)); have O3 := hide (O2.out.trans (Out.of_below hb3)); have hgt := po_get hp3 (by omega) HP6.out; clear hp3 hb3 hpn hl3))
    | (go_at_call 12; ((with_reducible refine hgt.mono ?_); rintro e w4 ⟨bp, zp, P4, D4, s4, d4, rfl, hz4, hb4, hn4, hG4, _, hp4, ho4⟩; have O4 := hide (O3.out.trans ho4); have HB4 := hide hb4; have HN4 := hide hn4; have V4 := hide (got_new hG4 hp4 HP6.out hz4 hb4 hn4); have T4 := hide hp4; have BX4 := hide (Out.blk O4.out (BX0.out.below (B1.out.trans (B2.out.mono B1.out.size))) (Nat.lt_of_lt_of_le BX0.out.lt B1.out.size)); obtain ⟨x0, x1, x2⟩ := BX4.out.three; have hen := row_str HR.out HL.out w4; clear hb4 hn4 hG4 hp4 ho4 hgt))
    | (go_at_call 24; ((with_reducible refine hen.mono ?_); rintro e w5 ⟨A5, c5, rfl, hcv, hb5⟩; have O5 := hide (O4.out.trans (Out.of_below hb5)); have hst := po_set3 (T4.out.below hb5) hz4 HB4.out _ HOK.out; clear hb5 hen))
    | (go_at_call 23; ((with_reducible refine hst.mono ?_); rintro e w6 ⟨rfl, hp6', ho6⟩; have O6 := hide (O5.out.trans ho6); have hap := po_upd0 hp6' (by rw [HL3.out]; omega); clear hp6' ho6 hst hcv))
    | (go_at_call 13; ((with_reducible refine hap.mono ?_); rintro e w7 ⟨rfl, hp7, ho7⟩; have O7 := hide (O6.out.trans ho7); have htc := po_touched hp7 hz4 HB4.out HN4.out (lim_pos 1 all0) (lim_app 1 all0 _) HLM.out; clear hp7 ho7 hap))
    | (go_at_call 14; ((with_reducible refine htc.mono ?_); rintro e w8 ⟨rfl, ⟨P8, hp8, hb8, hn8, hg8, _⟩, ho8⟩; have O8 := hide (O7.out.trans ho8); have T8 := hide hp8; have V8 := hide (show (cont P8 D4 p).val = (pgY (lim 1 all0) 0 p 3 ⟨L.toArray⟩).val by rw [hp8.cont_at hz4 hb8 hn8, hg8]; exact val_one V4.out); clear hp8 hb8 hn8 hg8 ho8 htc)))
  clear x0 x1 x2
  generalize lim 1 all0 = pl at *
  go_loopw [80] (fun i wr => ∃ (j s kk : Nat) (dj : Ds) (P : Po) (D : Nat → Pg), j ≤ cs.length ∧ i = .int .i64 j ∧ kk ≤ 1010 + 310 * j ∧ Hid (PoolT wr (fun k => k < wr0.heap.size) dg dj g q 0 kk 1 (all0 ++ [updR 0]) s P D none) ∧ Hid ((cont P D p).val = (pgY pl 0 p 3 ⟨L.toArray⟩).val) ∧ Hid (Out (fun k => k < wr0.heap.size) w1 wr)) (fun i _ => cs.length - (intOf i).toNat)
  case atStart => exact ⟨0, s4, 0 + 700 + 310, d4, P8, D4, by omega, rfl, by omega, T8, V8, O8⟩
  case round =>
    obtain ⟨j, s, kk, dj, P, D, hj, rfl, hk, hP, hV, hO⟩ := hrel
    have hbw : Below wr0.heap.size wr0 wr := B2.out.trans ((hO.out.below B2.out.size (fun k hk => hk)).mono (Nat.le_refl _))
    have HBW := hide hbw
    by_cases hlt : j < cs.length
    · have hbl : Below w.heap.size w wr := BB.out.trans ((B0.out.trans ((B1.out.trans (hbw.mono B1.out.size)).mono B0.out.size)).mono BB.out.size)
      obtain ⟨b, o, cap, he, hcell⟩ := int_at HV.out hbl hlt
      injection he with e1 e2 e3
      subst e1
      subst e3
      obtain ⟨p2, hq6, hqm, hq3, hq4⟩ := mod_page cs[j]
      have hj1 : (j : Int) < (cs.length : Int) := by omega
      have h6 := H60.out
      have hgt := po_get hP.out (by omega) hq6
      have HK := hide hk
      clear hbl hq6 hbw h6 hk
      go_wp2_with (go_at_call 12; ((with_reducible refine hgt.mono ?_); rintro e w9 ⟨b9, z9, P9, D9, s9, d9, rfl, hz9, hb9, hn9, hG9, _, hp9, ho9⟩; have O9 := hide (hO.out.trans ho9); have T9 := hide hp9; have V9 := hide ((hG9.cont p HP6.out).trans hV.out); clear hb9 hn9 hG9 hp9 ho9 hgt))
      go_roundw
      case rel => exact ⟨j + 1, s9, kk + 310, d9, P9, D9, by omega, by go_num, by have := HK.out; omega, T9, V9, O9⟩
      case measure => simp [intOf]; omega
    · obtain rfl : j = cs.length := by omega
      have h6 := H60.out
      have hgt := po_get hP.out (by omega) HP6.out
      clear hbw h6 hk
      go_upto_region 22 with (go_at_call 12; ((with_reducible refine hgt.mono ?_); rintro e w7 ⟨b7, z7, P7, D7, s7, d7, rfl, hz7, hb7, hn7, hG7, _, hp7, ho7⟩; have O7 := hide (hO.out.trans ho7); have hv7 := (hG7.cont p HP6.out).trans hV.out; rw [hp7.cont_at hz7 hb7 hn7] at hv7; have H7 := hide (hp7.at_ hz7 hb7).1; have hpv := pg_of_val hv7; have MK7 := hide hpv.1; have S3 := hide (hpv.2.2.2 3 (by omega)); have S2 := hide (hpv.2.2.2 2 (by omega)); have BX7 := hide (Out.blk O7.out (BX0.out.below (B1.out.trans (B2.out.mono B1.out.size))) (Nat.lt_of_lt_of_le BX0.out.lt B1.out.size)); clear hb7 hn7 hG7 hp7 ho7 hv7 hpv hgt))
      have e3 : (pgY pl 0 p 3 ⟨L.toArray⟩).s 3 = ⟨L.toArray⟩ := rfl
      have e2 : (pgY pl 0 p 3 ⟨L.toArray⟩).s 2 = ⟨#[]⟩ := rfl
      have em : (pgY pl 0 p 3 ⟨L.toArray⟩).mark = pl := rfl
      rw [e3] at S3
      rw [e2] at S2
      rw [em] at MK7
      clear e3 e2 em
      refine region_grows [Say.is (.int .i64 0), Say.is (.bool true), Say.is (.bool true), Say.is (.pointer (some ⟨b7, 0, none⟩)), Say.is (.string ⟨L.toArray⟩), Say.is (.agg #[.int .i64 t, .string k, .string u]), Say.rd 40 (L), Say.is (.string ⟨(L).toArray⟩), Say.is (.bool true), Say.is (.bool true), Say.is (.bool true), Say.is (.pointer (some ⟨b7, 0, none⟩)), Say.is (.pointer (some ⟨b7, 0, none⟩)), Say.is (.pointer (some ⟨b7, 0, none⟩)), Say.is (.int .u64 (pl : Int)), Say.is (.int .u64 (pl : Int)), Say.is (.bool true), Say.is (.bool true), Say.is (.bool true), Say.is (.pointer (some ⟨b7, 0, none⟩)), Say.is (.string ⟨#[]⟩), Say.is (.bool true), Say.is (.bool true), Say.is (.bool true)] (by kernel_rfl) (by kernel_rfl) (by kernel_rfl) (by kernel_rfl) ?_ ?_
      · intro i o ho a w2 hb hsz old dep
        match i, ho with
        | 0, ho =>
          obtain rfl := Option.some.inj ho
          have o12 : a.tmps.getD 12 undef = _ := old 12 (by kernel_rfl)
          rw [if_pos (wanted_none rfl)]
          refine grow_same (v := .int .i64 0) ?_ rfl
          clear old dep ho hsz hb
          go_simp
        | 1, ho =>
          obtain rfl := Option.some.inj ho
          have d0 : a.tmps.getD 102 undef = .int .i64 0 := dep 0 _ _ (by kernel_rfl) rfl rfl
          have e0 : a.tmps[102]?.getD undef = _ := (Array.getD_eq_getD_getElem? ..).symm.trans d0
          rw [if_pos (wanted_none rfl)]
          refine grow_same (v := .bool true) ?_ rfl
          clear old dep ho hsz hb
          go_simp
        | 2, ho =>
          obtain rfl := Option.some.inj ho
          have d1 : a.tmps.getD 103 undef = .bool true := dep 1 _ _ (by kernel_rfl) rfl rfl
          have e1 : a.tmps[103]?.getD undef = _ := (Array.getD_eq_getD_getElem? ..).symm.trans d1
          rw [if_pos (wanted_none rfl)]
          refine grow_same (v := .bool true) ?_ rfl
          clear old dep ho hsz hb
          go_simp
        | 3, ho =>
          obtain rfl := Option.some.inj ho
          have o11 : a.tmps.getD 11 undef = _ := old 11 (by kernel_rfl)
          have d2 : a.tmps.getD 104 undef = .bool true := dep 2 _ _ (by kernel_rfl) rfl rfl
          have e2 : a.tmps[104]?.getD undef = _ := (Array.getD_eq_getD_getElem? ..).symm.trans d2
          rw [if_pos (wanted_some rfl rfl rfl (by rw [hsz]; exact of_decide_eq_true rfl) d2)]
          refine grow_same (v := .pointer (some ⟨b7, 0, none⟩)) ?_ rfl
          clear old dep ho hsz hb
          go_simp
        | 4, ho =>
          obtain rfl := Option.some.inj ho
          have d3 : a.tmps.getD 105 undef = .pointer (some ⟨b7, 0, none⟩) := dep 3 _ _ (by kernel_rfl) rfl rfl
          have e3 : a.tmps[105]?.getD undef = _ := (Array.getD_eq_getD_getElem? ..).symm.trans d3
          have d2 : a.tmps.getD 104 undef = .bool true := dep 2 _ _ (by kernel_rfl) rfl rfl
          have e2 : a.tmps[104]?.getD undef = _ := (Array.getD_eq_getD_getElem? ..).symm.trans d2
          rw [if_pos (wanted_some rfl rfl rfl (by rw [hsz]; exact of_decide_eq_true rfl) d2)]
          refine grow_enters (f := 25) (args := #[.pointer (some ⟨b7, 0, none⟩), .int .i64 3]) ?_ (slot_at (PgB.below H7.out hb) 3 (by omega) S3.out)
          clear old dep ho hsz hb
          go_simp
        | 5, ho =>
          obtain rfl := Option.some.inj ho
          have o3 : a.tmps.getD 3 undef = _ := old 3 (by kernel_rfl)
          have d2 : a.tmps.getD 104 undef = .bool true := dep 2 _ _ (by kernel_rfl) rfl rfl
          have e2 : a.tmps[104]?.getD undef = _ := (Array.getD_eq_getD_getElem? ..).symm.trans d2
          rw [if_pos (wanted_some rfl rfl rfl (by rw [hsz]; exact of_decide_eq_true rfl) d2)]
          obtain ⟨hx0, hx1, hx2⟩ := (Blk.below BX7.out hb).three
          refine grow_same (v := .agg #[.int .i64 t, .string k, .string u]) ?_ rfl
          clear old dep ho hsz hb
          go_simp
        | 6, ho =>
          obtain rfl := Option.some.inj ho
          have d5 : a.tmps.getD 107 undef = .agg #[.int .i64 t, .string k, .string u] := dep 5 _ _ (by kernel_rfl) rfl rfl
          have e5 : a.tmps[107]?.getD undef = _ := (Array.getD_eq_getD_getElem? ..).symm.trans d5
          have d2 : a.tmps.getD 104 undef = .bool true := dep 2 _ _ (by kernel_rfl) rfl rfl
          have e2 : a.tmps[104]?.getD undef = _ := (Array.getD_eq_getD_getElem? ..).symm.trans d2
          rw [if_pos (wanted_some rfl rfl rfl (by rw [hsz]; exact of_decide_eq_true rfl) d2)]
          refine grow_enters (f := 24) (args := #[.agg #[.int .i64 t, .string k, .string u]]) ?_ (row_enc_told HR.out HL.out _)
          clear old dep ho hsz hb
          go_simp
        | 7, ho =>
          obtain rfl := Option.some.inj ho
          obtain ⟨A6, C6, d6, r6⟩ : ∃ A c, a.tmps.getD 108 undef = .slice A 40 c ∧ Rd w2 (.slice A 40 c) (u8s (L)) := dep 6 _ _ (by kernel_rfl) rfl rfl
          have e6 : a.tmps[108]?.getD undef = _ := (Array.getD_eq_getD_getElem? ..).symm.trans d6
          have d2 : a.tmps.getD 104 undef = .bool true := dep 2 _ _ (by kernel_rfl) rfl rfl
          have e2 : a.tmps[104]?.getD undef = _ := (Array.getD_eq_getD_getElem? ..).symm.trans d2
          rw [if_pos (wanted_some rfl rfl rfl (by rw [hsz]; exact of_decide_eq_true rfl) d2)]
          have hcv := conv_rdn HL40.out r6
          refine grow_same (v := .string ⟨(L).toArray⟩) ?_ rfl
          clear old dep ho hsz hb r6
          go_simp
        | 8, ho =>
          obtain rfl := Option.some.inj ho
          have d4 : a.tmps.getD 106 undef = .string ⟨L.toArray⟩ := dep 4 _ _ (by kernel_rfl) rfl rfl
          have e4 : a.tmps[106]?.getD undef = _ := (Array.getD_eq_getD_getElem? ..).symm.trans d4
          have d7 : a.tmps.getD 109 undef = .string ⟨(L).toArray⟩ := dep 7 _ _ (by kernel_rfl) rfl rfl
          have e7 : a.tmps[109]?.getD undef = _ := (Array.getD_eq_getD_getElem? ..).symm.trans d7
          have d2 : a.tmps.getD 104 undef = .bool true := dep 2 _ _ (by kernel_rfl) rfl rfl
          have e2 : a.tmps[104]?.getD undef = _ := (Array.getD_eq_getD_getElem? ..).symm.trans d2
          rw [if_pos (wanted_some rfl rfl rfl (by rw [hsz]; exact of_decide_eq_true rfl) d2)]
          refine grow_same (v := .bool true) ?_ rfl
          clear old dep ho hsz hb
          go_simp
        | 9, ho =>
          obtain rfl := Option.some.inj ho
          have d2 : a.tmps.getD 104 undef = .bool true := dep 2 _ _ (by kernel_rfl) rfl rfl
          have e2 : a.tmps[104]?.getD undef = _ := (Array.getD_eq_getD_getElem? ..).symm.trans d2
          have d8 : a.tmps.getD 110 undef = .bool true := dep 8 _ _ (by kernel_rfl) rfl rfl
          have e8 : a.tmps[110]?.getD undef = _ := (Array.getD_eq_getD_getElem? ..).symm.trans d8
          rw [if_pos (wanted_none rfl)]
          refine grow_same (v := .bool true) ?_ rfl
          clear old dep ho hsz hb
          go_simp
        | 10, ho =>
          obtain rfl := Option.some.inj ho
          have d9 : a.tmps.getD 111 undef = .bool true := dep 9 _ _ (by kernel_rfl) rfl rfl
          have e9 : a.tmps[111]?.getD undef = _ := (Array.getD_eq_getD_getElem? ..).symm.trans d9
          rw [if_pos (wanted_none rfl)]
          refine grow_same (v := .bool true) ?_ rfl
          clear old dep ho hsz hb
          go_simp
        | 11, ho =>
          obtain rfl := Option.some.inj ho
          have o11 : a.tmps.getD 11 undef = _ := old 11 (by kernel_rfl)
          have d10 : a.tmps.getD 112 undef = .bool true := dep 10 _ _ (by kernel_rfl) rfl rfl
          have e10 : a.tmps[112]?.getD undef = _ := (Array.getD_eq_getD_getElem? ..).symm.trans d10
          rw [if_pos (wanted_some rfl rfl rfl (by rw [hsz]; exact of_decide_eq_true rfl) d10)]
          refine grow_same (v := .pointer (some ⟨b7, 0, none⟩)) ?_ rfl
          clear old dep ho hsz hb
          go_simp
        | 12, ho =>
          obtain rfl := Option.some.inj ho
          have d11 : a.tmps.getD 113 undef = .pointer (some ⟨b7, 0, none⟩) := dep 11 _ _ (by kernel_rfl) rfl rfl
          have e11 : a.tmps[113]?.getD undef = _ := (Array.getD_eq_getD_getElem? ..).symm.trans d11
          have d10 : a.tmps.getD 112 undef = .bool true := dep 10 _ _ (by kernel_rfl) rfl rfl
          have e10 : a.tmps[112]?.getD undef = _ := (Array.getD_eq_getD_getElem? ..).symm.trans d10
          rw [if_pos (wanted_some rfl rfl rfl (by rw [hsz]; exact of_decide_eq_true rfl) d10)]
          refine grow_same (v := .pointer (some ⟨b7, 0, none⟩)) ?_ rfl
          clear old dep ho hsz hb
          go_simp
        | 13, ho =>
          obtain rfl := Option.some.inj ho
          have d12 : a.tmps.getD 114 undef = .pointer (some ⟨b7, 0, none⟩) := dep 12 _ _ (by kernel_rfl) rfl rfl
          have e12 : a.tmps[114]?.getD undef = _ := (Array.getD_eq_getD_getElem? ..).symm.trans d12
          have d10 : a.tmps.getD 112 undef = .bool true := dep 10 _ _ (by kernel_rfl) rfl rfl
          have e10 : a.tmps[112]?.getD undef = _ := (Array.getD_eq_getD_getElem? ..).symm.trans d10
          rw [if_pos (wanted_some rfl rfl rfl (by rw [hsz]; exact of_decide_eq_true rfl) d10)]
          refine grow_same (v := .pointer (some ⟨b7, 0, none⟩)) ?_ rfl
          clear old dep ho hsz hb
          go_simp
        | 14, ho =>
          obtain rfl := Option.some.inj ho
          have d13 : a.tmps.getD 115 undef = .pointer (some ⟨b7, 0, none⟩) := dep 13 _ _ (by kernel_rfl) rfl rfl
          have e13 : a.tmps[115]?.getD undef = _ := (Array.getD_eq_getD_getElem? ..).symm.trans d13
          have d10 : a.tmps.getD 112 undef = .bool true := dep 10 _ _ (by kernel_rfl) rfl rfl
          have e10 : a.tmps[112]?.getD undef = _ := (Array.getD_eq_getD_getElem? ..).symm.trans d10
          rw [if_pos (wanted_some rfl rfl rfl (by rw [hsz]; exact of_decide_eq_true rfl) d10)]
          have hmk := PgB.markC (PgB.below H7.out hb)
          rw [MK7.out] at hmk
          refine grow_same (v := .int .u64 (pl : Int)) ?_ rfl
          clear old dep ho hsz hb
          go_simp
        | 15, ho =>
          obtain rfl := Option.some.inj ho
          have o13 : a.tmps.getD 13 undef = _ := old 13 (by kernel_rfl)
          have d10 : a.tmps.getD 112 undef = .bool true := dep 10 _ _ (by kernel_rfl) rfl rfl
          have e10 : a.tmps[112]?.getD undef = _ := (Array.getD_eq_getD_getElem? ..).symm.trans d10
          rw [if_pos (wanted_some rfl rfl rfl (by rw [hsz]; exact of_decide_eq_true rfl) d10)]
          refine grow_same (v := .int .u64 (pl : Int)) ?_ rfl
          clear old dep ho hsz hb
          go_simp
        | 16, ho =>
          obtain rfl := Option.some.inj ho
          have d14 : a.tmps.getD 116 undef = .int .u64 (pl : Int) := dep 14 _ _ (by kernel_rfl) rfl rfl
          have e14 : a.tmps[116]?.getD undef = _ := (Array.getD_eq_getD_getElem? ..).symm.trans d14
          have d15 : a.tmps.getD 117 undef = .int .u64 (pl : Int) := dep 15 _ _ (by kernel_rfl) rfl rfl
          have e15 : a.tmps[117]?.getD undef = _ := (Array.getD_eq_getD_getElem? ..).symm.trans d15
          have d10 : a.tmps.getD 112 undef = .bool true := dep 10 _ _ (by kernel_rfl) rfl rfl
          have e10 : a.tmps[112]?.getD undef = _ := (Array.getD_eq_getD_getElem? ..).symm.trans d10
          rw [if_pos (wanted_some rfl rfl rfl (by rw [hsz]; exact of_decide_eq_true rfl) d10)]
          refine grow_same (v := .bool true) ?_ rfl
          clear old dep ho hsz hb
          go_simp
        | 17, ho =>
          obtain rfl := Option.some.inj ho
          have d10 : a.tmps.getD 112 undef = .bool true := dep 10 _ _ (by kernel_rfl) rfl rfl
          have e10 : a.tmps[112]?.getD undef = _ := (Array.getD_eq_getD_getElem? ..).symm.trans d10
          have d16 : a.tmps.getD 118 undef = .bool true := dep 16 _ _ (by kernel_rfl) rfl rfl
          have e16 : a.tmps[118]?.getD undef = _ := (Array.getD_eq_getD_getElem? ..).symm.trans d16
          rw [if_pos (wanted_none rfl)]
          refine grow_same (v := .bool true) ?_ rfl
          clear old dep ho hsz hb
          go_simp
        | 18, ho =>
          obtain rfl := Option.some.inj ho
          have d17 : a.tmps.getD 119 undef = .bool true := dep 17 _ _ (by kernel_rfl) rfl rfl
          have e17 : a.tmps[119]?.getD undef = _ := (Array.getD_eq_getD_getElem? ..).symm.trans d17
          rw [if_pos (wanted_none rfl)]
          refine grow_same (v := .bool true) ?_ rfl
          clear old dep ho hsz hb
          go_simp
        | 19, ho =>
          obtain rfl := Option.some.inj ho
          have o11 : a.tmps.getD 11 undef = _ := old 11 (by kernel_rfl)
          have d18 : a.tmps.getD 120 undef = .bool true := dep 18 _ _ (by kernel_rfl) rfl rfl
          have e18 : a.tmps[120]?.getD undef = _ := (Array.getD_eq_getD_getElem? ..).symm.trans d18
          rw [if_pos (wanted_some rfl rfl rfl (by rw [hsz]; exact of_decide_eq_true rfl) d18)]
          refine grow_same (v := .pointer (some ⟨b7, 0, none⟩)) ?_ rfl
          clear old dep ho hsz hb
          go_simp
        | 20, ho =>
          obtain rfl := Option.some.inj ho
          have d19 : a.tmps.getD 121 undef = .pointer (some ⟨b7, 0, none⟩) := dep 19 _ _ (by kernel_rfl) rfl rfl
          have e19 : a.tmps[121]?.getD undef = _ := (Array.getD_eq_getD_getElem? ..).symm.trans d19
          have d18 : a.tmps.getD 120 undef = .bool true := dep 18 _ _ (by kernel_rfl) rfl rfl
          have e18 : a.tmps[120]?.getD undef = _ := (Array.getD_eq_getD_getElem? ..).symm.trans d18
          rw [if_pos (wanted_some rfl rfl rfl (by rw [hsz]; exact of_decide_eq_true rfl) d18)]
          refine grow_enters (f := 25) (args := #[.pointer (some ⟨b7, 0, none⟩), .int .i64 2]) ?_ (slot_at (PgB.below H7.out hb) 2 (by omega) S2.out)
          clear old dep ho hsz hb
          go_simp
        | 21, ho =>
          obtain rfl := Option.some.inj ho
          have d20 : a.tmps.getD 122 undef = .string ⟨#[]⟩ := dep 20 _ _ (by kernel_rfl) rfl rfl
          have e20 : a.tmps[122]?.getD undef = _ := (Array.getD_eq_getD_getElem? ..).symm.trans d20
          have d18 : a.tmps.getD 120 undef = .bool true := dep 18 _ _ (by kernel_rfl) rfl rfl
          have e18 : a.tmps[120]?.getD undef = _ := (Array.getD_eq_getD_getElem? ..).symm.trans d18
          rw [if_pos (wanted_some rfl rfl rfl (by rw [hsz]; exact of_decide_eq_true rfl) d18)]
          refine grow_same (v := .bool true) ?_ rfl
          clear old dep ho hsz hb
          go_simp
        | 22, ho =>
          obtain rfl := Option.some.inj ho
          have d18 : a.tmps.getD 120 undef = .bool true := dep 18 _ _ (by kernel_rfl) rfl rfl
          have e18 : a.tmps[120]?.getD undef = _ := (Array.getD_eq_getD_getElem? ..).symm.trans d18
          have d21 : a.tmps.getD 123 undef = .bool true := dep 21 _ _ (by kernel_rfl) rfl rfl
          have e21 : a.tmps[123]?.getD undef = _ := (Array.getD_eq_getD_getElem? ..).symm.trans d21
          rw [if_pos (wanted_none rfl)]
          refine grow_same (v := .bool true) ?_ rfl
          clear old dep ho hsz hb
          go_simp
        | 23, ho =>
          obtain rfl := Option.some.inj ho
          have d22 : a.tmps.getD 124 undef = .bool true := dep 22 _ _ (by kernel_rfl) rfl rfl
          have e22 : a.tmps[124]?.getD undef = _ := (Array.getD_eq_getD_getElem? ..).symm.trans d22
          rw [if_pos (wanted_none rfl)]
          refine grow_same (v := .bool true) ?_ rfl
          clear old dep ho hsz hb
          go_simp
        | i + 24, ho => exact absurd ho (by simp)
      · intro a w2 hb hsz hdf fin keep
        obtain ⟨tm, df⟩ := a
        have hx := frame_of [102, 103, 104, 105, 106, 107, 108, 109, 110, 111, 112, 113, 114, 115, 116, 117, 118, 119, 120, 121, 122, 123, 124, 6] (by kernel_rfl) hsz keep
        dsimp only at hdf hx
        simp only [List.foldl_cons, List.foldl_nil] at hx
        subst hdf
        clear hsz keep
        have kn : tm.getD 102 undef = .int .i64 0 := fin 0 _ _ rfl rfl
        rw [kn] at hx
        clear kn
        have kn : tm.getD 103 undef = .bool true := fin 1 _ _ rfl rfl
        rw [kn] at hx
        clear kn
        have kn : tm.getD 104 undef = .bool true := fin 2 _ _ rfl rfl
        rw [kn] at hx
        clear kn
        have kn : tm.getD 105 undef = .pointer (some ⟨b7, 0, none⟩) := fin 3 _ _ rfl rfl
        rw [kn] at hx
        clear kn
        have kn : tm.getD 106 undef = .string ⟨L.toArray⟩ := fin 4 _ _ rfl rfl
        rw [kn] at hx
        clear kn
        have kn : tm.getD 107 undef = .agg #[.int .i64 t, .string k, .string u] := fin 5 _ _ rfl rfl
        rw [kn] at hx
        clear kn
        obtain ⟨A108, C108, kn, R108⟩ : ∃ A c, tm.getD 108 undef = .slice A 40 c ∧ Rd w2 (.slice A 40 c) (u8s (L)) := fin 6 _ _ rfl rfl
        rw [kn] at hx
        clear kn
        clear R108
        have kn : tm.getD 109 undef = .string ⟨(L).toArray⟩ := fin 7 _ _ rfl rfl
        rw [kn] at hx
        clear kn
        have kn : tm.getD 110 undef = .bool true := fin 8 _ _ rfl rfl
        rw [kn] at hx
        clear kn
        have kn : tm.getD 111 undef = .bool true := fin 9 _ _ rfl rfl
        rw [kn] at hx
        clear kn
        have kn : tm.getD 112 undef = .bool true := fin 10 _ _ rfl rfl
        rw [kn] at hx
        clear kn
        have kn : tm.getD 113 undef = .pointer (some ⟨b7, 0, none⟩) := fin 11 _ _ rfl rfl
        rw [kn] at hx
        clear kn
        have kn : tm.getD 114 undef = .pointer (some ⟨b7, 0, none⟩) := fin 12 _ _ rfl rfl
        rw [kn] at hx
        clear kn
        have kn : tm.getD 115 undef = .pointer (some ⟨b7, 0, none⟩) := fin 13 _ _ rfl rfl
        rw [kn] at hx
        clear kn
        have kn : tm.getD 116 undef = .int .u64 (pl : Int) := fin 14 _ _ rfl rfl
        rw [kn] at hx
        clear kn
        have kn : tm.getD 117 undef = .int .u64 (pl : Int) := fin 15 _ _ rfl rfl
        rw [kn] at hx
        clear kn
        have kn : tm.getD 118 undef = .bool true := fin 16 _ _ rfl rfl
        rw [kn] at hx
        clear kn
        have kn : tm.getD 119 undef = .bool true := fin 17 _ _ rfl rfl
        rw [kn] at hx
        clear kn
        have kn : tm.getD 120 undef = .bool true := fin 18 _ _ rfl rfl
        rw [kn] at hx
        clear kn
        have kn : tm.getD 121 undef = .pointer (some ⟨b7, 0, none⟩) := fin 19 _ _ rfl rfl
        rw [kn] at hx
        clear kn
        have kn : tm.getD 122 undef = .string ⟨#[]⟩ := fin 20 _ _ rfl rfl
        rw [kn] at hx
        clear kn
        have kn : tm.getD 123 undef = .bool true := fin 21 _ _ rfl rfl
        rw [kn] at hx
        clear kn
        have kn : tm.getD 124 undef = .bool true := fin 22 _ _ rfl rfl
        rw [kn] at hx
        clear kn
        have kn : tm.getD 6 undef = .bool true := fin 23 _ _ rfl rfl
        rw [kn] at hx
        clear kn
        clear fin
        simp only [List.setIfInBounds_toArray, List.set_cons_succ, List.set_cons_zero] at hx
        subst hx
        go_wp2
        go_ret
        exact ⟨rfl, BB.out.trans ((B0.out.trans ((B1.out.trans ((B2.out.trans (((O7.out.trans (Out.of_below hb)).below B2.out.size (fun k hk => hk)).mono (Nat.le_refl _))).mono B1.out.size)).mono B0.out.size)).mono BB.out.size)⟩
theorem keeps_walk (t : Int) (k u : ByteArray) (n : Int) (v : Value) (cs : List Int) (w : World) (_ : (Lit.int .i64 t).wf = true) (hk : k.size ≤ maxLen) (hu : u.size ≤ maxLen) (_ : (Lit.int .i64 n).wf = true) (hv : Row w w.heap.size v (cs.map fun x => .int .i64 x)) :
    Calls Try.prog 5 #[.agg #[.int .i64 t, .string k, .string u], .int .i64 n, v] w fun e w' => e = .returned (.bool true) ∧ Below w.heap.size w w' := by
  obtain ⟨Av, cv, ev, _, _⟩ := id hv
  rw [List.length_map] at ev
  subst ev
  cases hr : rowOkB t k u
  · exact keeps_no t k u n Av _ cv w hk hu hr
  · by_cases h60 : 60 < cs.length
    · exact keeps_long t k u n Av _ cv w hr h60
    · exact keeps_yes t k u n Av cv cs w hv hr h60
end Go.Proofs.Ytkdcnddagebjpaa
