/-
  The walk of PageMarks.
-/
import Derived.Test.YtajpjffjhnmfmaaFill
import Derived.Test.YtajpjffjhnmfmaaTurns
import Derived.Test.YtajpjffjhnmfmaaNumber
import Derived.Deep.LoopGhost
namespace Go.Proofs.Ytajpjffjhnmfmaa
open Go.RowKit

set_option linter.unusedSimpArgs false
set_option linter.unusedVariables false
/-- A sector begins with the mark. -/
theorem sec_mark (p : Pg) (hs : p.sized) (k : Nat) (hk : k < 4) : ((p.secs 4).drop (64 * k)).take 8 = be 8 p.mark := by
  have hl (j : Nat) (hj : j < 4) : (p.sec j).length = 64 := by
    unfold Pg.sec
    rw [List.length_append, be_length, List.length_take, List.length_drop, p.said_length hs]; omega
  have ht (j : Nat) (r : List UInt8) : (p.sec j ++ r).take 8 = be 8 p.mark := by
    unfold Pg.sec
    rw [List.append_assoc]
    exact List.take_left' (be_length 8 _)
  have h0 := hl 0 (by omega)
  have h1 := hl 1 (by omega)
  have h2 := hl 2 (by omega)
  rw [p.secs_all]
  match k, hk with
  | 0, _ => exact ht 0 _
  | 1, _ => rw [List.drop_left' h0]; exact ht 1 _
  | 2, _ => rw [show 64 * 2 = 64 + 64 from rfl, ← List.drop_drop, List.drop_left' h0, List.drop_left' h1]; exact ht 2 _
  | 3, _ => rw [show 64 * 3 = 64 + (64 + 64) from rfl, ← List.drop_drop, List.drop_left' h0, ← List.drop_drop, List.drop_left' h1, List.drop_left' h2]; exact ht 3 _
set_option maxHeartbeats 1000000 in
theorem marks_long (v : Value) (rs : List RowD) (m : Nat) (w : World) (hm : m < 18446744073709551616) (hv : RowRow w w.heap.size v rs) (hl : lightsB rs = false) :
    Calls Try.prog 7 #[v, .int .u64 (m : Int)] w fun e w' => e = .returned (.bool true) ∧ Below w.heap.size w w' := by
  have V0 := hide (RIn.start hv)
  clear hv
  go_enter Try.func7, Try.ntmps7
  go_wp2_with (first
    | (go_at_call 11; (with_reducible refine (fit_any _).mono ?_); rintro e w1 ⟨rfl, hb1⟩; have V1 := hide (V0.out.below hb1))
    | (go_at_call 12; (with_reducible refine (light_told false v rs _ V1.out.row hl).mono ?_); rintro e w2 ⟨rfl, hb2⟩; have V2 := hide (V1.out.below hb2)))
  go_ret
  exact ⟨rfl, V2.out.bel⟩
set_option maxRecDepth 20000 in
set_option maxHeartbeats 2000000 in
theorem marks_zero (v : Value) (rs : List RowD) (w : World) (hv : RowRow w w.heap.size v rs) (hl : lightsB rs = true) :
    Calls Try.prog 7 #[v, .int .u64 0] w fun e w' => e = .returned (.bool true) ∧ Below w.heap.size w w' := by
  have V0 := hide (RIn.start hv)
  clear hv
  go_enter Try.func7, Try.ntmps7
  go_wp2_with (first
    | (go_at_call 11; (with_reducible refine (fit_any _).mono ?_); rintro e w1 ⟨rfl, hb1⟩; have V1 := hide (V0.out.below hb1))
    | (go_at_call 12; (with_reducible refine (light_told true v rs _ V1.out.row hl).mono ?_); rintro e w2 ⟨rfl, hb2⟩; have V2 := hide (V1.out.below hb2))
    | (go_at_call 13; refine (fill_told (t := 1) (n := 2) v rs 0 1 2 _ hl (by decide) (by decide) V2.out.row).mono ?_; rintro e w3 ⟨g, gm, s, rfl, hF, hs⟩; have HF := hide hF; have HS := hide hs; have HW3 := hide (V2.out.bel.trans (hF.bel.mono V2.out.bel.size)); obtain ⟨c0, c1, c2, c3, c4, c5, c6, c7⟩ := hF.pg.all; clear hF hs)
    | (go_at_call 14; refine (encode_mtn 0 1 2 s _ HS.out (by omega) (by omega)).mono ?_; rintro e w4 ⟨A, c, rfl, hm4, hb4⟩; have HM := hide hm4; have HW4 := hide (HW3.out.trans (hb4.mono HW3.out.size)); clear hm4 hb4))
  have HR : Hid (Rd w4 (.slice A 256 c) (u8s z256)) := hide HM.out.rd
  refine region_grows [Say.rd 256 (z256), Say.is (.string ⟨(z256).toArray⟩), Say.rd 256 (z256), Say.is (.string ⟨(z256).toArray⟩), Say.is (.bool true), Say.is (.bool true)] (by kernel_rfl) (by kernel_rfl) (by kernel_rfl) (by kernel_rfl) ?_ ?_
  · intro i o ho a w2 hb hsz old dep
    match i, ho with
    | 0, ho =>
      obtain rfl := Option.some.inj ho
      have o7 : a.tmps.getD 7 undef = _ := old 7 (by kernel_rfl)
      rw [if_pos (wanted_none rfl)]
      refine grow_same (v := .slice A 256 c) ?_ ⟨_, _, rfl, (HR.out.below hb)⟩
      clear old dep ho hsz hb
      go_simp
    | 1, ho =>
      obtain rfl := Option.some.inj ho
      obtain ⟨A0, C0, d0, r0⟩ : ∃ A c, a.tmps.getD 29 undef = .slice A 256 c ∧ Rd w2 (.slice A 256 c) (u8s (z256)) := dep 0 _ _ (by kernel_rfl) rfl rfl
      have e0 : a.tmps[29]?.getD undef = _ := (Array.getD_eq_getD_getElem? ..).symm.trans d0
      rw [if_pos (wanted_none rfl)]
      have hcv := conv_rdn z256_length r0
      refine grow_same (v := .string ⟨(z256).toArray⟩) ?_ rfl
      clear old dep ho hsz hb r0
      go_simp
    | 2, ho =>
      obtain rfl := Option.some.inj ho
      rw [if_pos (wanted_none rfl)]
      refine grow_yields (v := .slice (some ⟨w2.heap.size, 0, none⟩) 256 256) (w' := w2.alloc (.cells (blk8 z256) 5)) ?_ ⟨_, _, rfl, (mine_new (b := w2.heap.size) z256 (Nat.le_refl _) rfl z256_length (by omega)).rd⟩ ((Below.refl _ _).alloc (Nat.le_refl _) _)
      have hmk := run_make256 w2
      clear old dep ho hsz hb
      go_simp
    | 3, ho =>
      obtain rfl := Option.some.inj ho
      obtain ⟨A2, C2, d2, r2⟩ : ∃ A c, a.tmps.getD 31 undef = .slice A 256 c ∧ Rd w2 (.slice A 256 c) (u8s (z256)) := dep 2 _ _ (by kernel_rfl) rfl rfl
      have e2 : a.tmps[31]?.getD undef = _ := (Array.getD_eq_getD_getElem? ..).symm.trans d2
      rw [if_pos (wanted_none rfl)]
      have hcv := conv_rdn z256_length r2
      refine grow_same (v := .string ⟨(z256).toArray⟩) ?_ rfl
      clear old dep ho hsz hb r2
      go_simp
    | 4, ho =>
      obtain rfl := Option.some.inj ho
      have d1 : a.tmps.getD 30 undef = .string ⟨(z256).toArray⟩ := dep 1 _ _ (by kernel_rfl) rfl rfl
      have e1 : a.tmps[30]?.getD undef = _ := (Array.getD_eq_getD_getElem? ..).symm.trans d1
      have d3 : a.tmps.getD 32 undef = .string ⟨(z256).toArray⟩ := dep 3 _ _ (by kernel_rfl) rfl rfl
      have e3 : a.tmps[32]?.getD undef = _ := (Array.getD_eq_getD_getElem? ..).symm.trans d3
      rw [if_pos (wanted_none rfl)]
      refine grow_same (v := .bool true) ?_ rfl
      clear old dep ho hsz hb
      go_simp
    | 5, ho =>
      obtain rfl := Option.some.inj ho
      have d4 : a.tmps.getD 33 undef = .bool true := dep 4 _ _ (by kernel_rfl) rfl rfl
      have e4 : a.tmps[33]?.getD undef = _ := (Array.getD_eq_getD_getElem? ..).symm.trans d4
      rw [if_pos (wanted_none rfl)]
      refine grow_same (v := .bool true) ?_ rfl
      clear old dep ho hsz hb
      go_simp
    | i + 6, ho => exact absurd ho (by simp)
  · intro a w5 hb hsz hdf fin keep
    obtain ⟨tm, df⟩ := a
    have hx := frame_of [29, 30, 31, 32, 33, 4] (by kernel_rfl) hsz keep
    dsimp only at hdf hx
    simp only [List.foldl_cons, List.foldl_nil] at hx
    subst hdf
    clear hsz keep
    obtain ⟨A29, C29, kn, R29⟩ : ∃ A c, tm.getD 29 undef = .slice A 256 c ∧ Rd w5 (.slice A 256 c) (u8s (z256)) := fin 0 _ _ rfl rfl
    rw [kn] at hx
    clear kn
    clear R29
    have kn : tm.getD 30 undef = .string ⟨(z256).toArray⟩ := fin 1 _ _ rfl rfl
    rw [kn] at hx
    clear kn
    obtain ⟨A31, C31, kn, R31⟩ : ∃ A c, tm.getD 31 undef = .slice A 256 c ∧ Rd w5 (.slice A 256 c) (u8s (z256)) := fin 2 _ _ rfl rfl
    rw [kn] at hx
    clear kn
    clear R31
    have kn : tm.getD 32 undef = .string ⟨(z256).toArray⟩ := fin 3 _ _ rfl rfl
    rw [kn] at hx
    clear kn
    have kn : tm.getD 33 undef = .bool true := fin 4 _ _ rfl rfl
    rw [kn] at hx
    clear kn
    have kn : tm.getD 4 undef = .bool true := fin 5 _ _ rfl rfl
    rw [kn] at hx
    clear kn
    clear fin
    simp only [List.setIfInBounds_toArray, List.set_cons_succ, List.set_cons_zero] at hx
    subst hx
    go_wp2
    go_ret
    exact ⟨rfl, HW4.out.trans (hb.mono HW4.out.size)⟩
theorem run_mid8 {A : Option Addr} {c k : Nat} (hc : 256 ≤ c) (hk : k < 4) (W : World) : (Instr.slice 31 (.slice A 256 c) (some (.int .i64 (64 * (k : Int)))) (some (.int .i64 (64 * (k : Int) + 8))) none).run Try.prog W = .ok (.slice (hiA A c (64 * k)) 8 (c - 64 * k)) W := by
  have := run_slice_lh (P := Try.prog) W 31 A 256 c slice8 .i64 .i64 (64 * k) (64 * k + 8) (by omega) (by omega) (by omega)
  rw [size8] at this
  rw [this, show (64 * (k : Int)).toNat = 64 * k by omega, show (64 * (k : Int) + 8).toNat = 64 * k + 8 by omega]
  simp [Result.andThen, sliced, hiA]
set_option maxHeartbeats 2000000 in
theorem marks_some (v : Value) (rs : List RowD) (m : Nat) (w : World) (hm : m < 18446744073709551616) (hv : RowRow w w.heap.size v rs) (hl : lightsB rs = true) (h0 : m ≠ 0) :
    Calls Try.prog 7 #[v, .int .u64 (m : Int)] w fun e w' => e = .returned (.bool true) ∧ Below w.heap.size w w' := by
  have h0i : ¬ ((m : Int) = 0) := by omega
  have h0b : ((m : Int) == 0) = false := beq_eq_false_iff_ne.2 h0i
  have V0 := hide (RIn.start hv)
  clear hv
  go_enter Try.func7, Try.ntmps7
  go_wp2_with (first
    | (go_at_call 11; (with_reducible refine (fit_any _).mono ?_); rintro e w1 ⟨rfl, hb1⟩; have V1 := hide (V0.out.below hb1))
    | (go_at_call 12; (with_reducible refine (light_told true v rs _ V1.out.row hl).mono ?_); rintro e w2 ⟨rfl, hb2⟩; have V2 := hide (V1.out.below hb2))
    | (go_at_call 13; refine (fill_told (t := 1) (n := 2) v rs m 1 2 _ hl (by decide) (by decide) V2.out.row).mono ?_; rintro e w3 ⟨g, gm, s, rfl, hF, hs⟩; have HF := hide hF; have HS := hide hs; have HW3 := hide (V2.out.bel.trans (hF.bel.mono V2.out.bel.size)); obtain ⟨c0, c1, c2, c3, c4, c5, c6, c7⟩ := hF.pg.all; clear hF hs)
    | (go_at_call 14; refine (encode_mtn m 1 2 s _ HS.out (by omega) (by omega)).mono ?_; rintro e w4 ⟨A, c, rfl, hm4, hb4⟩; have HM := hide hm4; have HW4 := hide (HW3.out.trans (hb4.mono HW3.out.size)); clear hm4 hb4))
  
  have hsz : (⟨m, 1, 2, s⟩ : Pg).sized := fun j hj => okB_size (HS.out j hj)
  have he : (⟨m, 1, 2, s⟩ : Pg).encL = (⟨m, 1, 2, s⟩ : Pg).secs 4 := if_neg h0
  have hcc : 256 ≤ c := rd_cap HM.out.rd
  have HR := hide (show Rd w4 (.slice A 256 c) (u8s ((⟨m, 1, 2, s⟩ : Pg).secs 4)) from he ▸ HM.out.rd)
  have HZ := hide (fun k (hk : k < 4) => sec_mark ⟨m, 1, 2, s⟩ hsz k hk)
  clear hsz he
  go_loopg [34] 4 (fun n i wr => ∃ k : Nat, k + n = 4 ∧ i = .int .i64 k ∧ wr = w4)
  case atStart => exact ⟨0, by omega, rfl, rfl⟩
  case round =>
    obtain ⟨k, hk, rfl, rfl⟩ := hrel
    cases gk with
    | zero =>
      obtain rfl : k = 4 := by omega
      go_wp2
      go_ret
      exact ⟨rfl, HW4.out⟩
    | succ n =>
      have hlt : k < 4 := by omega
      have hsl := fun W => run_mid8 (A := A) hcc hlt W
      have hrd := Rd.low (Rd.high (k := 64 * k) HR.out (by omega)) (k := 8) (by omega)
      rw [HZ.out k hlt] at hrd
      obtain ⟨A', c', he, hc, hcell⟩ := hrd
      injection he with e1 e2 e3
      rw [u8s_length, be_length] at hcell
      obtain ⟨b, o, e4, hb, hcell⟩ := hcell (by omega)
      rw [e1, e4] at hsl
      clear hc e1 e2 e3 e4 HZ
      go_wp2
      go_loopg [9, 45] 8 (fun q x i wr2 => ∃ j : Nat, j + q = 8 ∧ i = .int .i64 j ∧ x = .int .u64 (val ((be 8 m).take j) : Int) ∧ wr2 = wr)
      case atStart => exact ⟨0, by omega, rfl, rfl, rfl⟩
      case round =>
        obtain ⟨j, hj, rfl, rfl, rfl⟩ := hrel
        cases gk with
        | zero =>
          obtain rfl : j = 8 := by omega
          have hv : val ((be 8 m).take 8) = m := by
            rw [List.take_of_length_le (by rw [be_length]; omega), val_be]; exact Nat.mod_eq_of_lt hm
          rw [hv]
          go_wp2
          go_roundg n
          case rel => exact ⟨k + 1, by omega, by go_num, rfl⟩
          case measure => omega
        | succ q =>
          have hjl : j < (be 8 m).length := by rw [be_length]; omega
          have hcj := hcell j _ (u8s_get (be 8 m) j hjl)
          have hv := val_take_lt (be 8 m) j (by rw [be_length]; omega) hjl
          have HV := hide (val_take (be 8 m) j hjl)
          generalize val ((be 8 m).take j) = a at *
          have HX := or_byte a (be 8 m)[j] hv
          go_wp2
          go_roundg q
          case rel => exact ⟨j + 1, by omega, by go_num, by rw [HV.out, show ((a * 256 + (be 8 m)[j].toNat : Nat) : Int) = (a : Int) * 256 + ((be 8 m)[j].toNat : Int) by omega], rfl⟩
          case measure => omega
theorem marks_walk (v : Value) (rs : List RowD) (x : Int) (w : World) (hv : RowRow w w.heap.size v rs) (hx : (Lit.int .u64 x).wf = true) :
    Calls Try.prog 7 #[v, .int .u64 x] w fun e w' => e = .returned (.bool true) ∧ Below w.heap.size w w' := by
  obtain ⟨m, rfl, hm⟩ := wf_u64 hx
  cases hl : lightsB rs
  · exact marks_long v rs m w hm hv hl
  · by_cases h0 : m = 0
    · subst h0
      exact marks_zero v rs w hv hl
    · exact marks_some v rs m w hm hv hl h0
end Go.Proofs.Ytajpjffjhnmfmaa
