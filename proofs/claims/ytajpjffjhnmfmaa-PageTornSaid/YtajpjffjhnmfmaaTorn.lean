/-
  The walk of PageTorn.
-/
import Derived.Test.YtajpjffjhnmfmaaFill
import Derived.Test.YtajpjffjhnmfmaaCopyOn
import Derived.Test.YtajpjffjhnmfmaaMarks
import Derived.StillTailTactics
import Derived.Deep.LoopGhost
namespace Go.Proofs.Ytajpjffjhnmfmaa
open Go.RowKit

set_option linter.unusedSimpArgs false
set_option linter.unusedVariables false
theorem andn (m n : Nat) (hm : m = 2 ^ n) (hn : n ≤ 16) (x : Int) : ∃ b : Nat, b < m ∧ bits .and .i64 x ((m - 1 : Nat) : Int) = (b : Int) := by
  have h2 : bits .and .i64 x ((m - 1 : Nat) : Int) = IntKind.i64.wrap (((BitVec.ofInt 64 x &&& BitVec.ofInt 64 ((m - 1 : Nat) : Int)).toNat : Int)) := rfl
  have hp : 2 ^ n ≤ 2 ^ 16 := Nat.pow_le_pow_right (by omega) hn
  have hp0 : 0 < 2 ^ n := Nat.pow_pos (by omega)
  have h4 : (BitVec.ofInt 64 ((m - 1 : Nat) : Int)).toNat = 2 ^ n - 1 := by rw [BitVec.toNat_ofInt, ← hm]; omega
  have h5 : (BitVec.ofInt 64 x).toNat % 2 ^ n < 2 ^ n := Nat.mod_lt _ hp0
  rw [h2, BitVec.toNat_and, h4, Nat.and_two_pow_sub_one_eq_mod]
  refine ⟨(BitVec.ofInt 64 x).toNat % 2 ^ n, by rw [hm]; exact h5, ?_⟩
  rw [IntKind.wrap_i64]; omega
theorem fill_8b {b : Nat} (hb : b < 2) (v : Value) (rs : List RowD) (w : World) (h30 : lightsB rs = true) (hv : RowRow w w.heap.size v rs) :
    Calls Try.prog 13 #[v, .int .u64 (8 + (b : Int)), .int .i64 1, .int .i64 2] w fun e w' => ∃ g gm s, e = .returned (.tuple #[.pointer (some ⟨g, 0, none⟩), .slice (some ⟨gm, 0, none⟩) 5 5]) ∧ Fld w w' g gm ⟨8 + b, 1, 2, s⟩ ∧ ∀ j, j < 5 → okB (s j) = true := by
  have := fill_told (t := 1) (n := 2) v rs (8 + b) 1 2 w h30 (by decide) (by decide) hv
  rwa [show ((8 + b : Nat) : Int) = 8 + (b : Int) by omega] at this
theorem fill_c7 (v : Value) (rs : List RowD) (w : World) (h30 : lightsB rs = true) (hv : RowRow w w.heap.size v rs) :
    Calls Try.prog 13 #[v, .int .u64 7, .int .i64 1, .int .i64 2] w fun e w' => ∃ g gm s, e = .returned (.tuple #[.pointer (some ⟨g, 0, none⟩), .slice (some ⟨gm, 0, none⟩) 5 5]) ∧ Fld w w' g gm ⟨7, 1, 2, s⟩ ∧ ∀ j, j < 5 → okB (s j) = true :=
  fill_told (t := 1) (n := 2) v rs 7 1 2 w h30 (by decide) (by decide) hv
theorem all_c7 {w : World} {g : Nat} {s : Nat → ByteArray} (h : PgB w g ⟨7, 1, 2, s⟩) : w.cell? ⟨g, 0, none⟩ = some (.int .u64 7) ∧ w.cell? ⟨g, 1, none⟩ = some (.int .i64 1) ∧ w.cell? ⟨g, 2, none⟩ = some (.int .i64 2) ∧
    w.cell? ⟨g, 3, none⟩ = some (.string (s 0)) ∧ w.cell? ⟨g, 4, none⟩ = some (.string (s 1)) ∧ w.cell? ⟨g, 5, none⟩ = some (.string (s 2)) ∧ w.cell? ⟨g, 6, none⟩ = some (.string (s 3)) ∧ w.cell? ⟨g, 7, none⟩ = some (.string (s 4)) := h.all
set_option maxHeartbeats 2000000 in
theorem torn_long (v : Value) (rs : List RowD) (v2 : Value) (rs2 : List RowD) (y : Int) (w : World) (hv : RowRow w w.heap.size v rs) (hv2 : RowRow w w.heap.size v2 rs2) (hl : lightsB rs = false) :
    Calls Try.prog 4 #[v, v2, .int .i64 y] w fun e w' => e = .returned (.bool true) ∧ Below w.heap.size w w' := by
  have V0 := hide (RIn.start hv)
  have U0 := hide (RIn.start hv2)
  clear hv hv2
  go_enter Try.func4, Try.ntmps4
  go_wp2_with (first
    | (go_at_call 11; (with_reducible refine (fit_any _).mono ?_); rintro e w1 ⟨rfl, hb1⟩; have V1 := hide (V0.out.below hb1); have U1 := hide (U0.out.below hb1); clear hb1)
    | (go_at_call 12; (with_reducible refine (light_told false v rs _ V1.out.row hl).mono ?_); rintro e w2 ⟨rfl, hb2⟩; have V2 := hide (V1.out.below hb2); have U2 := hide (U1.out.below hb2); clear hb2))
  go_ret
  exact ⟨rfl, V2.out.bel⟩
set_option maxHeartbeats 2000000 in
theorem torn_long2 (v : Value) (rs : List RowD) (v2 : Value) (rs2 : List RowD) (y : Int) (w : World) (hv : RowRow w w.heap.size v rs) (hv2 : RowRow w w.heap.size v2 rs2) (hl : lightsB rs = true) (hl2 : lightsB rs2 = false) :
    Calls Try.prog 4 #[v, v2, .int .i64 y] w fun e w' => e = .returned (.bool true) ∧ Below w.heap.size w w' := by
  have V0 := hide (RIn.start hv)
  have U0 := hide (RIn.start hv2)
  clear hv hv2
  go_enter Try.func4, Try.ntmps4
  go_wp2_with (first
    | (go_at_call 11; (with_reducible refine (fit_any _).mono ?_); rintro e w1 ⟨rfl, hb1⟩; have V1 := hide (V0.out.below hb1); have U1 := hide (U0.out.below hb1); clear hb1)
    | (go_at_call 12; (with_reducible refine (light_told true v rs _ V1.out.row hl).mono ?_); rintro e w2 ⟨rfl, hb2⟩; have V2 := hide (V1.out.below hb2); have U2 := hide (U1.out.below hb2); clear hb2)
    | (go_at_call 12; (with_reducible refine (light_told false v2 rs2 _ U2.out.row hl2).mono ?_); rintro e w3 ⟨rfl, hb3⟩; have V3 := hide (V2.out.below hb3); have U3 := hide (U2.out.below hb3); clear hb3))
  go_ret
  exact ⟨rfl, V3.out.bel⟩
/-- A slice whose block's first bytes are these. -/
def Say.hold (B : Nat) (l : List UInt8) : Say := ⟨fun w v => ∃ g c, v = .slice (some ⟨g, 0, none⟩) 256 c ∧ B ≤ g ∧ Hold w g c l, fun _ _ _ ⟨g, c, e, hg, h⟩ hb => ⟨g, c, e, hg, h.below hb⟩⟩
theorem enc_hold {B : Nat} (m t n : Nat) (s : Nat → ByteArray) (w : World) (hs : ∀ j, j < 5 → okB (s j) = true) (ht : t < 65536) (hn : n < 65536) (hB : B ≤ w.heap.size) :
    Calls Try.prog 14 #[.agg #[.int .u64 (m : Int), .int .i64 (t : Int), .int .i64 (n : Int), .string (s 0), .string (s 1), .string (s 2), .string (s 3), .string (s 4)]] w fun e w' => ∃ v, e = .returned v ∧ (Say.hold B (⟨m, t, n, s⟩ : Pg).encL).p w' v ∧ Below w.heap.size w w' := by
  refine (encode_mtn m t n s w hs ht hn).mono ?_
  rintro e w' ⟨A, c, rfl, hm, hb⟩
  obtain ⟨g, rfl, hg, hh⟩ := hm.hold (by rw [Pg.encL_length (fun j hj => okB_size (hs j hj))]; omega)
  exact ⟨_, rfl, ⟨g, c, rfl, by omega, hh⟩, hb⟩
theorem all_8b {w : World} {g b : Nat} {s : Nat → ByteArray} (h : PgB w g ⟨8 + b, 1, 2, s⟩) : w.cell? ⟨g, 0, none⟩ = some (.int .u64 (8 + (b : Int))) ∧ w.cell? ⟨g, 1, none⟩ = some (.int .i64 1) ∧ w.cell? ⟨g, 2, none⟩ = some (.int .i64 2) ∧
    w.cell? ⟨g, 3, none⟩ = some (.string (s 0)) ∧ w.cell? ⟨g, 4, none⟩ = some (.string (s 1)) ∧ w.cell? ⟨g, 5, none⟩ = some (.string (s 2)) ∧ w.cell? ⟨g, 6, none⟩ = some (.string (s 3)) ∧ w.cell? ⟨g, 7, none⟩ = some (.string (s 4)) := by
  have := h.all
  rwa [show ((8 + b : Nat) : Int) = 8 + (b : Int) by omega] at this
theorem enc_8b {B b : Nat} (s : Nat → ByteArray) (w : World) (hs : ∀ j, j < 5 → okB (s j) = true) (hB : B ≤ w.heap.size) :
    Calls Try.prog 14 #[.agg #[.int .u64 (8 + (b : Int)), .int .i64 1, .int .i64 2, .string (s 0), .string (s 1), .string (s 2), .string (s 3), .string (s 4)]] w fun e w' => ∃ v, e = .returned v ∧ (Say.hold B (⟨8 + b, 1, 2, s⟩ : Pg).encL).p w' v ∧ Below w.heap.size w w' := by
  have := enc_hold (B := B) (8 + b) 1 2 s w hs (by omega) (by omega) hB
  rwa [show ((8 + b : Nat) : Int) = 8 + (b : Int) by omega] at this
theorem be8_inj {a b : Nat} (ha : a < 18446744073709551616) (hb : b < 18446744073709551616) (h : be 8 a = be 8 b) : a = b := by
  have := congrArg val h
  rw [val_be, val_be, Nat.mod_eq_of_lt ha, Nat.mod_eq_of_lt hb] at this
  exact this
/-- Each sector begins with the mark, also where it is 0. -/
theorem enc_mark (p : Pg) (hs : p.sized) (k : Nat) (hk : k < 4) : (p.encL.drop (64 * k)).take 8 = be 8 p.mark := by
  unfold Pg.encL
  split
  · rename_i h
    rw [h, show be 8 0 = List.replicate 8 (0 : UInt8) from (by kernel_rfl), z256, List.drop_replicate, List.take_replicate]
    congr 1
    omega
  · exact sec_mark p hs k hk
theorem hold_apart {w : World} {g c c' : Nat} {l m : List UInt8} (h : Hold w g c l) (h' : Hold w g c' m) (hl : l.length = m.length) : l = m := by
  obtain ⟨cur, h1, _, _, h4⟩ := h
  obtain ⟨cur', h1', _, _, h4'⟩ := h'
  have e : cur = cur' := by
    unfold Blk at h1 h1'
    rw [h1] at h1'
    injection h1' with h1'
    injection h1'
  subst e
  rw [hl, h4'] at h4
  have := congrArg (List.map fun v => match v with | Value.int _ n => UInt8.ofNat n.toNat | _ => 0) h4
  simpa [u8s, Function.comp_def] using this.symm
theorem bit_i64 (mk k : Nat) (hm : mk ≤ 14) : bits .and .i64 ((mk : Int) / 2 ^ k) 1 = if mk.testBit k = true then 1 else 0 := by
  have e : (mk : Int) / 2 ^ k = ((mk / 2 ^ k : Nat) : Int) := by
    rw [show ((2 : Int) ^ k) = ((2 ^ k : Nat) : Int) by simp]
    omega
  have e2 : mk.testBit k = decide (mk / 2 ^ k % 2 = 1) := Nat.testBit_eq_decide_div_mod_eq
  have hq : mk / 2 ^ k ≤ mk := Nat.div_le_self _ _
  rw [e, e2]
  generalize mk / 2 ^ k = q at *
  have h2 : bits .and .i64 (q : Int) 1 = IntKind.i64.wrap (((BitVec.ofInt 64 (q : Int) &&& BitVec.ofInt 64 1).toNat : Int)) := rfl
  have h4 : (BitVec.ofInt 64 1).toNat = 2 ^ 1 - 1 := by rw [BitVec.toNat_ofInt]; rfl
  rw [h2, BitVec.toNat_and, h4, Nat.and_two_pow_sub_one_eq_mod, BitVec.toNat_ofInt, IntKind.wrap_i64]
  by_cases h : q % 2 = 1
  · rw [if_pos (by simpa using h)]; omega
  · rw [if_neg (by simpa using h)]; omega
theorem run_mid64 {g c k : Nat} (hc : 256 ≤ c) (hk : k < 4) (W : World) : (Instr.slice 31 (.slice (some ⟨g, 0, none⟩) 256 c) (some (.int .i64 (64 * (k : Int)))) (some (.int .i64 (64 * (k : Int) + 64))) none).run Try.prog W = .ok (.slice (some ⟨g, 64 * k, none⟩) 64 (c - 64 * k)) W := by
  have := run_slice_lh (P := Try.prog) W 31 (some ⟨g, 0, none⟩) 256 c slice8 .i64 .i64 (64 * k) (64 * k + 64) (by omega) (by omega) (by omega)
  rw [size8] at this
  rw [this, show (64 * (k : Int)).toNat = 64 * k by omega, show (64 * (k : Int) + 64).toNat = 64 * k + 64 by omega]
  have h1 : ¬ c = 64 * k := by omega
  simp [Result.andThen, sliced, h1, addr_add]
theorem rd_seg {w : World} {g c k : Nat} {l : List UInt8} (h : Hold w g c l) (hl : l.length = 256) (hk : k < 4) : Rd w (.slice (some ⟨g, 64 * k, none⟩) 64 (c - 64 * k)) (u8s ((l.drop (64 * k)).take 64)) := by
  have hr := h.rd hl
  have hc := rd_cap hr
  have h1 := Rd.low (k := 64) (Rd.high (k := 64 * k) hr (by omega)) (by omega)
  have e : hiA (some ⟨g, 0, none⟩) c (64 * k) = some ⟨g, 64 * k, none⟩ := by
    unfold hiA
    rw [if_neg (by omega)]
    simp [addr_add]
  rwa [e] at h1
theorem Hold.drew {w : World} {g c : Nat} {l : List UInt8} (h : Hold w g c l) : Hold w.drew g c l := h
theorem decode_12 (v : Value) (l : List UInt8) (w : World) (hl : l.length = 256) (hv : Rd w v (u8s l)) :
    Calls Try.prog 15 #[v, .int .i64 1, .int .i64 2] w fun e w' => ∃ (qm qt qn : Nat) (qs : Nat → ByteArray) (e' : Int), e = .returned (.tuple #[.agg #[.int .u64 (qm : Int), .int .i64 (qt : Int), .int .i64 (qn : Int), .string (qs 0), .string (qs 1), .string (qs 2), .string (qs 3), .string (qs 4)], .int .i64 e']) ∧ DecP l 1 2 ⟨qm, qt, qn, qs⟩ e' ∧ Below w.heap.size w w' := by
  refine (decode_pg v l 1 2 w (by omega) hv).mono ?_
  rintro e w' ⟨⟨qm, qt, qn, qs⟩, e', rfl, hd, hb⟩
  exact ⟨qm, qt, qn, qs, e', rfl, hd, hb⟩
/-- Some sectors of one with others of the other are no page. -/
theorem torn_mix {p q : Pg} {mk : Nat} {r : Pg} {e : Int} (hp : p.sized) (hq : q.sized) (hm : p.mark < 18446744073709551616) (hn : q.mark < 18446744073709551616) (hne : p.mark ≠ q.mark) (h1 : 1 ≤ mk) (h2 : mk ≤ 14) (hd : DecP (mixL p.encL q.encL mk 4) 1 2 r e) : e = 11 := by
  rcases hd with ⟨_, hr, _, _, hrm, ho, _, _⟩ | ⟨he, _⟩
  · exfalso
    have hrs : r.sized := fun j hj => okB_size (ho j hj)
    have hh : ∀ j, j < 4 → be 8 r.mark = if mk.testBit j = true then be 8 q.mark else be 8 p.mark := by
      intro j hj
      have a1 := enc_mark r hrs j hj
      rw [hr, mixL_seg mk (Pg.encL_length hp) (Pg.encL_length hq) 4 (by omega) j, enc_mark p hp j hj, enc_mark q hq j hj] at a1
      rw [← a1]
      by_cases hb : mk.testBit j = true
      · rw [if_pos ⟨hj, hb⟩, if_pos hb]
      · rw [if_neg (fun x => hb x.2), if_neg hb]
    have hx : ∃ i j, i < 4 ∧ j < 4 ∧ mk.testBit i = true ∧ mk.testBit j = false := by
      clear hh hr hrs
      match mk, h1, h2 with
      | 1, _, _ => exact ⟨0, 1, by decide⟩
      | 2, _, _ => exact ⟨1, 0, by decide⟩
      | 3, _, _ => exact ⟨0, 2, by decide⟩
      | 4, _, _ => exact ⟨2, 0, by decide⟩
      | 5, _, _ => exact ⟨0, 1, by decide⟩
      | 6, _, _ => exact ⟨1, 0, by decide⟩
      | 7, _, _ => exact ⟨0, 3, by decide⟩
      | 8, _, _ => exact ⟨3, 0, by decide⟩
      | 9, _, _ => exact ⟨0, 1, by decide⟩
      | 10, _, _ => exact ⟨1, 0, by decide⟩
      | 11, _, _ => exact ⟨0, 2, by decide⟩
      | 12, _, _ => exact ⟨2, 0, by decide⟩
      | 13, _, _ => exact ⟨0, 1, by decide⟩
      | 14, _, _ => exact ⟨1, 0, by decide⟩
      | n + 15, _, h => exact absurd h (by omega)
    obtain ⟨i, j, hi, hj, bi, bj⟩ := hx
    have x1 := hh i hi
    have x2 := hh j hj
    rw [if_pos bi] at x1
    rw [if_neg (by rw [bj]; simp)] at x2
    exact hne (be8_inj hm hn (x2.symm.trans x1))
  · exact he
set_option maxRecDepth 20000 in
set_option maxHeartbeats 2000000 in
theorem torn_8 (v : Value) (rs : List RowD) (v2 : Value) (rs2 : List RowD) (y : Int) (w : World) (hv : RowRow w w.heap.size v rs) (hv2 : RowRow w w.heap.size v2 rs2) (hl : lightsB rs = true) (hl2 : lightsB rs2 = true) (h32 : ¬ 0 < bits .and .i64 y 32) :
    Calls Try.prog 4 #[v, v2, .int .i64 y] w fun e w' => e = .returned (.bool true) ∧ Below w.heap.size w w' := by
  obtain ⟨b, hbn, hbi⟩ : ∃ b : Nat, b < 2 ∧ bits .and .i64 y 1 = (b : Int) := andn 2 1 rfl (by omega) y
  obtain ⟨z, hz, hzi⟩ : ∃ z : Nat, z < 16 ∧ bits .and .i64 y 15 = (z : Int) := andn 16 4 rfl (by omega) y
  have V0 := hide (RIn.start hv)
  have U0 := hide (RIn.start hv2)
  clear hv hv2
  go_enter Try.func4, Try.ntmps4
  go_wp2_with (first
    | (go_at_call 11; (with_reducible refine (fit_any _).mono ?_); rintro e w1 ⟨rfl, hb1⟩; have V1 := hide (V0.out.below hb1); have U1 := hide (U0.out.below hb1); clear hb1)
    | (go_at_call 12; (with_reducible refine (light_told true v rs _ V1.out.row hl).mono ?_); rintro e w2 ⟨rfl, hb2⟩; have V2 := hide (V1.out.below hb2); have U2 := hide (U1.out.below hb2); clear hb2)
    | (go_at_call 12; (with_reducible refine (light_told true v2 rs2 _ U2.out.row hl2).mono ?_); rintro e w3 ⟨rfl, hb3⟩; have V3 := hide (V2.out.below hb3); have U3 := hide (U2.out.below hb3); clear hb3)
    | (go_at_call 13; (with_reducible refine (fill_c7 v rs _ hl V3.out.row).mono ?_); rintro e w4 ⟨g, gm, s, rfl, hF, hs⟩; have HF4 := hide hF; have HS := hide hs; have U4 := hide (U3.out.below (hF.bel)); clear hF hs)
    | (go_at_call 13; (with_reducible refine (fill_8b hbn v2 rs2 _ hl2 U4.out.row).mono ?_); rintro e w5 ⟨g2, gm2, s2, rfl, hF, hs⟩; have HG5 := hide hF; have HS2 := hide hs; have HF5 := hide (HF4.out.below hF.bel); have HW5 := hide (U4.out.bel.trans (hF.bel.mono U4.out.bel.size)); have c0 := hF.pg.markC; have cf := hF.pg.frozen 0; clear hF hs))
  have PP := hide HF5.out.pg
  have QQ := hide HG5.out.pg
  have HW6 := HW5
  generalize hw6 : w5 = w6 at *
  clear hw6
  refine region_grows [Say.is (.pointer (some ⟨g, 0, none⟩)), Say.is (.pointer (some ⟨g, 0, none⟩)), Say.is (.agg #[.int .u64 7, .int .i64 1, .int .i64 2, .string (s 0), .string (s 1), .string (s 2), .string (s 3), .string (s 4)]), Say.hold w6.heap.size (⟨7, 1, 2, s⟩ : Pg).encL, Say.is (.pointer (some ⟨g2, 0, none⟩)), Say.is (.pointer (some ⟨g2, 0, none⟩)), Say.is (.agg #[.int .u64 (8 + (b : Int)), .int .i64 1, .int .i64 2, .string (s2 0), .string (s2 1), .string (s2 2), .string (s2 3), .string (s2 4)]), Say.hold w6.heap.size (⟨8 + b, 1, 2, s2⟩ : Pg).encL, Say.hold w6.heap.size (⟨7, 1, 2, s⟩ : Pg).encL, Say.hold w6.heap.size (⟨8 + b, 1, 2, s2⟩ : Pg).encL] (by kernel_rfl) (by kernel_rfl) (by kernel_rfl) (by kernel_rfl) ?_ ?_
  · intro i o ho a w2 hb hsz old dep
    match i, ho with
    | 0, ho =>
      obtain rfl := Option.some.inj ho
      have o7 : a.tmps.getD 7 undef = _ := old 7 (by kernel_rfl)
      rw [if_pos (wanted_none rfl)]
      refine grow_same (v := .pointer (some ⟨g, 0, none⟩)) ?_ rfl
      clear old dep ho hsz hb
      go_simp
    | 1, ho =>
      obtain rfl := Option.some.inj ho
      have d0 : a.tmps.getD 46 undef = .pointer (some ⟨g, 0, none⟩) := dep 0 _ _ (by kernel_rfl) rfl rfl
      have e0 : a.tmps[46]?.getD undef = _ := (Array.getD_eq_getD_getElem? ..).symm.trans d0
      rw [if_pos (wanted_none rfl)]
      refine grow_same (v := .pointer (some ⟨g, 0, none⟩)) ?_ rfl
      clear old dep ho hsz hb
      go_simp
    | 2, ho =>
      obtain rfl := Option.some.inj ho
      have d1 : a.tmps.getD 47 undef = .pointer (some ⟨g, 0, none⟩) := dep 1 _ _ (by kernel_rfl) rfl rfl
      have e1 : a.tmps[47]?.getD undef = _ := (Array.getD_eq_getD_getElem? ..).symm.trans d1
      rw [if_pos (wanted_none rfl)]
      obtain ⟨g0, g1, g2', g3, g4, g5, g6, g7⟩ := all_c7 (PP.out.below hb)
      refine grow_same (v := .agg #[.int .u64 7, .int .i64 1, .int .i64 2, .string (s 0), .string (s 1), .string (s 2), .string (s 3), .string (s 4)]) ?_ rfl
      clear old dep ho hsz hb
      go_simp
    | 3, ho =>
      obtain rfl := Option.some.inj ho
      have d2 : a.tmps.getD 48 undef = .agg #[.int .u64 7, .int .i64 1, .int .i64 2, .string (s 0), .string (s 1), .string (s 2), .string (s 3), .string (s 4)] := dep 2 _ _ (by kernel_rfl) rfl rfl
      have e2 : a.tmps[48]?.getD undef = _ := (Array.getD_eq_getD_getElem? ..).symm.trans d2
      rw [if_pos (wanted_none rfl)]
      refine grow_enters (f := 14) (args := #[.agg #[.int .u64 7, .int .i64 1, .int .i64 2, .string (s 0), .string (s 1), .string (s 2), .string (s 3), .string (s 4)]]) ?_ (enc_hold 7 1 2 s _ HS.out (by omega) (by omega) hb.size)
      clear old dep ho hsz hb
      go_simp
    | 4, ho =>
      obtain rfl := Option.some.inj ho
      have o9 : a.tmps.getD 9 undef = _ := old 9 (by kernel_rfl)
      rw [if_pos (wanted_none rfl)]
      refine grow_same (v := .pointer (some ⟨g2, 0, none⟩)) ?_ rfl
      clear old dep ho hsz hb
      go_simp
    | 5, ho =>
      obtain rfl := Option.some.inj ho
      have d4 : a.tmps.getD 50 undef = .pointer (some ⟨g2, 0, none⟩) := dep 4 _ _ (by kernel_rfl) rfl rfl
      have e4 : a.tmps[50]?.getD undef = _ := (Array.getD_eq_getD_getElem? ..).symm.trans d4
      rw [if_pos (wanted_none rfl)]
      refine grow_same (v := .pointer (some ⟨g2, 0, none⟩)) ?_ rfl
      clear old dep ho hsz hb
      go_simp
    | 6, ho =>
      obtain rfl := Option.some.inj ho
      have d5 : a.tmps.getD 51 undef = .pointer (some ⟨g2, 0, none⟩) := dep 5 _ _ (by kernel_rfl) rfl rfl
      have e5 : a.tmps[51]?.getD undef = _ := (Array.getD_eq_getD_getElem? ..).symm.trans d5
      rw [if_pos (wanted_none rfl)]
      obtain ⟨g0, g1, g2', g3, g4, g5, g6, g7⟩ := all_8b (QQ.out.below hb)
      refine grow_same (v := .agg #[.int .u64 (8 + (b : Int)), .int .i64 1, .int .i64 2, .string (s2 0), .string (s2 1), .string (s2 2), .string (s2 3), .string (s2 4)]) ?_ rfl
      clear old dep ho hsz hb
      go_simp
    | 7, ho =>
      obtain rfl := Option.some.inj ho
      have d6 : a.tmps.getD 52 undef = .agg #[.int .u64 (8 + (b : Int)), .int .i64 1, .int .i64 2, .string (s2 0), .string (s2 1), .string (s2 2), .string (s2 3), .string (s2 4)] := dep 6 _ _ (by kernel_rfl) rfl rfl
      have e6 : a.tmps[52]?.getD undef = _ := (Array.getD_eq_getD_getElem? ..).symm.trans d6
      rw [if_pos (wanted_none rfl)]
      refine grow_enters (f := 14) (args := #[.agg #[.int .u64 (8 + (b : Int)), .int .i64 1, .int .i64 2, .string (s2 0), .string (s2 1), .string (s2 2), .string (s2 3), .string (s2 4)]]) ?_ (enc_8b s2 _ HS2.out hb.size)
      clear old dep ho hsz hb
      go_simp
    | 8, ho =>
      obtain rfl := Option.some.inj ho
      have s3 : (Say.hold w6.heap.size (⟨7, 1, 2, s⟩ : Pg).encL).p w2 (a.tmps.getD 49 undef) := dep 3 _ _ (by kernel_rfl) rfl rfl
      rw [if_pos (wanted_none rfl)]
      refine grow_same (v := a.tmps.getD 49 undef) ?_ s3
      clear old dep ho hsz hb
      go_simp
    | 9, ho =>
      obtain rfl := Option.some.inj ho
      have s7 : (Say.hold w6.heap.size (⟨8 + b, 1, 2, s2⟩ : Pg).encL).p w2 (a.tmps.getD 53 undef) := dep 7 _ _ (by kernel_rfl) rfl rfl
      rw [if_pos (wanted_none rfl)]
      refine grow_same (v := a.tmps.getD 53 undef) ?_ s7
      clear old dep ho hsz hb
      go_simp
    | i + 10, ho => exact absurd ho (by simp)
  · intro a w7 hb hsz hdf fin keep
    obtain ⟨tm, df⟩ := a
    have hx := frame_of [46, 47, 48, 49, 50, 51, 52, 53, 11, 12] (by kernel_rfl) hsz keep
    dsimp only at hdf hx
    simp only [List.foldl_cons, List.foldl_nil] at hx
    subst hdf
    clear hsz keep
    have kn : tm.getD 46 undef = .pointer (some ⟨g, 0, none⟩) := fin 0 _ _ rfl rfl
    rw [kn] at hx
    clear kn
    have kn : tm.getD 47 undef = .pointer (some ⟨g, 0, none⟩) := fin 1 _ _ rfl rfl
    rw [kn] at hx
    clear kn
    have kn : tm.getD 48 undef = .agg #[.int .u64 7, .int .i64 1, .int .i64 2, .string (s 0), .string (s 1), .string (s 2), .string (s 3), .string (s 4)] := fin 2 _ _ rfl rfl
    rw [kn] at hx
    clear kn
    generalize tm.getD 49 undef = y49 at hx
    have kn : tm.getD 50 undef = .pointer (some ⟨g2, 0, none⟩) := fin 4 _ _ rfl rfl
    rw [kn] at hx
    clear kn
    have kn : tm.getD 51 undef = .pointer (some ⟨g2, 0, none⟩) := fin 5 _ _ rfl rfl
    rw [kn] at hx
    clear kn
    have kn : tm.getD 52 undef = .agg #[.int .u64 (8 + (b : Int)), .int .i64 1, .int .i64 2, .string (s2 0), .string (s2 1), .string (s2 2), .string (s2 3), .string (s2 4)] := fin 6 _ _ rfl rfl
    rw [kn] at hx
    clear kn
    generalize tm.getD 53 undef = y53 at hx
    have S11 : (Say.hold w6.heap.size (⟨7, 1, 2, s⟩ : Pg).encL).p w7 (tm.getD 11 undef) := fin 8 _ _ rfl rfl
    generalize tm.getD 11 undef = y11 at hx S11
    have S12 : (Say.hold w6.heap.size (⟨8 + b, 1, 2, s2⟩ : Pg).encL).p w7 (tm.getD 12 undef) := fin 9 _ _ rfl rfl
    generalize tm.getD 12 undef = y12 at hx S12
    clear fin
    simp only [List.setIfInBounds_toArray, List.set_cons_succ, List.set_cons_zero] at hx
    subst hx
    obtain ⟨ga, ca, rfl, hga, HA⟩ := S11
    obtain ⟨gb, cb, rfl, hgb, HB⟩ := S12
    have hp7 : (⟨7, 1, 2, s⟩ : Pg).sized := fun j hj => okB_size (HS.out j hj)
    have hq7 : (⟨8 + b, 1, 2, s2⟩ : Pg).sized := fun j hj => okB_size (HS2.out j hj)
    have hla := Pg.encL_length hp7
    have hlb := Pg.encL_length hq7
    have hab : ga ≠ gb := by
      rintro rfl
      have e := hold_apart HA HB (hla.trans hlb.symm)
      have e1 := enc_mark _ hp7 0 (by omega)
      have e2 := enc_mark _ hq7 0 (by omega)
      rw [e] at e1
      have := be8_inj (show (7 : Nat) < 18446744073709551616 by omega) (show (8 + b) < 18446744073709551616 by omega) (e1.symm.trans e2)
      have h7 : (7 : Nat) = (8 + b) := this
      omega
    have HW7 := hide (HW6.out.trans (hb.mono HW6.out.size))
    have HTM : Hid (∀ (mk : Nat) (r : Pg) (e : Int), 1 ≤ mk → mk ≤ 14 → DecP (mixL (⟨7, 1, 2, s⟩ : Pg).encL (⟨8 + b, 1, 2, s2⟩ : Pg).encL mk 4) 1 2 r e → e = 11) := hide (fun mk r e h1 h2 => torn_mix (mk := mk) (r := r) (e := e) hp7 hq7 (show (7 : Nat) < 18446744073709551616 by omega) (show (8 + b) < 18446744073709551616 by omega) (show (7 : Nat) ≠ (8 + b) by omega) h1 h2)
    have hga' : w.heap.size ≤ ga := Nat.le_trans HW6.out.size hga
    generalize (⟨7, 1, 2, s⟩ : Pg).encL = la at *
    generalize (⟨8 + b, 1, 2, s2⟩ : Pg).encL = lb at *
    have HA := hide HA
    have HB := hide HB
    have HAB := hide hab
    have HGA := hide hga'
    have HLA := hide hla
    have HLB := hide hlb
    have HM1 : Hid (1 ≤ z % 14 + 1 ∧ z % 14 + 1 ≤ 14) := hide (by omega)
    clear hb hga hgb hab hga' hla hlb hp7 hq7
    go_wp2
    have hmk : (z : Int) % 14 + 1 = ((z % 14 + 1 : Nat) : Int) := by omega
    rw [hmk]
    clear hmk
    generalize z % 14 + 1 = mk at *
    obtain ⟨i0, hi0, _, hz1, _⟩ := info_parts info8
    go_loopg [58] 4 (fun n i wr => ∃ k : Nat, k + n = 4 ∧ i = .int .i64 k ∧ Hid (Hold wr ga ca (mixL la lb mk k)) ∧ Hid (Hold wr gb cb lb) ∧ Hid (Below w.heap.size w wr))
    case atStart => exact ⟨0, by omega, rfl, HA, HB, HW7⟩
    case round =>
      obtain ⟨k, hk, rfl, ha, hbb, hbe⟩ := hrel
      cases gk with
      | zero =>
        obtain rfl : k = 4 := by omega
        have hlm := hide (mixL_length mk HLA.out HLB.out 4 (by omega))
        have hrm := hide (ha.out.rd hlm.out)
        go_wp2_with (go_at_call 15; (with_reducible refine (decode_12 _ _ _ hlm.out hrm.out).mono ?_); rintro e w8 ⟨qm, qt, qn, qs, e', rfl, hd, hb8⟩; obtain rfl := HTM.out mk _ _ HM1.out.1 HM1.out.2 hd; have HW8 := hide (hbe.out.trans (hb8.mono hbe.out.size)); clear hd hb8)
        go_ret
        exact ⟨rfl, HW8.out.alloc HW8.out.size _⟩
      | succ n =>
        have hlt : k < 4 := by omega
        have hbit := bit_i64 mk k HM1.out.2
        by_cases hb : mk.testBit k = true
        · rw [if_pos hb] at hbit
          have hlk := mixL_length mk HLA.out HLB.out k (by omega)
          have hca : 256 ≤ ca := rd_cap (ha.out.rd hlk)
          have hcb : 256 ≤ cb := rd_cap (hbb.out.rd HLB.out)
          have hsa := fun W => run_mid64 (g := ga) hca hlt W
          have hsb := fun W => run_mid64 (g := gb) hcb hlt W
          have hrs := hide (rd_seg hbb.out HLB.out hlt)
          have hnx : mixL la lb mk (k + 1) = over (mixL la lb mk k) (64 * k) ((lb.drop (64 * k)).take 64) := by show (if mk.testBit k = true then _ else _) = _; rw [if_pos hb]
          have HNX := hide hnx
          have hxl := hide (show ((lb.drop (64 * k)).take 64).length = 64 by rw [List.length_take, List.length_drop, HLB.out]; omega)
          have HLK := hide hlk
          have HKI := hide (show 0 ≤ (k : Int) ∧ (k : Int) < 4 by omega)
          clear hnx hb hlk
          go_wp2
          refine region_turns (G := Turns (· = ga)) [Word.is _ (.slice (some ⟨ga, 0, none⟩) 256 ca), Word.is _ (.int .i64 (k : Int)), Word.is _ (.int .i64 (64 * (k : Int))), Word.is _ (.int .i64 (k : Int)), Word.is _ (.int .i64 (64 * (k : Int))), Word.is _ (.int .i64 (64 * (k : Int) + 64)), Word.is _ (.slice (some ⟨ga, 64 * k, none⟩) 64 (ca - 64 * k)), Word.is _ (.slice (some ⟨gb, 0, none⟩) 256 cb), Word.is _ (.int .i64 (k : Int)), Word.is _ (.int .i64 (64 * (k : Int))), Word.is _ (.int .i64 (k : Int)), Word.is _ (.int .i64 (64 * (k : Int))), Word.is _ (.int .i64 (64 * (k : Int) + 64)), Word.is _ (.slice (some ⟨gb, 64 * k, none⟩) 64 (cb - 64 * k)), Word.is _ (.int .i64 (64 : Nat))] (fun L w => Hold w ga ca (if L 14 = true then (over (mixL la lb mk k) (64 * k) ((lb.drop (64 * k)).take 64)) else (mixL la lb mk k))) (Turns.refl _) Turns.trans (Turns.drew _) (by kernel_rfl) (by kernel_rfl) (by kernel_rfl) (by kernel_rfl) (fun L L' w h hS => by rw [← h 14 (by decide)]; exact hS) (by simpa using ha.out.drew) ?_ ?_
          · intro i o hoo L a w2 hb hS hLi hnot hyes hsz old dep
            match i, hoo with
            | 0, hoo =>
              obtain rfl := Option.some.inj hoo
              have o11 : a.tmps.getD 11 undef = _ := old 11 (by kernel_rfl)
              rw [if_pos (wanted_none rfl)]
              refine turn_same (Turns.refl _) (v := .slice (some ⟨ga, 0, none⟩) 256 ca) ?_ rfl (by simpa [also] using hS)
              clear old dep hoo hsz hb hS hLi hnot hyes
              go_simp
            | 1, hoo =>
              obtain rfl := Option.some.inj hoo
              have o13 : a.tmps.getD 13 undef = _ := old 13 (by kernel_rfl)
              rw [if_pos (wanted_none rfl)]
              refine turn_same (Turns.refl _) (v := .int .i64 (k : Int)) ?_ rfl (by simpa [also] using hS)
              clear old dep hoo hsz hb hS hLi hnot hyes
              go_simp
            | 2, hoo =>
              obtain rfl := Option.some.inj hoo
              have d1 : a.tmps.getD 67 undef = .int .i64 (k : Int) := dep 1 _ _ (by kernel_rfl) rfl rfl
              have e1 : a.tmps[67]?.getD undef = _ := (Array.getD_eq_getD_getElem? ..).symm.trans d1
              rw [if_pos (wanted_none rfl)]
              have hk4 := HKI.out
              have hwm : IntKind.i64.wrap (64 * (k : Int)) = 64 * (k : Int) := by rw [IntKind.wrap_i64]; omega
              have hwa : IntKind.i64.wrap (64 * (k : Int) + 64) = 64 * (k : Int) + 64 := by rw [IntKind.wrap_i64]; omega
              refine turn_same (Turns.refl _) (v := .int .i64 (64 * (k : Int))) ?_ rfl (by simpa [also] using hS)
              clear old dep hoo hsz hb hS hLi hnot hyes
              go_simp
            | 3, hoo =>
              obtain rfl := Option.some.inj hoo
              have o13 : a.tmps.getD 13 undef = _ := old 13 (by kernel_rfl)
              rw [if_pos (wanted_none rfl)]
              refine turn_same (Turns.refl _) (v := .int .i64 (k : Int)) ?_ rfl (by simpa [also] using hS)
              clear old dep hoo hsz hb hS hLi hnot hyes
              go_simp
            | 4, hoo =>
              obtain rfl := Option.some.inj hoo
              have d3 : a.tmps.getD 69 undef = .int .i64 (k : Int) := dep 3 _ _ (by kernel_rfl) rfl rfl
              have e3 : a.tmps[69]?.getD undef = _ := (Array.getD_eq_getD_getElem? ..).symm.trans d3
              rw [if_pos (wanted_none rfl)]
              have hk4 := HKI.out
              have hwm : IntKind.i64.wrap (64 * (k : Int)) = 64 * (k : Int) := by rw [IntKind.wrap_i64]; omega
              have hwa : IntKind.i64.wrap (64 * (k : Int) + 64) = 64 * (k : Int) + 64 := by rw [IntKind.wrap_i64]; omega
              refine turn_same (Turns.refl _) (v := .int .i64 (64 * (k : Int))) ?_ rfl (by simpa [also] using hS)
              clear old dep hoo hsz hb hS hLi hnot hyes
              go_simp
            | 5, hoo =>
              obtain rfl := Option.some.inj hoo
              have d4 : a.tmps.getD 70 undef = .int .i64 (64 * (k : Int)) := dep 4 _ _ (by kernel_rfl) rfl rfl
              have e4 : a.tmps[70]?.getD undef = _ := (Array.getD_eq_getD_getElem? ..).symm.trans d4
              rw [if_pos (wanted_none rfl)]
              have hk4 := HKI.out
              have hwm : IntKind.i64.wrap (64 * (k : Int)) = 64 * (k : Int) := by rw [IntKind.wrap_i64]; omega
              have hwa : IntKind.i64.wrap (64 * (k : Int) + 64) = 64 * (k : Int) + 64 := by rw [IntKind.wrap_i64]; omega
              refine turn_same (Turns.refl _) (v := .int .i64 (64 * (k : Int) + 64)) ?_ rfl (by simpa [also] using hS)
              clear old dep hoo hsz hb hS hLi hnot hyes
              go_simp
            | 6, hoo =>
              obtain rfl := Option.some.inj hoo
              have d0 : a.tmps.getD 66 undef = .slice (some ⟨ga, 0, none⟩) 256 ca := dep 0 _ _ (by kernel_rfl) rfl rfl
              have e0 : a.tmps[66]?.getD undef = _ := (Array.getD_eq_getD_getElem? ..).symm.trans d0
              have d2 : a.tmps.getD 68 undef = .int .i64 (64 * (k : Int)) := dep 2 _ _ (by kernel_rfl) rfl rfl
              have e2 : a.tmps[68]?.getD undef = _ := (Array.getD_eq_getD_getElem? ..).symm.trans d2
              have d5 : a.tmps.getD 71 undef = .int .i64 (64 * (k : Int) + 64) := dep 5 _ _ (by kernel_rfl) rfl rfl
              have e5 : a.tmps[71]?.getD undef = _ := (Array.getD_eq_getD_getElem? ..).symm.trans d5
              rw [if_pos (wanted_none rfl)]
              refine turn_same (Turns.refl _) (v := .slice (some ⟨ga, 64 * k, none⟩) 64 (ca - 64 * k)) ?_ rfl (by simpa [also] using hS)
              clear old dep hoo hsz hb hS hLi hnot hyes
              go_simp
            | 7, hoo =>
              obtain rfl := Option.some.inj hoo
              have o12 : a.tmps.getD 12 undef = _ := old 12 (by kernel_rfl)
              rw [if_pos (wanted_none rfl)]
              refine turn_same (Turns.refl _) (v := .slice (some ⟨gb, 0, none⟩) 256 cb) ?_ rfl (by simpa [also] using hS)
              clear old dep hoo hsz hb hS hLi hnot hyes
              go_simp
            | 8, hoo =>
              obtain rfl := Option.some.inj hoo
              have o13 : a.tmps.getD 13 undef = _ := old 13 (by kernel_rfl)
              rw [if_pos (wanted_none rfl)]
              refine turn_same (Turns.refl _) (v := .int .i64 (k : Int)) ?_ rfl (by simpa [also] using hS)
              clear old dep hoo hsz hb hS hLi hnot hyes
              go_simp
            | 9, hoo =>
              obtain rfl := Option.some.inj hoo
              have d8 : a.tmps.getD 74 undef = .int .i64 (k : Int) := dep 8 _ _ (by kernel_rfl) rfl rfl
              have e8 : a.tmps[74]?.getD undef = _ := (Array.getD_eq_getD_getElem? ..).symm.trans d8
              rw [if_pos (wanted_none rfl)]
              have hk4 := HKI.out
              have hwm : IntKind.i64.wrap (64 * (k : Int)) = 64 * (k : Int) := by rw [IntKind.wrap_i64]; omega
              have hwa : IntKind.i64.wrap (64 * (k : Int) + 64) = 64 * (k : Int) + 64 := by rw [IntKind.wrap_i64]; omega
              refine turn_same (Turns.refl _) (v := .int .i64 (64 * (k : Int))) ?_ rfl (by simpa [also] using hS)
              clear old dep hoo hsz hb hS hLi hnot hyes
              go_simp
            | 10, hoo =>
              obtain rfl := Option.some.inj hoo
              have o13 : a.tmps.getD 13 undef = _ := old 13 (by kernel_rfl)
              rw [if_pos (wanted_none rfl)]
              refine turn_same (Turns.refl _) (v := .int .i64 (k : Int)) ?_ rfl (by simpa [also] using hS)
              clear old dep hoo hsz hb hS hLi hnot hyes
              go_simp
            | 11, hoo =>
              obtain rfl := Option.some.inj hoo
              have d10 : a.tmps.getD 76 undef = .int .i64 (k : Int) := dep 10 _ _ (by kernel_rfl) rfl rfl
              have e10 : a.tmps[76]?.getD undef = _ := (Array.getD_eq_getD_getElem? ..).symm.trans d10
              rw [if_pos (wanted_none rfl)]
              have hk4 := HKI.out
              have hwm : IntKind.i64.wrap (64 * (k : Int)) = 64 * (k : Int) := by rw [IntKind.wrap_i64]; omega
              have hwa : IntKind.i64.wrap (64 * (k : Int) + 64) = 64 * (k : Int) + 64 := by rw [IntKind.wrap_i64]; omega
              refine turn_same (Turns.refl _) (v := .int .i64 (64 * (k : Int))) ?_ rfl (by simpa [also] using hS)
              clear old dep hoo hsz hb hS hLi hnot hyes
              go_simp
            | 12, hoo =>
              obtain rfl := Option.some.inj hoo
              have d11 : a.tmps.getD 77 undef = .int .i64 (64 * (k : Int)) := dep 11 _ _ (by kernel_rfl) rfl rfl
              have e11 : a.tmps[77]?.getD undef = _ := (Array.getD_eq_getD_getElem? ..).symm.trans d11
              rw [if_pos (wanted_none rfl)]
              have hk4 := HKI.out
              have hwm : IntKind.i64.wrap (64 * (k : Int)) = 64 * (k : Int) := by rw [IntKind.wrap_i64]; omega
              have hwa : IntKind.i64.wrap (64 * (k : Int) + 64) = 64 * (k : Int) + 64 := by rw [IntKind.wrap_i64]; omega
              refine turn_same (Turns.refl _) (v := .int .i64 (64 * (k : Int) + 64)) ?_ rfl (by simpa [also] using hS)
              clear old dep hoo hsz hb hS hLi hnot hyes
              go_simp
            | 13, hoo =>
              obtain rfl := Option.some.inj hoo
              have d7 : a.tmps.getD 73 undef = .slice (some ⟨gb, 0, none⟩) 256 cb := dep 7 _ _ (by kernel_rfl) rfl rfl
              have e7 : a.tmps[73]?.getD undef = _ := (Array.getD_eq_getD_getElem? ..).symm.trans d7
              have d9 : a.tmps.getD 75 undef = .int .i64 (64 * (k : Int)) := dep 9 _ _ (by kernel_rfl) rfl rfl
              have e9 : a.tmps[75]?.getD undef = _ := (Array.getD_eq_getD_getElem? ..).symm.trans d9
              have d12 : a.tmps.getD 78 undef = .int .i64 (64 * (k : Int) + 64) := dep 12 _ _ (by kernel_rfl) rfl rfl
              have e12 : a.tmps[78]?.getD undef = _ := (Array.getD_eq_getD_getElem? ..).symm.trans d12
              rw [if_pos (wanted_none rfl)]
              refine turn_same (Turns.refl _) (v := .slice (some ⟨gb, 64 * k, none⟩) 64 (cb - 64 * k)) ?_ rfl (by simpa [also] using hS)
              clear old dep hoo hsz hb hS hLi hnot hyes
              go_simp
            | 14, hoo =>
              obtain rfl := Option.some.inj hoo
              have d6 : a.tmps.getD 72 undef = .slice (some ⟨ga, 64 * k, none⟩) 64 (ca - 64 * k) := dep 6 _ _ (by kernel_rfl) rfl rfl
              have e6 : a.tmps[72]?.getD undef = _ := (Array.getD_eq_getD_getElem? ..).symm.trans d6
              have d13 : a.tmps.getD 79 undef = .slice (some ⟨gb, 64 * k, none⟩) 64 (cb - 64 * k) := dep 13 _ _ (by kernel_rfl) rfl rfl
              have e13 : a.tmps[79]?.getD undef = _ := (Array.getD_eq_getD_getElem? ..).symm.trans d13
              rw [if_pos (wanted_none rfl)]
              have hS' : Hold w2 ga ca (mixL la lb mk k) := by simpa [hLi] using hS
              obtain ⟨w', hr, h2, h3⟩ := run_copy_on (P := Try.prog) 31 31 3 i0 Try.underlying31 hi0 hz1 (n := 64) (c := ca - 64 * k) (off := 64 * k) hS' (rd_seg (hbb.out.turns hb (fun e => HAB.out e.symm)) HLB.out hlt) hxl.out rfl (by rw [HLK.out]; omega)
              exact wp_copy_run (.tmp 72) (.tmp 79) 31 31 rfl _ _ d6 d13 _ w' hr ⟨_, rfl, rfl, by simpa [also] using h2, h3⟩
            | i + 15, hoo => exact absurd hoo (by simp)
          · intro a w8 ht8 hh8 hsz hdf fin keep
            obtain ⟨tm, df⟩ := a
            have hx := frame_of [66, 67, 68, 69, 70, 71, 72, 73, 74, 75, 76, 77, 78, 79, 80] (by kernel_rfl) hsz keep
            dsimp only at hdf hx
            simp only [List.foldl_cons, List.foldl_nil] at hx
            subst hdf
            clear hsz keep
            have kn : tm.getD 66 undef = .slice (some ⟨ga, 0, none⟩) 256 ca := fin 0 _ _ rfl rfl
            rw [kn] at hx
            clear kn
            have kn : tm.getD 67 undef = .int .i64 (k : Int) := fin 1 _ _ rfl rfl
            rw [kn] at hx
            clear kn
            have kn : tm.getD 68 undef = .int .i64 (64 * (k : Int)) := fin 2 _ _ rfl rfl
            rw [kn] at hx
            clear kn
            have kn : tm.getD 69 undef = .int .i64 (k : Int) := fin 3 _ _ rfl rfl
            rw [kn] at hx
            clear kn
            have kn : tm.getD 70 undef = .int .i64 (64 * (k : Int)) := fin 4 _ _ rfl rfl
            rw [kn] at hx
            clear kn
            have kn : tm.getD 71 undef = .int .i64 (64 * (k : Int) + 64) := fin 5 _ _ rfl rfl
            rw [kn] at hx
            clear kn
            have kn : tm.getD 72 undef = .slice (some ⟨ga, 64 * k, none⟩) 64 (ca - 64 * k) := fin 6 _ _ rfl rfl
            rw [kn] at hx
            clear kn
            have kn : tm.getD 73 undef = .slice (some ⟨gb, 0, none⟩) 256 cb := fin 7 _ _ rfl rfl
            rw [kn] at hx
            clear kn
            have kn : tm.getD 74 undef = .int .i64 (k : Int) := fin 8 _ _ rfl rfl
            rw [kn] at hx
            clear kn
            have kn : tm.getD 75 undef = .int .i64 (64 * (k : Int)) := fin 9 _ _ rfl rfl
            rw [kn] at hx
            clear kn
            have kn : tm.getD 76 undef = .int .i64 (k : Int) := fin 10 _ _ rfl rfl
            rw [kn] at hx
            clear kn
            have kn : tm.getD 77 undef = .int .i64 (64 * (k : Int)) := fin 11 _ _ rfl rfl
            rw [kn] at hx
            clear kn
            have kn : tm.getD 78 undef = .int .i64 (64 * (k : Int) + 64) := fin 12 _ _ rfl rfl
            rw [kn] at hx
            clear kn
            have kn : tm.getD 79 undef = .slice (some ⟨gb, 64 * k, none⟩) 64 (cb - 64 * k) := fin 13 _ _ rfl rfl
            rw [kn] at hx
            clear kn
            have kn : tm.getD 80 undef = .int .i64 (64 : Nat) := fin 14 _ _ rfl rfl
            rw [kn] at hx
            clear kn
            clear fin
            simp only [List.setIfInBounds_toArray, List.set_cons_succ, List.set_cons_zero] at hx
            subst hx
            rw [if_pos rfl, ← HNX.out] at hh8
            have hbb8 := hide (hbb.out.turns ht8 (fun e => HAB.out e.symm))
            have hbe8 := hide (hbe.out.trans (ht8.below hbe.out.size (by rintro q rfl; exact HGA.out)))
            have ha8 := hide hh8
            clear hh8 ht8 hsa hsb
            go_wp2
            go_roundg n
            case rel => exact ⟨k + 1, by omega, by go_num, ha8, hbb8, hbe8⟩
            case measure => omega
        · rw [if_neg hb] at hbit
          have hnx : mixL la lb mk (k + 1) = mixL la lb mk k := by show (if mk.testBit k = true then _ else _) = _; rw [if_neg hb]
          have HNX := hide hnx
          clear hnx hb
          go_wp2
          go_roundg n
          case rel => exact ⟨k + 1, by omega, by go_num, by rw [HNX.out]; exact ha, hbb, hbe⟩
          case measure => omega
theorem enc_0h {B : Nat} (s : Nat → ByteArray) (w : World) (hs : ∀ j, j < 5 → okB (s j) = true) (hB : B ≤ w.heap.size) :
    Calls Try.prog 14 #[.agg #[.int .u64 0, .int .i64 1, .int .i64 2, .string (s 0), .string (s 1), .string (s 2), .string (s 3), .string (s 4)]] w fun e w' => ∃ v, e = .returned v ∧ (Say.hold B (⟨0, 1, 2, s⟩ : Pg).encL).p w' v ∧ Below w.heap.size w w' :=
  enc_hold (B := B) 0 1 2 s w hs (by omega) (by omega) hB
theorem all_c0 {w : World} {g : Nat} {s : Nat → ByteArray} (h : PgB w g ⟨0, 1, 2, s⟩) : w.cell? ⟨g, 0, none⟩ = some (.int .u64 0) ∧ w.cell? ⟨g, 1, none⟩ = some (.int .i64 1) ∧ w.cell? ⟨g, 2, none⟩ = some (.int .i64 2) ∧
    w.cell? ⟨g, 3, none⟩ = some (.string (s 0)) ∧ w.cell? ⟨g, 4, none⟩ = some (.string (s 1)) ∧ w.cell? ⟨g, 5, none⟩ = some (.string (s 2)) ∧ w.cell? ⟨g, 6, none⟩ = some (.string (s 3)) ∧ w.cell? ⟨g, 7, none⟩ = some (.string (s 4)) := h.all
set_option maxRecDepth 20000 in
set_option maxHeartbeats 2000000 in
theorem torn_0 (v : Value) (rs : List RowD) (v2 : Value) (rs2 : List RowD) (y : Int) (w : World) (hv : RowRow w w.heap.size v rs) (hv2 : RowRow w w.heap.size v2 rs2) (hl : lightsB rs = true) (hl2 : lightsB rs2 = true) (h32 : 0 < bits .and .i64 y 32) :
    Calls Try.prog 4 #[v, v2, .int .i64 y] w fun e w' => e = .returned (.bool true) ∧ Below w.heap.size w w' := by
  obtain ⟨b, hbn, hbi⟩ : ∃ b : Nat, b < 2 ∧ bits .and .i64 y 1 = (b : Int) := andn 2 1 rfl (by omega) y
  obtain ⟨z, hz, hzi⟩ : ∃ z : Nat, z < 16 ∧ bits .and .i64 y 15 = (z : Int) := andn 16 4 rfl (by omega) y
  have V0 := hide (RIn.start hv)
  have U0 := hide (RIn.start hv2)
  clear hv hv2
  go_enter Try.func4, Try.ntmps4
  go_wp2_with (first
    | (go_at_call 11; (with_reducible refine (fit_any _).mono ?_); rintro e w1 ⟨rfl, hb1⟩; have V1 := hide (V0.out.below hb1); have U1 := hide (U0.out.below hb1); clear hb1)
    | (go_at_call 12; (with_reducible refine (light_told true v rs _ V1.out.row hl).mono ?_); rintro e w2 ⟨rfl, hb2⟩; have V2 := hide (V1.out.below hb2); have U2 := hide (U1.out.below hb2); clear hb2)
    | (go_at_call 12; (with_reducible refine (light_told true v2 rs2 _ U2.out.row hl2).mono ?_); rintro e w3 ⟨rfl, hb3⟩; have V3 := hide (V2.out.below hb3); have U3 := hide (U2.out.below hb3); clear hb3)
    | (go_at_call 13; (with_reducible refine (fill_c7 v rs _ hl V3.out.row).mono ?_); rintro e w4 ⟨g, gm, s, rfl, hF, hs⟩; have HF4 := hide hF; have HS := hide hs; have U4 := hide (U3.out.below (hF.bel)); clear hF hs)
    | (go_at_call 13; (with_reducible refine (fill_8b hbn v2 rs2 _ hl2 U4.out.row).mono ?_); rintro e w5 ⟨g2, gm2, s2, rfl, hF, hs⟩; have HG5 := hide hF; have HS2 := hide hs; have HF5 := hide (HF4.out.below hF.bel); have HW5 := hide (U4.out.bel.trans (hF.bel.mono U4.out.bel.size)); have c0 := hF.pg.markC; have cf := hF.pg.frozen 0; have HNE := hide (show g ≠ g2 by have := HF4.out.pg.lt; have := hF.2.2.2.1; omega); have HG2 := hide (show w.heap.size ≤ g2 from Nat.le_trans U4.out.bel.size hF.2.2.2.1); clear hF hs))
  have PP := hide (HF5.out.pg.far (a := ⟨g2, 0, none⟩) (HNE.out) (.int .u64 0))
  have QQ : Hid (PgB (w5.setCell ⟨g2, 0, none⟩ (.int .u64 0)) g2 ⟨0, 1, 2, s2⟩) := hide (HG5.out.pg.set_mark 0)
  have HW6 := hide (HW5.out.setCell (p := ⟨g2, 0, none⟩) HG2.out (.int .u64 0))
  generalize hw6 : w5.setCell ⟨g2, 0, none⟩ (.int .u64 0) = w6 at *
  clear hw6
  refine region_grows [Say.is (.pointer (some ⟨g, 0, none⟩)), Say.is (.pointer (some ⟨g, 0, none⟩)), Say.is (.agg #[.int .u64 7, .int .i64 1, .int .i64 2, .string (s 0), .string (s 1), .string (s 2), .string (s 3), .string (s 4)]), Say.hold w6.heap.size (⟨7, 1, 2, s⟩ : Pg).encL, Say.is (.pointer (some ⟨g2, 0, none⟩)), Say.is (.pointer (some ⟨g2, 0, none⟩)), Say.is (.agg #[.int .u64 0, .int .i64 1, .int .i64 2, .string (s2 0), .string (s2 1), .string (s2 2), .string (s2 3), .string (s2 4)]), Say.hold w6.heap.size (⟨0, 1, 2, s2⟩ : Pg).encL, Say.hold w6.heap.size (⟨7, 1, 2, s⟩ : Pg).encL, Say.hold w6.heap.size (⟨0, 1, 2, s2⟩ : Pg).encL] (by kernel_rfl) (by kernel_rfl) (by kernel_rfl) (by kernel_rfl) ?_ ?_
  · intro i o ho a w2 hb hsz old dep
    match i, ho with
    | 0, ho =>
      obtain rfl := Option.some.inj ho
      have o7 : a.tmps.getD 7 undef = _ := old 7 (by kernel_rfl)
      rw [if_pos (wanted_none rfl)]
      refine grow_same (v := .pointer (some ⟨g, 0, none⟩)) ?_ rfl
      clear old dep ho hsz hb
      go_simp
    | 1, ho =>
      obtain rfl := Option.some.inj ho
      have d0 : a.tmps.getD 46 undef = .pointer (some ⟨g, 0, none⟩) := dep 0 _ _ (by kernel_rfl) rfl rfl
      have e0 : a.tmps[46]?.getD undef = _ := (Array.getD_eq_getD_getElem? ..).symm.trans d0
      rw [if_pos (wanted_none rfl)]
      refine grow_same (v := .pointer (some ⟨g, 0, none⟩)) ?_ rfl
      clear old dep ho hsz hb
      go_simp
    | 2, ho =>
      obtain rfl := Option.some.inj ho
      have d1 : a.tmps.getD 47 undef = .pointer (some ⟨g, 0, none⟩) := dep 1 _ _ (by kernel_rfl) rfl rfl
      have e1 : a.tmps[47]?.getD undef = _ := (Array.getD_eq_getD_getElem? ..).symm.trans d1
      rw [if_pos (wanted_none rfl)]
      obtain ⟨g0, g1, g2', g3, g4, g5, g6, g7⟩ := all_c7 (PP.out.below hb)
      refine grow_same (v := .agg #[.int .u64 7, .int .i64 1, .int .i64 2, .string (s 0), .string (s 1), .string (s 2), .string (s 3), .string (s 4)]) ?_ rfl
      clear old dep ho hsz hb
      go_simp
    | 3, ho =>
      obtain rfl := Option.some.inj ho
      have d2 : a.tmps.getD 48 undef = .agg #[.int .u64 7, .int .i64 1, .int .i64 2, .string (s 0), .string (s 1), .string (s 2), .string (s 3), .string (s 4)] := dep 2 _ _ (by kernel_rfl) rfl rfl
      have e2 : a.tmps[48]?.getD undef = _ := (Array.getD_eq_getD_getElem? ..).symm.trans d2
      rw [if_pos (wanted_none rfl)]
      refine grow_enters (f := 14) (args := #[.agg #[.int .u64 7, .int .i64 1, .int .i64 2, .string (s 0), .string (s 1), .string (s 2), .string (s 3), .string (s 4)]]) ?_ (enc_hold 7 1 2 s _ HS.out (by omega) (by omega) hb.size)
      clear old dep ho hsz hb
      go_simp
    | 4, ho =>
      obtain rfl := Option.some.inj ho
      have o9 : a.tmps.getD 9 undef = _ := old 9 (by kernel_rfl)
      rw [if_pos (wanted_none rfl)]
      refine grow_same (v := .pointer (some ⟨g2, 0, none⟩)) ?_ rfl
      clear old dep ho hsz hb
      go_simp
    | 5, ho =>
      obtain rfl := Option.some.inj ho
      have d4 : a.tmps.getD 50 undef = .pointer (some ⟨g2, 0, none⟩) := dep 4 _ _ (by kernel_rfl) rfl rfl
      have e4 : a.tmps[50]?.getD undef = _ := (Array.getD_eq_getD_getElem? ..).symm.trans d4
      rw [if_pos (wanted_none rfl)]
      refine grow_same (v := .pointer (some ⟨g2, 0, none⟩)) ?_ rfl
      clear old dep ho hsz hb
      go_simp
    | 6, ho =>
      obtain rfl := Option.some.inj ho
      have d5 : a.tmps.getD 51 undef = .pointer (some ⟨g2, 0, none⟩) := dep 5 _ _ (by kernel_rfl) rfl rfl
      have e5 : a.tmps[51]?.getD undef = _ := (Array.getD_eq_getD_getElem? ..).symm.trans d5
      rw [if_pos (wanted_none rfl)]
      obtain ⟨g0, g1, g2', g3, g4, g5, g6, g7⟩ := all_c0 (QQ.out.below hb)
      refine grow_same (v := .agg #[.int .u64 0, .int .i64 1, .int .i64 2, .string (s2 0), .string (s2 1), .string (s2 2), .string (s2 3), .string (s2 4)]) ?_ rfl
      clear old dep ho hsz hb
      go_simp
    | 7, ho =>
      obtain rfl := Option.some.inj ho
      have d6 : a.tmps.getD 52 undef = .agg #[.int .u64 0, .int .i64 1, .int .i64 2, .string (s2 0), .string (s2 1), .string (s2 2), .string (s2 3), .string (s2 4)] := dep 6 _ _ (by kernel_rfl) rfl rfl
      have e6 : a.tmps[52]?.getD undef = _ := (Array.getD_eq_getD_getElem? ..).symm.trans d6
      rw [if_pos (wanted_none rfl)]
      refine grow_enters (f := 14) (args := #[.agg #[.int .u64 0, .int .i64 1, .int .i64 2, .string (s2 0), .string (s2 1), .string (s2 2), .string (s2 3), .string (s2 4)]]) ?_ (enc_0h s2 _ HS2.out hb.size)
      clear old dep ho hsz hb
      go_simp
    | 8, ho =>
      obtain rfl := Option.some.inj ho
      have s3 : (Say.hold w6.heap.size (⟨7, 1, 2, s⟩ : Pg).encL).p w2 (a.tmps.getD 49 undef) := dep 3 _ _ (by kernel_rfl) rfl rfl
      rw [if_pos (wanted_none rfl)]
      refine grow_same (v := a.tmps.getD 49 undef) ?_ s3
      clear old dep ho hsz hb
      go_simp
    | 9, ho =>
      obtain rfl := Option.some.inj ho
      have s7 : (Say.hold w6.heap.size (⟨0, 1, 2, s2⟩ : Pg).encL).p w2 (a.tmps.getD 53 undef) := dep 7 _ _ (by kernel_rfl) rfl rfl
      rw [if_pos (wanted_none rfl)]
      refine grow_same (v := a.tmps.getD 53 undef) ?_ s7
      clear old dep ho hsz hb
      go_simp
    | i + 10, ho => exact absurd ho (by simp)
  · intro a w7 hb hsz hdf fin keep
    obtain ⟨tm, df⟩ := a
    have hx := frame_of [46, 47, 48, 49, 50, 51, 52, 53, 11, 12] (by kernel_rfl) hsz keep
    dsimp only at hdf hx
    simp only [List.foldl_cons, List.foldl_nil] at hx
    subst hdf
    clear hsz keep
    have kn : tm.getD 46 undef = .pointer (some ⟨g, 0, none⟩) := fin 0 _ _ rfl rfl
    rw [kn] at hx
    clear kn
    have kn : tm.getD 47 undef = .pointer (some ⟨g, 0, none⟩) := fin 1 _ _ rfl rfl
    rw [kn] at hx
    clear kn
    have kn : tm.getD 48 undef = .agg #[.int .u64 7, .int .i64 1, .int .i64 2, .string (s 0), .string (s 1), .string (s 2), .string (s 3), .string (s 4)] := fin 2 _ _ rfl rfl
    rw [kn] at hx
    clear kn
    generalize tm.getD 49 undef = y49 at hx
    have kn : tm.getD 50 undef = .pointer (some ⟨g2, 0, none⟩) := fin 4 _ _ rfl rfl
    rw [kn] at hx
    clear kn
    have kn : tm.getD 51 undef = .pointer (some ⟨g2, 0, none⟩) := fin 5 _ _ rfl rfl
    rw [kn] at hx
    clear kn
    have kn : tm.getD 52 undef = .agg #[.int .u64 0, .int .i64 1, .int .i64 2, .string (s2 0), .string (s2 1), .string (s2 2), .string (s2 3), .string (s2 4)] := fin 6 _ _ rfl rfl
    rw [kn] at hx
    clear kn
    generalize tm.getD 53 undef = y53 at hx
    have S11 : (Say.hold w6.heap.size (⟨7, 1, 2, s⟩ : Pg).encL).p w7 (tm.getD 11 undef) := fin 8 _ _ rfl rfl
    generalize tm.getD 11 undef = y11 at hx S11
    have S12 : (Say.hold w6.heap.size (⟨0, 1, 2, s2⟩ : Pg).encL).p w7 (tm.getD 12 undef) := fin 9 _ _ rfl rfl
    generalize tm.getD 12 undef = y12 at hx S12
    clear fin
    simp only [List.setIfInBounds_toArray, List.set_cons_succ, List.set_cons_zero] at hx
    subst hx
    obtain ⟨ga, ca, rfl, hga, HA⟩ := S11
    obtain ⟨gb, cb, rfl, hgb, HB⟩ := S12
    have hp7 : (⟨7, 1, 2, s⟩ : Pg).sized := fun j hj => okB_size (HS.out j hj)
    have hq7 : (⟨0, 1, 2, s2⟩ : Pg).sized := fun j hj => okB_size (HS2.out j hj)
    have hla := Pg.encL_length hp7
    have hlb := Pg.encL_length hq7
    have hab : ga ≠ gb := by
      rintro rfl
      have e := hold_apart HA HB (hla.trans hlb.symm)
      have e1 := enc_mark _ hp7 0 (by omega)
      have e2 := enc_mark _ hq7 0 (by omega)
      rw [e] at e1
      have := be8_inj (show (7 : Nat) < 18446744073709551616 by omega) (show 0 < 18446744073709551616 by omega) (e1.symm.trans e2)
      have h7 : (7 : Nat) = 0 := this
      omega
    have HW7 := hide (HW6.out.trans (hb.mono HW6.out.size))
    have HTM : Hid (∀ (mk : Nat) (r : Pg) (e : Int), 1 ≤ mk → mk ≤ 14 → DecP (mixL (⟨7, 1, 2, s⟩ : Pg).encL (⟨0, 1, 2, s2⟩ : Pg).encL mk 4) 1 2 r e → e = 11) := hide (fun mk r e h1 h2 => torn_mix (mk := mk) (r := r) (e := e) hp7 hq7 (show (7 : Nat) < 18446744073709551616 by omega) (show 0 < 18446744073709551616 by omega) (show (7 : Nat) ≠ 0 by omega) h1 h2)
    have hga' : w.heap.size ≤ ga := Nat.le_trans HW6.out.size hga
    generalize (⟨7, 1, 2, s⟩ : Pg).encL = la at *
    generalize (⟨0, 1, 2, s2⟩ : Pg).encL = lb at *
    have HA := hide HA
    have HB := hide HB
    have HAB := hide hab
    have HGA := hide hga'
    have HLA := hide hla
    have HLB := hide hlb
    have HM1 : Hid (1 ≤ z % 14 + 1 ∧ z % 14 + 1 ≤ 14) := hide (by omega)
    clear hb hga hgb hab hga' hla hlb hp7 hq7
    go_wp2
    have hmk : (z : Int) % 14 + 1 = ((z % 14 + 1 : Nat) : Int) := by omega
    rw [hmk]
    clear hmk
    generalize z % 14 + 1 = mk at *
    obtain ⟨i0, hi0, _, hz1, _⟩ := info_parts info8
    go_loopg [58] 4 (fun n i wr => ∃ k : Nat, k + n = 4 ∧ i = .int .i64 k ∧ Hid (Hold wr ga ca (mixL la lb mk k)) ∧ Hid (Hold wr gb cb lb) ∧ Hid (Below w.heap.size w wr))
    case atStart => exact ⟨0, by omega, rfl, HA, HB, HW7⟩
    case round =>
      obtain ⟨k, hk, rfl, ha, hbb, hbe⟩ := hrel
      cases gk with
      | zero =>
        obtain rfl : k = 4 := by omega
        have hlm := hide (mixL_length mk HLA.out HLB.out 4 (by omega))
        have hrm := hide (ha.out.rd hlm.out)
        go_wp2_with (go_at_call 15; (with_reducible refine (decode_12 _ _ _ hlm.out hrm.out).mono ?_); rintro e w8 ⟨qm, qt, qn, qs, e', rfl, hd, hb8⟩; obtain rfl := HTM.out mk _ _ HM1.out.1 HM1.out.2 hd; have HW8 := hide (hbe.out.trans (hb8.mono hbe.out.size)); clear hd hb8)
        go_ret
        exact ⟨rfl, HW8.out.alloc HW8.out.size _⟩
      | succ n =>
        have hlt : k < 4 := by omega
        have hbit := bit_i64 mk k HM1.out.2
        by_cases hb : mk.testBit k = true
        · rw [if_pos hb] at hbit
          have hlk := mixL_length mk HLA.out HLB.out k (by omega)
          have hca : 256 ≤ ca := rd_cap (ha.out.rd hlk)
          have hcb : 256 ≤ cb := rd_cap (hbb.out.rd HLB.out)
          have hsa := fun W => run_mid64 (g := ga) hca hlt W
          have hsb := fun W => run_mid64 (g := gb) hcb hlt W
          have hrs := hide (rd_seg hbb.out HLB.out hlt)
          have hnx : mixL la lb mk (k + 1) = over (mixL la lb mk k) (64 * k) ((lb.drop (64 * k)).take 64) := by show (if mk.testBit k = true then _ else _) = _; rw [if_pos hb]
          have HNX := hide hnx
          have hxl := hide (show ((lb.drop (64 * k)).take 64).length = 64 by rw [List.length_take, List.length_drop, HLB.out]; omega)
          have HLK := hide hlk
          have HKI := hide (show 0 ≤ (k : Int) ∧ (k : Int) < 4 by omega)
          clear hnx hb hlk
          go_wp2
          refine region_turns (G := Turns (· = ga)) [Word.is _ (.slice (some ⟨ga, 0, none⟩) 256 ca), Word.is _ (.int .i64 (k : Int)), Word.is _ (.int .i64 (64 * (k : Int))), Word.is _ (.int .i64 (k : Int)), Word.is _ (.int .i64 (64 * (k : Int))), Word.is _ (.int .i64 (64 * (k : Int) + 64)), Word.is _ (.slice (some ⟨ga, 64 * k, none⟩) 64 (ca - 64 * k)), Word.is _ (.slice (some ⟨gb, 0, none⟩) 256 cb), Word.is _ (.int .i64 (k : Int)), Word.is _ (.int .i64 (64 * (k : Int))), Word.is _ (.int .i64 (k : Int)), Word.is _ (.int .i64 (64 * (k : Int))), Word.is _ (.int .i64 (64 * (k : Int) + 64)), Word.is _ (.slice (some ⟨gb, 64 * k, none⟩) 64 (cb - 64 * k)), Word.is _ (.int .i64 (64 : Nat))] (fun L w => Hold w ga ca (if L 14 = true then (over (mixL la lb mk k) (64 * k) ((lb.drop (64 * k)).take 64)) else (mixL la lb mk k))) (Turns.refl _) Turns.trans (Turns.drew _) (by kernel_rfl) (by kernel_rfl) (by kernel_rfl) (by kernel_rfl) (fun L L' w h hS => by rw [← h 14 (by decide)]; exact hS) (by simpa using ha.out.drew) ?_ ?_
          · intro i o hoo L a w2 hb hS hLi hnot hyes hsz old dep
            match i, hoo with
            | 0, hoo =>
              obtain rfl := Option.some.inj hoo
              have o11 : a.tmps.getD 11 undef = _ := old 11 (by kernel_rfl)
              rw [if_pos (wanted_none rfl)]
              refine turn_same (Turns.refl _) (v := .slice (some ⟨ga, 0, none⟩) 256 ca) ?_ rfl (by simpa [also] using hS)
              clear old dep hoo hsz hb hS hLi hnot hyes
              go_simp
            | 1, hoo =>
              obtain rfl := Option.some.inj hoo
              have o13 : a.tmps.getD 13 undef = _ := old 13 (by kernel_rfl)
              rw [if_pos (wanted_none rfl)]
              refine turn_same (Turns.refl _) (v := .int .i64 (k : Int)) ?_ rfl (by simpa [also] using hS)
              clear old dep hoo hsz hb hS hLi hnot hyes
              go_simp
            | 2, hoo =>
              obtain rfl := Option.some.inj hoo
              have d1 : a.tmps.getD 67 undef = .int .i64 (k : Int) := dep 1 _ _ (by kernel_rfl) rfl rfl
              have e1 : a.tmps[67]?.getD undef = _ := (Array.getD_eq_getD_getElem? ..).symm.trans d1
              rw [if_pos (wanted_none rfl)]
              have hk4 := HKI.out
              have hwm : IntKind.i64.wrap (64 * (k : Int)) = 64 * (k : Int) := by rw [IntKind.wrap_i64]; omega
              have hwa : IntKind.i64.wrap (64 * (k : Int) + 64) = 64 * (k : Int) + 64 := by rw [IntKind.wrap_i64]; omega
              refine turn_same (Turns.refl _) (v := .int .i64 (64 * (k : Int))) ?_ rfl (by simpa [also] using hS)
              clear old dep hoo hsz hb hS hLi hnot hyes
              go_simp
            | 3, hoo =>
              obtain rfl := Option.some.inj hoo
              have o13 : a.tmps.getD 13 undef = _ := old 13 (by kernel_rfl)
              rw [if_pos (wanted_none rfl)]
              refine turn_same (Turns.refl _) (v := .int .i64 (k : Int)) ?_ rfl (by simpa [also] using hS)
              clear old dep hoo hsz hb hS hLi hnot hyes
              go_simp
            | 4, hoo =>
              obtain rfl := Option.some.inj hoo
              have d3 : a.tmps.getD 69 undef = .int .i64 (k : Int) := dep 3 _ _ (by kernel_rfl) rfl rfl
              have e3 : a.tmps[69]?.getD undef = _ := (Array.getD_eq_getD_getElem? ..).symm.trans d3
              rw [if_pos (wanted_none rfl)]
              have hk4 := HKI.out
              have hwm : IntKind.i64.wrap (64 * (k : Int)) = 64 * (k : Int) := by rw [IntKind.wrap_i64]; omega
              have hwa : IntKind.i64.wrap (64 * (k : Int) + 64) = 64 * (k : Int) + 64 := by rw [IntKind.wrap_i64]; omega
              refine turn_same (Turns.refl _) (v := .int .i64 (64 * (k : Int))) ?_ rfl (by simpa [also] using hS)
              clear old dep hoo hsz hb hS hLi hnot hyes
              go_simp
            | 5, hoo =>
              obtain rfl := Option.some.inj hoo
              have d4 : a.tmps.getD 70 undef = .int .i64 (64 * (k : Int)) := dep 4 _ _ (by kernel_rfl) rfl rfl
              have e4 : a.tmps[70]?.getD undef = _ := (Array.getD_eq_getD_getElem? ..).symm.trans d4
              rw [if_pos (wanted_none rfl)]
              have hk4 := HKI.out
              have hwm : IntKind.i64.wrap (64 * (k : Int)) = 64 * (k : Int) := by rw [IntKind.wrap_i64]; omega
              have hwa : IntKind.i64.wrap (64 * (k : Int) + 64) = 64 * (k : Int) + 64 := by rw [IntKind.wrap_i64]; omega
              refine turn_same (Turns.refl _) (v := .int .i64 (64 * (k : Int) + 64)) ?_ rfl (by simpa [also] using hS)
              clear old dep hoo hsz hb hS hLi hnot hyes
              go_simp
            | 6, hoo =>
              obtain rfl := Option.some.inj hoo
              have d0 : a.tmps.getD 66 undef = .slice (some ⟨ga, 0, none⟩) 256 ca := dep 0 _ _ (by kernel_rfl) rfl rfl
              have e0 : a.tmps[66]?.getD undef = _ := (Array.getD_eq_getD_getElem? ..).symm.trans d0
              have d2 : a.tmps.getD 68 undef = .int .i64 (64 * (k : Int)) := dep 2 _ _ (by kernel_rfl) rfl rfl
              have e2 : a.tmps[68]?.getD undef = _ := (Array.getD_eq_getD_getElem? ..).symm.trans d2
              have d5 : a.tmps.getD 71 undef = .int .i64 (64 * (k : Int) + 64) := dep 5 _ _ (by kernel_rfl) rfl rfl
              have e5 : a.tmps[71]?.getD undef = _ := (Array.getD_eq_getD_getElem? ..).symm.trans d5
              rw [if_pos (wanted_none rfl)]
              refine turn_same (Turns.refl _) (v := .slice (some ⟨ga, 64 * k, none⟩) 64 (ca - 64 * k)) ?_ rfl (by simpa [also] using hS)
              clear old dep hoo hsz hb hS hLi hnot hyes
              go_simp
            | 7, hoo =>
              obtain rfl := Option.some.inj hoo
              have o12 : a.tmps.getD 12 undef = _ := old 12 (by kernel_rfl)
              rw [if_pos (wanted_none rfl)]
              refine turn_same (Turns.refl _) (v := .slice (some ⟨gb, 0, none⟩) 256 cb) ?_ rfl (by simpa [also] using hS)
              clear old dep hoo hsz hb hS hLi hnot hyes
              go_simp
            | 8, hoo =>
              obtain rfl := Option.some.inj hoo
              have o13 : a.tmps.getD 13 undef = _ := old 13 (by kernel_rfl)
              rw [if_pos (wanted_none rfl)]
              refine turn_same (Turns.refl _) (v := .int .i64 (k : Int)) ?_ rfl (by simpa [also] using hS)
              clear old dep hoo hsz hb hS hLi hnot hyes
              go_simp
            | 9, hoo =>
              obtain rfl := Option.some.inj hoo
              have d8 : a.tmps.getD 74 undef = .int .i64 (k : Int) := dep 8 _ _ (by kernel_rfl) rfl rfl
              have e8 : a.tmps[74]?.getD undef = _ := (Array.getD_eq_getD_getElem? ..).symm.trans d8
              rw [if_pos (wanted_none rfl)]
              have hk4 := HKI.out
              have hwm : IntKind.i64.wrap (64 * (k : Int)) = 64 * (k : Int) := by rw [IntKind.wrap_i64]; omega
              have hwa : IntKind.i64.wrap (64 * (k : Int) + 64) = 64 * (k : Int) + 64 := by rw [IntKind.wrap_i64]; omega
              refine turn_same (Turns.refl _) (v := .int .i64 (64 * (k : Int))) ?_ rfl (by simpa [also] using hS)
              clear old dep hoo hsz hb hS hLi hnot hyes
              go_simp
            | 10, hoo =>
              obtain rfl := Option.some.inj hoo
              have o13 : a.tmps.getD 13 undef = _ := old 13 (by kernel_rfl)
              rw [if_pos (wanted_none rfl)]
              refine turn_same (Turns.refl _) (v := .int .i64 (k : Int)) ?_ rfl (by simpa [also] using hS)
              clear old dep hoo hsz hb hS hLi hnot hyes
              go_simp
            | 11, hoo =>
              obtain rfl := Option.some.inj hoo
              have d10 : a.tmps.getD 76 undef = .int .i64 (k : Int) := dep 10 _ _ (by kernel_rfl) rfl rfl
              have e10 : a.tmps[76]?.getD undef = _ := (Array.getD_eq_getD_getElem? ..).symm.trans d10
              rw [if_pos (wanted_none rfl)]
              have hk4 := HKI.out
              have hwm : IntKind.i64.wrap (64 * (k : Int)) = 64 * (k : Int) := by rw [IntKind.wrap_i64]; omega
              have hwa : IntKind.i64.wrap (64 * (k : Int) + 64) = 64 * (k : Int) + 64 := by rw [IntKind.wrap_i64]; omega
              refine turn_same (Turns.refl _) (v := .int .i64 (64 * (k : Int))) ?_ rfl (by simpa [also] using hS)
              clear old dep hoo hsz hb hS hLi hnot hyes
              go_simp
            | 12, hoo =>
              obtain rfl := Option.some.inj hoo
              have d11 : a.tmps.getD 77 undef = .int .i64 (64 * (k : Int)) := dep 11 _ _ (by kernel_rfl) rfl rfl
              have e11 : a.tmps[77]?.getD undef = _ := (Array.getD_eq_getD_getElem? ..).symm.trans d11
              rw [if_pos (wanted_none rfl)]
              have hk4 := HKI.out
              have hwm : IntKind.i64.wrap (64 * (k : Int)) = 64 * (k : Int) := by rw [IntKind.wrap_i64]; omega
              have hwa : IntKind.i64.wrap (64 * (k : Int) + 64) = 64 * (k : Int) + 64 := by rw [IntKind.wrap_i64]; omega
              refine turn_same (Turns.refl _) (v := .int .i64 (64 * (k : Int) + 64)) ?_ rfl (by simpa [also] using hS)
              clear old dep hoo hsz hb hS hLi hnot hyes
              go_simp
            | 13, hoo =>
              obtain rfl := Option.some.inj hoo
              have d7 : a.tmps.getD 73 undef = .slice (some ⟨gb, 0, none⟩) 256 cb := dep 7 _ _ (by kernel_rfl) rfl rfl
              have e7 : a.tmps[73]?.getD undef = _ := (Array.getD_eq_getD_getElem? ..).symm.trans d7
              have d9 : a.tmps.getD 75 undef = .int .i64 (64 * (k : Int)) := dep 9 _ _ (by kernel_rfl) rfl rfl
              have e9 : a.tmps[75]?.getD undef = _ := (Array.getD_eq_getD_getElem? ..).symm.trans d9
              have d12 : a.tmps.getD 78 undef = .int .i64 (64 * (k : Int) + 64) := dep 12 _ _ (by kernel_rfl) rfl rfl
              have e12 : a.tmps[78]?.getD undef = _ := (Array.getD_eq_getD_getElem? ..).symm.trans d12
              rw [if_pos (wanted_none rfl)]
              refine turn_same (Turns.refl _) (v := .slice (some ⟨gb, 64 * k, none⟩) 64 (cb - 64 * k)) ?_ rfl (by simpa [also] using hS)
              clear old dep hoo hsz hb hS hLi hnot hyes
              go_simp
            | 14, hoo =>
              obtain rfl := Option.some.inj hoo
              have d6 : a.tmps.getD 72 undef = .slice (some ⟨ga, 64 * k, none⟩) 64 (ca - 64 * k) := dep 6 _ _ (by kernel_rfl) rfl rfl
              have e6 : a.tmps[72]?.getD undef = _ := (Array.getD_eq_getD_getElem? ..).symm.trans d6
              have d13 : a.tmps.getD 79 undef = .slice (some ⟨gb, 64 * k, none⟩) 64 (cb - 64 * k) := dep 13 _ _ (by kernel_rfl) rfl rfl
              have e13 : a.tmps[79]?.getD undef = _ := (Array.getD_eq_getD_getElem? ..).symm.trans d13
              rw [if_pos (wanted_none rfl)]
              have hS' : Hold w2 ga ca (mixL la lb mk k) := by simpa [hLi] using hS
              obtain ⟨w', hr, h2, h3⟩ := run_copy_on (P := Try.prog) 31 31 3 i0 Try.underlying31 hi0 hz1 (n := 64) (c := ca - 64 * k) (off := 64 * k) hS' (rd_seg (hbb.out.turns hb (fun e => HAB.out e.symm)) HLB.out hlt) hxl.out rfl (by rw [HLK.out]; omega)
              exact wp_copy_run (.tmp 72) (.tmp 79) 31 31 rfl _ _ d6 d13 _ w' hr ⟨_, rfl, rfl, by simpa [also] using h2, h3⟩
            | i + 15, hoo => exact absurd hoo (by simp)
          · intro a w8 ht8 hh8 hsz hdf fin keep
            obtain ⟨tm, df⟩ := a
            have hx := frame_of [66, 67, 68, 69, 70, 71, 72, 73, 74, 75, 76, 77, 78, 79, 80] (by kernel_rfl) hsz keep
            dsimp only at hdf hx
            simp only [List.foldl_cons, List.foldl_nil] at hx
            subst hdf
            clear hsz keep
            have kn : tm.getD 66 undef = .slice (some ⟨ga, 0, none⟩) 256 ca := fin 0 _ _ rfl rfl
            rw [kn] at hx
            clear kn
            have kn : tm.getD 67 undef = .int .i64 (k : Int) := fin 1 _ _ rfl rfl
            rw [kn] at hx
            clear kn
            have kn : tm.getD 68 undef = .int .i64 (64 * (k : Int)) := fin 2 _ _ rfl rfl
            rw [kn] at hx
            clear kn
            have kn : tm.getD 69 undef = .int .i64 (k : Int) := fin 3 _ _ rfl rfl
            rw [kn] at hx
            clear kn
            have kn : tm.getD 70 undef = .int .i64 (64 * (k : Int)) := fin 4 _ _ rfl rfl
            rw [kn] at hx
            clear kn
            have kn : tm.getD 71 undef = .int .i64 (64 * (k : Int) + 64) := fin 5 _ _ rfl rfl
            rw [kn] at hx
            clear kn
            have kn : tm.getD 72 undef = .slice (some ⟨ga, 64 * k, none⟩) 64 (ca - 64 * k) := fin 6 _ _ rfl rfl
            rw [kn] at hx
            clear kn
            have kn : tm.getD 73 undef = .slice (some ⟨gb, 0, none⟩) 256 cb := fin 7 _ _ rfl rfl
            rw [kn] at hx
            clear kn
            have kn : tm.getD 74 undef = .int .i64 (k : Int) := fin 8 _ _ rfl rfl
            rw [kn] at hx
            clear kn
            have kn : tm.getD 75 undef = .int .i64 (64 * (k : Int)) := fin 9 _ _ rfl rfl
            rw [kn] at hx
            clear kn
            have kn : tm.getD 76 undef = .int .i64 (k : Int) := fin 10 _ _ rfl rfl
            rw [kn] at hx
            clear kn
            have kn : tm.getD 77 undef = .int .i64 (64 * (k : Int)) := fin 11 _ _ rfl rfl
            rw [kn] at hx
            clear kn
            have kn : tm.getD 78 undef = .int .i64 (64 * (k : Int) + 64) := fin 12 _ _ rfl rfl
            rw [kn] at hx
            clear kn
            have kn : tm.getD 79 undef = .slice (some ⟨gb, 64 * k, none⟩) 64 (cb - 64 * k) := fin 13 _ _ rfl rfl
            rw [kn] at hx
            clear kn
            have kn : tm.getD 80 undef = .int .i64 (64 : Nat) := fin 14 _ _ rfl rfl
            rw [kn] at hx
            clear kn
            clear fin
            simp only [List.setIfInBounds_toArray, List.set_cons_succ, List.set_cons_zero] at hx
            subst hx
            rw [if_pos rfl, ← HNX.out] at hh8
            have hbb8 := hide (hbb.out.turns ht8 (fun e => HAB.out e.symm))
            have hbe8 := hide (hbe.out.trans (ht8.below hbe.out.size (by rintro q rfl; exact HGA.out)))
            have ha8 := hide hh8
            clear hh8 ht8 hsa hsb
            go_wp2
            go_roundg n
            case rel => exact ⟨k + 1, by omega, by go_num, ha8, hbb8, hbe8⟩
            case measure => omega
        · rw [if_neg hb] at hbit
          have hnx : mixL la lb mk (k + 1) = mixL la lb mk k := by show (if mk.testBit k = true then _ else _) = _; rw [if_neg hb]
          have HNX := hide hnx
          clear hnx hb
          go_wp2
          go_roundg n
          case rel => exact ⟨k + 1, by omega, by go_num, by rw [HNX.out]; exact ha, hbb, hbe⟩
          case measure => omega
theorem torn_walk (v : Value) (rs : List RowD) (v2 : Value) (rs2 : List RowD) (y : Int) (w : World) (hv : RowRow w w.heap.size v rs) (hv2 : RowRow w w.heap.size v2 rs2) (_ : (Lit.int .i64 y).wf = true) :
    Calls Try.prog 4 #[v, v2, .int .i64 y] w fun e w' => e = .returned (.bool true) ∧ Below w.heap.size w w' := by
  cases hl : lightsB rs
  · exact torn_long v rs v2 rs2 y w hv hv2 hl
  · cases hl2 : lightsB rs2
    · exact torn_long2 v rs v2 rs2 y w hv hv2 hl hl2
    · by_cases h32 : 0 < bits .and .i64 y 32
      · exact torn_0 v rs v2 rs2 y w hv hv2 hl hl2 h32
      · exact torn_8 v rs v2 rs2 y w hv hv2 hl hl2 h32
end Go.Proofs.Ytajpjffjhnmfmaa
