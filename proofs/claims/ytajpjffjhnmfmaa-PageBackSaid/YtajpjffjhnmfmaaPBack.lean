/-
  The walk of PageBack.
-/
import Derived.Test.YtajpjffjhnmfmaaFill
import Derived.Test.YtajpjffjhnmfmaaPgOps
import Derived.Test.YtajpjffjhnmfmaaPgEq
import Derived.Deep.LoopGhost
namespace Go.Proofs.Ytajpjffjhnmfmaa
open Go.RowKit

set_option linter.unusedSimpArgs false
set_option linter.unusedVariables false
theorem or1 (x : Int) : ∃ m : Nat, m < 18446744073709551616 ∧ m ≠ 0 ∧ bits .or .u64 x 1 = (m : Int) := by
  have h2 : bits .or .u64 x 1 = IntKind.u64.wrap (((BitVec.ofInt 64 x ||| BitVec.ofInt 64 1).toNat : Int)) := rfl
  have h3 : (BitVec.ofInt 64 x ||| BitVec.ofInt 64 1).toNat % 2 = 1 := by
    rw [BitVec.toNat_or]
    have h4 : (BitVec.ofInt 64 1).toNat = 1 := by decide
    rw [h4]
    simp
  have h5 := (BitVec.ofInt 64 x ||| BitVec.ofInt 64 1).isLt
  rw [h2, IntKind.wrap_u64]
  generalize (BitVec.ofInt 64 x ||| BitVec.ofInt 64 1).toNat = q at *
  exact ⟨q, by omega, by omega, by omega⟩
theorem xor1 (t : Nat) (ht : t < 65536) : ∃ q : Nat, q ≠ t ∧ bits .xor .i64 (t : Int) 1 = (q : Int) := by
  have h2 : bits .xor .i64 (t : Int) 1 = IntKind.i64.wrap (((BitVec.ofInt 64 (t : Int) ^^^ BitVec.ofInt 64 1).toNat : Int)) := rfl
  have h3 : (BitVec.ofInt 64 (t : Int)).toNat = t := by rw [BitVec.toNat_ofInt]; omega
  have h4 : (BitVec.ofInt 64 1).toNat = 1 := by decide
  have hne : t ^^^ 1 ≠ t := fun e => by
    have h := congrArg (fun z => Nat.testBit z 0) e
    simp only [Nat.testBit_xor] at h
    revert h
    cases Nat.testBit t 0 <;> simp
  have hlt : t ^^^ 1 < 2 ^ 16 := Nat.xor_lt_two_pow (by omega) (by omega)
  rw [h2, BitVec.toNat_xor, h3, h4, IntKind.wrap_i64]
  exact ⟨t ^^^ 1, hne, by omega⟩
theorem back_val {p q : Pg} (h : p.val = q.val) : p.ten = q.ten ∧ p.num = q.num := by
  unfold Pg.val Pg.cells at h
  injection h with h
  simp at h
  have h1 := h.2.1
  have h2 := h.2.2.1
  exact ⟨by omega, by omega⟩
def back_pv (m t n : Nat) (s : Nat → ByteArray) : Value := .agg #[.int .u64 (m : Int), .int .i64 (t : Int), .int .i64 (n : Int), .string (s 0), .string (s 1), .string (s 2), .string (s 3), .string (s 4)]
section
variable {m t n : Nat} {s : Nat → ByteArray} {l : List UInt8}
theorem dec_back (v : Value) (w : World) (hg : (⟨m, t, n, s⟩ : Pg).good) (hm : m ≠ 0) (hl : (⟨m, t, n, s⟩ : Pg).encL = l) (hv : Rd w v (u8s l)) :
    Calls Try.prog 15 #[v, .int .i64 (t : Int), .int .i64 (n : Int)] w fun e w' => e = .returned (.tuple #[.agg #[.int .u64 (m : Int), .int .i64 (t : Int), .int .i64 (n : Int), .string (s 0), .string (s 1), .string (s 2), .string (s 3), .string (s 4)], .int .i64 0]) ∧ Below w.heap.size w w' := by
  have hlen : l.length = 256 := by rw [← hl]; exact Pg.encL_length (Pg.good_sized hg)
  refine (decode_pg v l t n w (by omega) hv).mono ?_
  rintro e w' ⟨q, e', rfl, hd, hb⟩
  rcases hd with ⟨rfl, _, _, _, _, _, _, h8⟩ | ⟨_, _, hno⟩
  · rw [← h8 _ hg hm hl]; exact ⟨rfl, hb⟩
  · exact absurd hl (hno _ hg rfl rfl)
theorem dec_other (v : Value) (t' n' : Nat) (w : World) (hg : (⟨m, t, n, s⟩ : Pg).good) (hm : m ≠ 0) (hl : (⟨m, t, n, s⟩ : Pg).encL = l) (hv : Rd w v (u8s l)) (hne : t' ≠ t ∨ n' ≠ n) :
    Calls Try.prog 15 #[v, .int .i64 (t' : Int), .int .i64 (n' : Int)] w fun e w' => e = .returned (.tuple #[.agg #[.int .u64 0, .int .i64 0, .int .i64 0, .string ⟨#[]⟩, .string ⟨#[]⟩, .string ⟨#[]⟩, .string ⟨#[]⟩, .string ⟨#[]⟩], .int .i64 11]) ∧ Below w.heap.size w w' := by
  have hlen : l.length = 256 := by rw [← hl]; exact Pg.encL_length (Pg.good_sized hg)
  refine (decode_pg v l t' n' w (by omega) hv).mono ?_
  rintro e w' ⟨q, e', rfl, hd, hb⟩
  rcases hd with ⟨rfl, _, ht, hn, _, _, _, h8⟩ | ⟨rfl, rfl, hno⟩
  · obtain ⟨x1, x2⟩ := back_val (h8 _ hg hm hl)
    have x1' : t = q.ten := x1
    have x2' : n = q.num := x2
    omega
  · exact ⟨rfl, hb⟩
theorem dec_short (v : Value) (w : World) (hl : l.length = 255) (hv : Rd w v (u8s l)) :
    Calls Try.prog 15 #[v, .int .i64 (t : Int), .int .i64 (n : Int)] w fun e w' => e = .returned (.tuple #[.agg #[.int .u64 0, .int .i64 0, .int .i64 0, .string ⟨#[]⟩, .string ⟨#[]⟩, .string ⟨#[]⟩, .string ⟨#[]⟩, .string ⟨#[]⟩], .int .i64 11]) ∧ Below w.heap.size w w' := by
  refine (decode_pg v l t n w (by omega) hv).mono ?_
  rintro e w' ⟨q, e', rfl, hd, hb⟩
  rcases hd with ⟨_, he, _, _, _, ho, _, _⟩ | ⟨rfl, rfl, hno⟩
  · have := Pg.encL_length (p := q) (fun j hj => okB_size (ho j hj))
    rw [he] at this
    omega
  · exact ⟨rfl, hb⟩
end
theorem slot_say {w : World} {g : Nat} {p : Pg} (h : PgB w g p) (j : Nat) (hj : j < 5) :
    Calls Try.prog 16 #[.pointer (some ⟨g, 0, none⟩), .int .i64 (j : Int)] w fun e w' => ∃ v, e = .returned v ∧ (Say.is (.string (p.s j))).p w' v ∧ Below w.heap.size w w' := by
  refine (slot_in h j hj).mono ?_
  rintro e w' ⟨rfl, rfl⟩
  exact ⟨_, rfl, rfl, Below.refl _ _⟩
set_option maxHeartbeats 4000000 in
theorem back_long (v : Value) (rs : List RowD) (x : Int) (a0 a1 : Int) (w : World) (hv : RowRow w w.heap.size v rs) (hl : lightsB rs = false) :
    Calls Try.prog 3 #[v, .int .u64 x, .agg #[.int .i64 a0, .int .i64 a1]] w fun e w' => e = .returned (.bool true) ∧ Below w.heap.size w w' := by
  have V0 := hide ((RIn.start hv).below ((Below.refl _ _).alloc (Nat.le_refl _) (.cells #[.int .i64 a0, .int .i64 a1] 24)))
  have B0 : Hid (Blk (w.alloc (.cells #[.int .i64 a0, .int .i64 a1] 24)) w.heap.size 24 #[.int .i64 a0, .int .i64 a1]) := hide (heap_new w _)
  clear hv
  go_enter Try.func3, Try.ntmps3
  go_wp2_with (first
    | (go_at_call 11; (with_reducible refine (fit_any _).mono ?_); rintro e w1 ⟨rfl, hb1⟩; have V1 := hide (V0.out.below hb1); have B1 := hide (B0.out.below hb1); clear hb1)
    | (go_at_call 12; (with_reducible refine (light_told false v rs _ V1.out.row hl).mono ?_); rintro e w2 ⟨rfl, hb2⟩; have V2 := hide (V1.out.below hb2); have B2 := hide (B1.out.below hb2); have p1 := B2.out.cell 0 _ rfl; have p2 := B2.out.cell 1 _ rfl; clear hb2))
  go_ret
  exact ⟨rfl, V2.out.bel⟩
set_option maxRecDepth 20000 in
set_option maxHeartbeats 16000000 in
theorem back_light (v : Value) (rs : List RowD) (x : Int) (a0 a1 : Int) (w : World) (hv : RowRow w w.heap.size v rs) (hl : lightsB rs = true) :
    Calls Try.prog 3 #[v, .int .u64 x, .agg #[.int .i64 a0, .int .i64 a1]] w fun e w' => e = .returned (.bool true) ∧ Below w.heap.size w w' := by
  obtain ⟨m, hm, hm0, hor⟩ := or1 x
  obtain ⟨t, ht⟩ : ∃ t : Nat, (t : Int) = a0 % 65536 := ⟨(a0 % 65536).toNat, by omega⟩
  obtain ⟨n, hn⟩ : ∃ n : Nat, (n : Int) = a1 % 65536 := ⟨(a1 % 65536).toNat, by omega⟩
  have ht6 : t < 65536 := by omega
  have hn6 : n < 65536 := by omega
  obtain ⟨t1, ht1, hx1⟩ := xor1 t ht6
  obtain ⟨n1, hn1, hx2⟩ := xor1 n hn6
  have HM := hide hm
  have HM0 := hide hm0
  have HT := hide ht
  have HN := hide hn
  have HT6 := hide ht6
  have HN6 := hide hn6
  have HT1 := hide ht1
  have HN1 := hide hn1
  have HX1 := hide hx1
  have HX2 := hide hx2
  clear hm hm0 ht hn ht6 hn6 ht1 hn1 hx1 hx2
  have V0 := hide ((RIn.start hv).below ((Below.refl _ _).alloc (Nat.le_refl _) (.cells #[.int .i64 a0, .int .i64 a1] 24)))
  have B0 : Hid (Blk (w.alloc (.cells #[.int .i64 a0, .int .i64 a1] 24)) w.heap.size 24 #[.int .i64 a0, .int .i64 a1]) := hide (heap_new w _)
  clear hv
  go_enter Try.func3, Try.ntmps3
  go_wp2_with (first
    | (go_at_call 11; (with_reducible refine (fit_any _).mono ?_); rintro e w1 ⟨rfl, hb1⟩; have V1 := hide (V0.out.below hb1); have B1 := hide (B0.out.below hb1); clear hb1)
    | (go_at_call 12; (with_reducible refine (light_told true v rs _ V1.out.row hl).mono ?_); rintro e w2 ⟨rfl, hb2⟩; have V2 := hide (V1.out.below hb2); have B2 := hide (B1.out.below hb2); have p1 := B2.out.cell 0 _ rfl; have p2 := B2.out.cell 1 _ rfl; clear hb2)
    | (go_at_call 13; (with_reducible refine (fill_told (t := t) (n := n) v rs m a0 a1 _ hl HT.out HN.out V2.out.row).mono ?_); rintro e w3 ⟨g, gm, s, rfl, hF, hs⟩; have HF := hide hF; have HS := hide hs; have HW3 := hide (V2.out.bel.trans (hF.bel.mono V2.out.bel.size)); obtain ⟨c0, c1, c2, c3, c4, c5, c6, c7⟩ := hF.pg.all; clear hF hs)
    | (go_at_call 14; (with_reducible refine (encode_mtn m t n s _ HS.out HT6.out HN6.out).mono ?_); rintro e w4 ⟨A, c, rfl, hm4, hb4⟩; have HR := hide hm4.rd; have HF4 := hide (HF.out.below hb4); have HW4 := hide (HW3.out.trans (hb4.mono HW3.out.size)); clear hm4 hb4))
  have HG : Hid ((⟨m, t, n, s⟩ : Pg).good) := hide ⟨HM.out, HT6.out, HN6.out, HS.out⟩
  have HLE := hide (Pg.encL_length (Pg.good_sized HG.out))
  have HL5 : Hid (((⟨m, t, n, s⟩ : Pg).encL.take 255).length = 255) := hide (by rw [List.length_take, HLE.out]; rfl)
  have HC := hide (rd_cap HR.out)
  clear c0 c1 c2 c3 c4 c5 c6 c7 p1 p2
  refine region_boxes [some (.slice A 256 c), some (.pointer (some ⟨g, 0, none⟩)), some (.pointer (some ⟨g, 0, none⟩)), some (.pointer (some ⟨g, 1, none⟩)), some (.int .i64 (t : Int)), some (.pointer (some ⟨g, 0, none⟩)), some (.pointer (some ⟨g, 0, none⟩)), some (.pointer (some ⟨g, 2, none⟩)), some (.int .i64 (n : Int)), some (.tuple #[.agg #[.int .u64 (m : Int), .int .i64 (t : Int), .int .i64 (n : Int), .string (s 0), .string (s 1), .string (s 2), .string (s 3), .string (s 4)], .int .i64 0]), some (.tuple #[.agg #[.int .u64 (m : Int), .int .i64 (t : Int), .int .i64 (n : Int), .string (s 0), .string (s 1), .string (s 2), .string (s 3), .string (s 4)], .int .i64 0]), some (.agg #[.int .u64 (m : Int), .int .i64 (t : Int), .int .i64 (n : Int), .string (s 0), .string (s 1), .string (s 2), .string (s 3), .string (s 4)]), some (.int .i64 0), none, none, some (.int .i64 0)] 13 14 10 35 (#[.int .u64 0, .int .i64 0, .int .i64 0, .string ⟨#[]⟩, .string ⟨#[]⟩, .string ⟨#[]⟩, .string ⟨#[]⟩, .string ⟨#[]⟩]) ((⟨m, t, n, s⟩ : Pg).cells) _ _ rfl rfl rfl rfl rfl rfl (by kernel_rfl) (by kernel_rfl) (by decide) (by kernel_rfl) (by kernel_rfl) (by kernel_rfl) (by kernel_rfl) (fun a w2 => exec_alloc_page rfl w2) ?_ ?_ ?_
  · intro a w2 g hb hsz dep hda hB
    have dv : a.tmps.getD 51 undef = .agg #[.int .u64 (m : Int), .int .i64 (t : Int), .int .i64 (n : Int), .string (s 0), .string (s 1), .string (s 2), .string (s 3), .string (s 4)] := dep 11 _ _ (by kernel_rfl) rfl rfl (by decide) _ rfl
    exact store_box (i := 10) (j := 51) (m := m) (t := t) (n := n) (s := s) rfl rfl hda dv hB
  · intro i o hoo hna hns a w2 hb hsz old dep
    match i, hoo with
    | 0, hoo =>
      obtain rfl := Option.some.inj hoo
      have o9 : a.tmps.getD 9 undef = _ := old 9 (by kernel_rfl)
      rw [if_pos (wanted_none rfl)]
      refine box_same (.slice A 256 c) rfl ?_
      clear old dep hoo hsz hb hna hns
      go_simp
    | 1, hoo =>
      obtain rfl := Option.some.inj hoo
      have o7 : a.tmps.getD 7 undef = _ := old 7 (by kernel_rfl)
      rw [if_pos (wanted_none rfl)]
      refine box_same (.pointer (some ⟨g, 0, none⟩)) rfl ?_
      clear old dep hoo hsz hb hna hns
      go_simp
    | 2, hoo =>
      obtain rfl := Option.some.inj hoo
      have d1 : a.tmps.getD 42 undef = .pointer (some ⟨g, 0, none⟩) := dep 1 _ _ (by kernel_rfl) rfl rfl (by decide) _ rfl
      have e1 : a.tmps[42]?.getD undef = _ := (Array.getD_eq_getD_getElem? ..).symm.trans d1
      rw [if_pos (wanted_none rfl)]
      refine box_same (.pointer (some ⟨g, 0, none⟩)) rfl ?_
      clear old dep hoo hsz hb hna hns
      go_simp
    | 3, hoo =>
      obtain rfl := Option.some.inj hoo
      have d2 : a.tmps.getD 43 undef = .pointer (some ⟨g, 0, none⟩) := dep 2 _ _ (by kernel_rfl) rfl rfl (by decide) _ rfl
      have e2 : a.tmps[43]?.getD undef = _ := (Array.getD_eq_getD_getElem? ..).symm.trans d2
      rw [if_pos (wanted_none rfl)]
      refine box_same (.pointer (some ⟨g, 1, none⟩)) rfl ?_
      clear old dep hoo hsz hb hna hns
      go_simp
    | 4, hoo =>
      obtain rfl := Option.some.inj hoo
      have d3 : a.tmps.getD 44 undef = .pointer (some ⟨g, 1, none⟩) := dep 3 _ _ (by kernel_rfl) rfl rfl (by decide) _ rfl
      have e3 : a.tmps[44]?.getD undef = _ := (Array.getD_eq_getD_getElem? ..).symm.trans d3
      rw [if_pos (wanted_none rfl)]
      obtain ⟨g0, g1, g2, g3, g4, g5, g6, g7⟩ := (HF4.out.pg.below hb).all
      refine box_same (.int .i64 (t : Int)) rfl ?_
      clear old dep hoo hsz hb hna hns
      go_simp
    | 5, hoo =>
      obtain rfl := Option.some.inj hoo
      have o7 : a.tmps.getD 7 undef = _ := old 7 (by kernel_rfl)
      rw [if_pos (wanted_none rfl)]
      refine box_same (.pointer (some ⟨g, 0, none⟩)) rfl ?_
      clear old dep hoo hsz hb hna hns
      go_simp
    | 6, hoo =>
      obtain rfl := Option.some.inj hoo
      have d5 : a.tmps.getD 46 undef = .pointer (some ⟨g, 0, none⟩) := dep 5 _ _ (by kernel_rfl) rfl rfl (by decide) _ rfl
      have e5 : a.tmps[46]?.getD undef = _ := (Array.getD_eq_getD_getElem? ..).symm.trans d5
      rw [if_pos (wanted_none rfl)]
      refine box_same (.pointer (some ⟨g, 0, none⟩)) rfl ?_
      clear old dep hoo hsz hb hna hns
      go_simp
    | 7, hoo =>
      obtain rfl := Option.some.inj hoo
      have d6 : a.tmps.getD 47 undef = .pointer (some ⟨g, 0, none⟩) := dep 6 _ _ (by kernel_rfl) rfl rfl (by decide) _ rfl
      have e6 : a.tmps[47]?.getD undef = _ := (Array.getD_eq_getD_getElem? ..).symm.trans d6
      rw [if_pos (wanted_none rfl)]
      refine box_same (.pointer (some ⟨g, 2, none⟩)) rfl ?_
      clear old dep hoo hsz hb hna hns
      go_simp
    | 8, hoo =>
      obtain rfl := Option.some.inj hoo
      have d7 : a.tmps.getD 48 undef = .pointer (some ⟨g, 2, none⟩) := dep 7 _ _ (by kernel_rfl) rfl rfl (by decide) _ rfl
      have e7 : a.tmps[48]?.getD undef = _ := (Array.getD_eq_getD_getElem? ..).symm.trans d7
      rw [if_pos (wanted_none rfl)]
      obtain ⟨g0, g1, g2, g3, g4, g5, g6, g7⟩ := (HF4.out.pg.below hb).all
      refine box_same (.int .i64 (n : Int)) rfl ?_
      clear old dep hoo hsz hb hna hns
      go_simp
    | 9, hoo =>
      obtain rfl := Option.some.inj hoo
      have d0 : a.tmps.getD 41 undef = .slice A 256 c := dep 0 _ _ (by kernel_rfl) rfl rfl (by decide) _ rfl
      have e0 : a.tmps[41]?.getD undef = _ := (Array.getD_eq_getD_getElem? ..).symm.trans d0
      have d4 : a.tmps.getD 45 undef = .int .i64 (t : Int) := dep 4 _ _ (by kernel_rfl) rfl rfl (by decide) _ rfl
      have e4 : a.tmps[45]?.getD undef = _ := (Array.getD_eq_getD_getElem? ..).symm.trans d4
      have d8 : a.tmps.getD 49 undef = .int .i64 (n : Int) := dep 8 _ _ (by kernel_rfl) rfl rfl (by decide) _ rfl
      have e8 : a.tmps[49]?.getD undef = _ := (Array.getD_eq_getD_getElem? ..).symm.trans d8
      rw [if_pos (wanted_none rfl)]
      refine box_enters (f := 15) (args := #[.slice A 256 c, .int .i64 (t : Int), .int .i64 (n : Int)]) (.tuple #[.agg #[.int .u64 (m : Int), .int .i64 (t : Int), .int .i64 (n : Int), .string (s 0), .string (s 1), .string (s 2), .string (s 3), .string (s 4)], .int .i64 0]) rfl ?_ (dec_back _ _ HG.out HM0.out rfl (HR.out.below hb))
      clear old dep hoo hsz hb hna hns
      go_simp
    | 10, hoo =>
      obtain rfl := Option.some.inj hoo
      have d9 : a.tmps.getD 50 undef = .tuple #[.agg #[.int .u64 (m : Int), .int .i64 (t : Int), .int .i64 (n : Int), .string (s 0), .string (s 1), .string (s 2), .string (s 3), .string (s 4)], .int .i64 0] := dep 9 _ _ (by kernel_rfl) rfl rfl (by decide) _ rfl
      have e9 : a.tmps[50]?.getD undef = _ := (Array.getD_eq_getD_getElem? ..).symm.trans d9
      rw [if_pos (wanted_none rfl)]
      refine box_same (.tuple #[.agg #[.int .u64 (m : Int), .int .i64 (t : Int), .int .i64 (n : Int), .string (s 0), .string (s 1), .string (s 2), .string (s 3), .string (s 4)], .int .i64 0]) rfl ?_
      clear old dep hoo hsz hb hna hns
      go_simp
    | 11, hoo =>
      obtain rfl := Option.some.inj hoo
      have d10 : a.tmps.getD 40 undef = .tuple #[.agg #[.int .u64 (m : Int), .int .i64 (t : Int), .int .i64 (n : Int), .string (s 0), .string (s 1), .string (s 2), .string (s 3), .string (s 4)], .int .i64 0] := dep 10 _ _ (by kernel_rfl) rfl rfl (by decide) _ rfl
      have e10 : a.tmps[40]?.getD undef = _ := (Array.getD_eq_getD_getElem? ..).symm.trans d10
      rw [if_pos (wanted_none rfl)]
      refine box_same (.agg #[.int .u64 (m : Int), .int .i64 (t : Int), .int .i64 (n : Int), .string (s 0), .string (s 1), .string (s 2), .string (s 3), .string (s 4)]) rfl ?_
      clear old dep hoo hsz hb hna hns
      go_simp
    | 12, hoo =>
      obtain rfl := Option.some.inj hoo
      have d10 : a.tmps.getD 40 undef = .tuple #[.agg #[.int .u64 (m : Int), .int .i64 (t : Int), .int .i64 (n : Int), .string (s 0), .string (s 1), .string (s 2), .string (s 3), .string (s 4)], .int .i64 0] := dep 10 _ _ (by kernel_rfl) rfl rfl (by decide) _ rfl
      have e10 : a.tmps[40]?.getD undef = _ := (Array.getD_eq_getD_getElem? ..).symm.trans d10
      rw [if_pos (wanted_none rfl)]
      refine box_same (.int .i64 0) rfl ?_
      clear old dep hoo hsz hb hna hns
      go_simp
    | 13, hoo =>
      exact absurd rfl hna
    | 14, hoo =>
      exact absurd rfl hns
    | 15, hoo =>
      obtain rfl := Option.some.inj hoo
      have d12 : a.tmps.getD 52 undef = .int .i64 0 := dep 12 _ _ (by kernel_rfl) rfl rfl (by decide) _ rfl
      have e12 : a.tmps[52]?.getD undef = _ := (Array.getD_eq_getD_getElem? ..).symm.trans d12
      rw [if_pos (wanted_none rfl)]
      refine box_same (.int .i64 0) rfl ?_
      clear old dep hoo hsz hb hna hns
      go_simp
    | i + 16, hoo => exact absurd hoo (by simp)
  · intro a w5 gq hb hgl hB hda hsz hdf fin keep
    obtain ⟨tm, df⟩ := a
    have hx := frame_of [41, 42, 43, 44, 45, 46, 47, 48, 49, 50, 40, 51, 52, 10, 11] (by kernel_rfl) hsz keep
    dsimp only at hdf hx hda
    simp only [List.foldl_cons, List.foldl_nil] at hx
    subst hdf
    clear hsz keep
    have kn : tm.getD 41 undef = .slice A 256 c := fin 0 _ _ rfl rfl (by decide) _ rfl
    rw [kn] at hx
    clear kn
    have kn : tm.getD 42 undef = .pointer (some ⟨g, 0, none⟩) := fin 1 _ _ rfl rfl (by decide) _ rfl
    rw [kn] at hx
    clear kn
    have kn : tm.getD 43 undef = .pointer (some ⟨g, 0, none⟩) := fin 2 _ _ rfl rfl (by decide) _ rfl
    rw [kn] at hx
    clear kn
    have kn : tm.getD 44 undef = .pointer (some ⟨g, 1, none⟩) := fin 3 _ _ rfl rfl (by decide) _ rfl
    rw [kn] at hx
    clear kn
    have kn : tm.getD 45 undef = .int .i64 (t : Int) := fin 4 _ _ rfl rfl (by decide) _ rfl
    rw [kn] at hx
    clear kn
    have kn : tm.getD 46 undef = .pointer (some ⟨g, 0, none⟩) := fin 5 _ _ rfl rfl (by decide) _ rfl
    rw [kn] at hx
    clear kn
    have kn : tm.getD 47 undef = .pointer (some ⟨g, 0, none⟩) := fin 6 _ _ rfl rfl (by decide) _ rfl
    rw [kn] at hx
    clear kn
    have kn : tm.getD 48 undef = .pointer (some ⟨g, 2, none⟩) := fin 7 _ _ rfl rfl (by decide) _ rfl
    rw [kn] at hx
    clear kn
    have kn : tm.getD 49 undef = .int .i64 (n : Int) := fin 8 _ _ rfl rfl (by decide) _ rfl
    rw [kn] at hx
    clear kn
    have kn : tm.getD 50 undef = .tuple #[.agg #[.int .u64 (m : Int), .int .i64 (t : Int), .int .i64 (n : Int), .string (s 0), .string (s 1), .string (s 2), .string (s 3), .string (s 4)], .int .i64 0] := fin 9 _ _ rfl rfl (by decide) _ rfl
    rw [kn] at hx
    clear kn
    have kn : tm.getD 40 undef = .tuple #[.agg #[.int .u64 (m : Int), .int .i64 (t : Int), .int .i64 (n : Int), .string (s 0), .string (s 1), .string (s 2), .string (s 3), .string (s 4)], .int .i64 0] := fin 10 _ _ rfl rfl (by decide) _ rfl
    rw [kn] at hx
    clear kn
    have kn : tm.getD 51 undef = .agg #[.int .u64 (m : Int), .int .i64 (t : Int), .int .i64 (n : Int), .string (s 0), .string (s 1), .string (s 2), .string (s 3), .string (s 4)] := fin 11 _ _ rfl rfl (by decide) _ rfl
    rw [kn] at hx
    clear kn
    have kn : tm.getD 52 undef = .int .i64 0 := fin 12 _ _ rfl rfl (by decide) _ rfl
    rw [kn] at hx
    clear kn
    rw [hda] at hx
    have kn : tm.getD 11 undef = .int .i64 0 := fin 15 _ _ rfl rfl (by decide) _ rfl
    rw [kn] at hx
    clear kn
    clear fin hda
    simp only [List.setIfInBounds_toArray, List.set_cons_succ, List.set_cons_zero] at hx
    subst hx
    have HR5 := hide (HR.out.below hb)
    have HF5 := hide (HF4.out.below hb)
    have HW5 := hide (HW4.out.trans (hb.mono HW4.out.size))
    have PQ5 := hide hB
    clear hb hgl hB
    go_wp2
    refine region_boxes [some (.slice A 256 c), some (.pointer (some ⟨g, 0, none⟩)), some (.pointer (some ⟨g, 0, none⟩)), some (.pointer (some ⟨g, 1, none⟩)), some (.int .i64 (t : Int)), some (.int .i64 (t1 : Int)), some (.pointer (some ⟨g, 0, none⟩)), some (.pointer (some ⟨g, 0, none⟩)), some (.pointer (some ⟨g, 2, none⟩)), some (.int .i64 (n : Int)), some (.tuple #[.agg #[.int .u64 0, .int .i64 0, .int .i64 0, .string ⟨#[]⟩, .string ⟨#[]⟩, .string ⟨#[]⟩, .string ⟨#[]⟩, .string ⟨#[]⟩], .int .i64 11]), some (.tuple #[.agg #[.int .u64 0, .int .i64 0, .int .i64 0, .string ⟨#[]⟩, .string ⟨#[]⟩, .string ⟨#[]⟩, .string ⟨#[]⟩, .string ⟨#[]⟩], .int .i64 11]), some (.agg #[.int .u64 0, .int .i64 0, .int .i64 0, .string ⟨#[]⟩, .string ⟨#[]⟩, .string ⟨#[]⟩, .string ⟨#[]⟩, .string ⟨#[]⟩]), some (.int .i64 11), none, none, some (.int .i64 11)] 14 15 12 35 (#[.int .u64 0, .int .i64 0, .int .i64 0, .string ⟨#[]⟩, .string ⟨#[]⟩, .string ⟨#[]⟩, .string ⟨#[]⟩, .string ⟨#[]⟩]) ((⟨0, 0, 0, fun _ => ⟨#[]⟩⟩ : Pg).cells) _ _ rfl rfl rfl rfl rfl rfl (by kernel_rfl) (by kernel_rfl) (by decide) (by kernel_rfl) (by kernel_rfl) (by kernel_rfl) (by kernel_rfl) (fun a w2 => exec_alloc_page rfl w2) ?_ ?_ ?_
    · intro a w2 g hb hsz dep hda hB
      have dv : a.tmps.getD 65 undef = .agg #[.int .u64 0, .int .i64 0, .int .i64 0, .string ⟨#[]⟩, .string ⟨#[]⟩, .string ⟨#[]⟩, .string ⟨#[]⟩, .string ⟨#[]⟩] := dep 12 _ _ (by kernel_rfl) rfl rfl (by decide) _ rfl
      exact store_box (i := 12) (j := 65) (m := 0) (t := 0) (n := 0) (s := fun _ => ⟨#[]⟩) rfl rfl hda dv hB
    · intro i o hoo hna hns a w2 hb hsz old dep
      match i, hoo with
      | 0, hoo =>
        obtain rfl := Option.some.inj hoo
        have o9 : a.tmps.getD 9 undef = _ := old 9 (by kernel_rfl)
        rw [if_pos (wanted_none rfl)]
        refine box_same (.slice A 256 c) rfl ?_
        clear old dep hoo hsz hb hna hns
        go_simp
      | 1, hoo =>
        obtain rfl := Option.some.inj hoo
        have o7 : a.tmps.getD 7 undef = _ := old 7 (by kernel_rfl)
        rw [if_pos (wanted_none rfl)]
        refine box_same (.pointer (some ⟨g, 0, none⟩)) rfl ?_
        clear old dep hoo hsz hb hna hns
        go_simp
      | 2, hoo =>
        obtain rfl := Option.some.inj hoo
        have d1 : a.tmps.getD 55 undef = .pointer (some ⟨g, 0, none⟩) := dep 1 _ _ (by kernel_rfl) rfl rfl (by decide) _ rfl
        have e1 : a.tmps[55]?.getD undef = _ := (Array.getD_eq_getD_getElem? ..).symm.trans d1
        rw [if_pos (wanted_none rfl)]
        refine box_same (.pointer (some ⟨g, 0, none⟩)) rfl ?_
        clear old dep hoo hsz hb hna hns
        go_simp
      | 3, hoo =>
        obtain rfl := Option.some.inj hoo
        have d2 : a.tmps.getD 56 undef = .pointer (some ⟨g, 0, none⟩) := dep 2 _ _ (by kernel_rfl) rfl rfl (by decide) _ rfl
        have e2 : a.tmps[56]?.getD undef = _ := (Array.getD_eq_getD_getElem? ..).symm.trans d2
        rw [if_pos (wanted_none rfl)]
        refine box_same (.pointer (some ⟨g, 1, none⟩)) rfl ?_
        clear old dep hoo hsz hb hna hns
        go_simp
      | 4, hoo =>
        obtain rfl := Option.some.inj hoo
        have d3 : a.tmps.getD 57 undef = .pointer (some ⟨g, 1, none⟩) := dep 3 _ _ (by kernel_rfl) rfl rfl (by decide) _ rfl
        have e3 : a.tmps[57]?.getD undef = _ := (Array.getD_eq_getD_getElem? ..).symm.trans d3
        rw [if_pos (wanted_none rfl)]
        obtain ⟨g0, g1, g2, g3, g4, g5, g6, g7⟩ := (HF5.out.pg.below hb).all
        refine box_same (.int .i64 (t : Int)) rfl ?_
        clear old dep hoo hsz hb hna hns
        go_simp
      | 5, hoo =>
        obtain rfl := Option.some.inj hoo
        have d4 : a.tmps.getD 58 undef = .int .i64 (t : Int) := dep 4 _ _ (by kernel_rfl) rfl rfl (by decide) _ rfl
        have e4 : a.tmps[58]?.getD undef = _ := (Array.getD_eq_getD_getElem? ..).symm.trans d4
        rw [if_pos (wanted_none rfl)]
        have hx := HX1.out
        refine box_same (.int .i64 (t1 : Int)) rfl ?_
        clear old dep hoo hsz hb hna hns
        go_simp
      | 6, hoo =>
        obtain rfl := Option.some.inj hoo
        have o7 : a.tmps.getD 7 undef = _ := old 7 (by kernel_rfl)
        rw [if_pos (wanted_none rfl)]
        refine box_same (.pointer (some ⟨g, 0, none⟩)) rfl ?_
        clear old dep hoo hsz hb hna hns
        go_simp
      | 7, hoo =>
        obtain rfl := Option.some.inj hoo
        have d6 : a.tmps.getD 60 undef = .pointer (some ⟨g, 0, none⟩) := dep 6 _ _ (by kernel_rfl) rfl rfl (by decide) _ rfl
        have e6 : a.tmps[60]?.getD undef = _ := (Array.getD_eq_getD_getElem? ..).symm.trans d6
        rw [if_pos (wanted_none rfl)]
        refine box_same (.pointer (some ⟨g, 0, none⟩)) rfl ?_
        clear old dep hoo hsz hb hna hns
        go_simp
      | 8, hoo =>
        obtain rfl := Option.some.inj hoo
        have d7 : a.tmps.getD 61 undef = .pointer (some ⟨g, 0, none⟩) := dep 7 _ _ (by kernel_rfl) rfl rfl (by decide) _ rfl
        have e7 : a.tmps[61]?.getD undef = _ := (Array.getD_eq_getD_getElem? ..).symm.trans d7
        rw [if_pos (wanted_none rfl)]
        refine box_same (.pointer (some ⟨g, 2, none⟩)) rfl ?_
        clear old dep hoo hsz hb hna hns
        go_simp
      | 9, hoo =>
        obtain rfl := Option.some.inj hoo
        have d8 : a.tmps.getD 62 undef = .pointer (some ⟨g, 2, none⟩) := dep 8 _ _ (by kernel_rfl) rfl rfl (by decide) _ rfl
        have e8 : a.tmps[62]?.getD undef = _ := (Array.getD_eq_getD_getElem? ..).symm.trans d8
        rw [if_pos (wanted_none rfl)]
        obtain ⟨g0, g1, g2, g3, g4, g5, g6, g7⟩ := (HF5.out.pg.below hb).all
        refine box_same (.int .i64 (n : Int)) rfl ?_
        clear old dep hoo hsz hb hna hns
        go_simp
      | 10, hoo =>
        obtain rfl := Option.some.inj hoo
        have d0 : a.tmps.getD 54 undef = .slice A 256 c := dep 0 _ _ (by kernel_rfl) rfl rfl (by decide) _ rfl
        have e0 : a.tmps[54]?.getD undef = _ := (Array.getD_eq_getD_getElem? ..).symm.trans d0
        have d5 : a.tmps.getD 59 undef = .int .i64 (t1 : Int) := dep 5 _ _ (by kernel_rfl) rfl rfl (by decide) _ rfl
        have e5 : a.tmps[59]?.getD undef = _ := (Array.getD_eq_getD_getElem? ..).symm.trans d5
        have d9 : a.tmps.getD 63 undef = .int .i64 (n : Int) := dep 9 _ _ (by kernel_rfl) rfl rfl (by decide) _ rfl
        have e9 : a.tmps[63]?.getD undef = _ := (Array.getD_eq_getD_getElem? ..).symm.trans d9
        rw [if_pos (wanted_none rfl)]
        refine box_enters (f := 15) (args := #[.slice A 256 c, .int .i64 (t1 : Int), .int .i64 (n : Int)]) (.tuple #[.agg #[.int .u64 0, .int .i64 0, .int .i64 0, .string ⟨#[]⟩, .string ⟨#[]⟩, .string ⟨#[]⟩, .string ⟨#[]⟩, .string ⟨#[]⟩], .int .i64 11]) rfl ?_ (dec_other _ t1 n _ HG.out HM0.out rfl (HR5.out.below hb) (.inl HT1.out))
        clear old dep hoo hsz hb hna hns
        go_simp
      | 11, hoo =>
        obtain rfl := Option.some.inj hoo
        have d10 : a.tmps.getD 64 undef = .tuple #[.agg #[.int .u64 0, .int .i64 0, .int .i64 0, .string ⟨#[]⟩, .string ⟨#[]⟩, .string ⟨#[]⟩, .string ⟨#[]⟩, .string ⟨#[]⟩], .int .i64 11] := dep 10 _ _ (by kernel_rfl) rfl rfl (by decide) _ rfl
        have e10 : a.tmps[64]?.getD undef = _ := (Array.getD_eq_getD_getElem? ..).symm.trans d10
        rw [if_pos (wanted_none rfl)]
        refine box_same (.tuple #[.agg #[.int .u64 0, .int .i64 0, .int .i64 0, .string ⟨#[]⟩, .string ⟨#[]⟩, .string ⟨#[]⟩, .string ⟨#[]⟩, .string ⟨#[]⟩], .int .i64 11]) rfl ?_
        clear old dep hoo hsz hb hna hns
        go_simp
      | 12, hoo =>
        obtain rfl := Option.some.inj hoo
        have d11 : a.tmps.getD 53 undef = .tuple #[.agg #[.int .u64 0, .int .i64 0, .int .i64 0, .string ⟨#[]⟩, .string ⟨#[]⟩, .string ⟨#[]⟩, .string ⟨#[]⟩, .string ⟨#[]⟩], .int .i64 11] := dep 11 _ _ (by kernel_rfl) rfl rfl (by decide) _ rfl
        have e11 : a.tmps[53]?.getD undef = _ := (Array.getD_eq_getD_getElem? ..).symm.trans d11
        rw [if_pos (wanted_none rfl)]
        refine box_same (.agg #[.int .u64 0, .int .i64 0, .int .i64 0, .string ⟨#[]⟩, .string ⟨#[]⟩, .string ⟨#[]⟩, .string ⟨#[]⟩, .string ⟨#[]⟩]) rfl ?_
        clear old dep hoo hsz hb hna hns
        go_simp
      | 13, hoo =>
        obtain rfl := Option.some.inj hoo
        have d11 : a.tmps.getD 53 undef = .tuple #[.agg #[.int .u64 0, .int .i64 0, .int .i64 0, .string ⟨#[]⟩, .string ⟨#[]⟩, .string ⟨#[]⟩, .string ⟨#[]⟩, .string ⟨#[]⟩], .int .i64 11] := dep 11 _ _ (by kernel_rfl) rfl rfl (by decide) _ rfl
        have e11 : a.tmps[53]?.getD undef = _ := (Array.getD_eq_getD_getElem? ..).symm.trans d11
        rw [if_pos (wanted_none rfl)]
        refine box_same (.int .i64 11) rfl ?_
        clear old dep hoo hsz hb hna hns
        go_simp
      | 14, hoo =>
        exact absurd rfl hna
      | 15, hoo =>
        exact absurd rfl hns
      | 16, hoo =>
        obtain rfl := Option.some.inj hoo
        have d13 : a.tmps.getD 66 undef = .int .i64 11 := dep 13 _ _ (by kernel_rfl) rfl rfl (by decide) _ rfl
        have e13 : a.tmps[66]?.getD undef = _ := (Array.getD_eq_getD_getElem? ..).symm.trans d13
        rw [if_pos (wanted_none rfl)]
        refine box_same (.int .i64 11) rfl ?_
        clear old dep hoo hsz hb hna hns
        go_simp
      | i + 17, hoo => exact absurd hoo (by simp)
    · intro a w6 gx hb hgl hB hda hsz hdf fin keep
      obtain ⟨tm, df⟩ := a
      have hx := frame_of [54, 55, 56, 57, 58, 59, 60, 61, 62, 63, 64, 53, 65, 66, 12, 13] (by kernel_rfl) hsz keep
      dsimp only at hdf hx hda
      simp only [List.foldl_cons, List.foldl_nil] at hx
      subst hdf
      clear hsz keep
      have kn : tm.getD 54 undef = .slice A 256 c := fin 0 _ _ rfl rfl (by decide) _ rfl
      rw [kn] at hx
      clear kn
      have kn : tm.getD 55 undef = .pointer (some ⟨g, 0, none⟩) := fin 1 _ _ rfl rfl (by decide) _ rfl
      rw [kn] at hx
      clear kn
      have kn : tm.getD 56 undef = .pointer (some ⟨g, 0, none⟩) := fin 2 _ _ rfl rfl (by decide) _ rfl
      rw [kn] at hx
      clear kn
      have kn : tm.getD 57 undef = .pointer (some ⟨g, 1, none⟩) := fin 3 _ _ rfl rfl (by decide) _ rfl
      rw [kn] at hx
      clear kn
      have kn : tm.getD 58 undef = .int .i64 (t : Int) := fin 4 _ _ rfl rfl (by decide) _ rfl
      rw [kn] at hx
      clear kn
      have kn : tm.getD 59 undef = .int .i64 (t1 : Int) := fin 5 _ _ rfl rfl (by decide) _ rfl
      rw [kn] at hx
      clear kn
      have kn : tm.getD 60 undef = .pointer (some ⟨g, 0, none⟩) := fin 6 _ _ rfl rfl (by decide) _ rfl
      rw [kn] at hx
      clear kn
      have kn : tm.getD 61 undef = .pointer (some ⟨g, 0, none⟩) := fin 7 _ _ rfl rfl (by decide) _ rfl
      rw [kn] at hx
      clear kn
      have kn : tm.getD 62 undef = .pointer (some ⟨g, 2, none⟩) := fin 8 _ _ rfl rfl (by decide) _ rfl
      rw [kn] at hx
      clear kn
      have kn : tm.getD 63 undef = .int .i64 (n : Int) := fin 9 _ _ rfl rfl (by decide) _ rfl
      rw [kn] at hx
      clear kn
      have kn : tm.getD 64 undef = .tuple #[.agg #[.int .u64 0, .int .i64 0, .int .i64 0, .string ⟨#[]⟩, .string ⟨#[]⟩, .string ⟨#[]⟩, .string ⟨#[]⟩, .string ⟨#[]⟩], .int .i64 11] := fin 10 _ _ rfl rfl (by decide) _ rfl
      rw [kn] at hx
      clear kn
      have kn : tm.getD 53 undef = .tuple #[.agg #[.int .u64 0, .int .i64 0, .int .i64 0, .string ⟨#[]⟩, .string ⟨#[]⟩, .string ⟨#[]⟩, .string ⟨#[]⟩, .string ⟨#[]⟩], .int .i64 11] := fin 11 _ _ rfl rfl (by decide) _ rfl
      rw [kn] at hx
      clear kn
      have kn : tm.getD 65 undef = .agg #[.int .u64 0, .int .i64 0, .int .i64 0, .string ⟨#[]⟩, .string ⟨#[]⟩, .string ⟨#[]⟩, .string ⟨#[]⟩, .string ⟨#[]⟩] := fin 12 _ _ rfl rfl (by decide) _ rfl
      rw [kn] at hx
      clear kn
      have kn : tm.getD 66 undef = .int .i64 11 := fin 13 _ _ rfl rfl (by decide) _ rfl
      rw [kn] at hx
      clear kn
      rw [hda] at hx
      have kn : tm.getD 13 undef = .int .i64 11 := fin 16 _ _ rfl rfl (by decide) _ rfl
      rw [kn] at hx
      clear kn
      clear fin hda
      simp only [List.setIfInBounds_toArray, List.set_cons_succ, List.set_cons_zero] at hx
      subst hx
      have HR6 := hide (HR5.out.below hb)
      have HF6 := hide (HF5.out.below hb)
      have HW6 := hide (HW5.out.trans (hb.mono HW5.out.size))
      have PQ6 := hide (Blk.below PQ5.out hb)
      clear hb hgl hB
      go_wp2
      refine region_boxes [some (.slice A 256 c), some (.pointer (some ⟨g, 0, none⟩)), some (.pointer (some ⟨g, 0, none⟩)), some (.pointer (some ⟨g, 1, none⟩)), some (.int .i64 (t : Int)), some (.pointer (some ⟨g, 0, none⟩)), some (.pointer (some ⟨g, 0, none⟩)), some (.pointer (some ⟨g, 2, none⟩)), some (.int .i64 (n : Int)), some (.int .i64 (n1 : Int)), some (.tuple #[.agg #[.int .u64 0, .int .i64 0, .int .i64 0, .string ⟨#[]⟩, .string ⟨#[]⟩, .string ⟨#[]⟩, .string ⟨#[]⟩, .string ⟨#[]⟩], .int .i64 11]), some (.tuple #[.agg #[.int .u64 0, .int .i64 0, .int .i64 0, .string ⟨#[]⟩, .string ⟨#[]⟩, .string ⟨#[]⟩, .string ⟨#[]⟩, .string ⟨#[]⟩], .int .i64 11]), some (.agg #[.int .u64 0, .int .i64 0, .int .i64 0, .string ⟨#[]⟩, .string ⟨#[]⟩, .string ⟨#[]⟩, .string ⟨#[]⟩, .string ⟨#[]⟩]), some (.int .i64 11), none, none, some (.int .i64 11)] 14 15 14 35 (#[.int .u64 0, .int .i64 0, .int .i64 0, .string ⟨#[]⟩, .string ⟨#[]⟩, .string ⟨#[]⟩, .string ⟨#[]⟩, .string ⟨#[]⟩]) ((⟨0, 0, 0, fun _ => ⟨#[]⟩⟩ : Pg).cells) _ _ rfl rfl rfl rfl rfl rfl (by kernel_rfl) (by kernel_rfl) (by decide) (by kernel_rfl) (by kernel_rfl) (by kernel_rfl) (by kernel_rfl) (fun a w2 => exec_alloc_page rfl w2) ?_ ?_ ?_
      · intro a w2 g hb hsz dep hda hB
        have dv : a.tmps.getD 79 undef = .agg #[.int .u64 0, .int .i64 0, .int .i64 0, .string ⟨#[]⟩, .string ⟨#[]⟩, .string ⟨#[]⟩, .string ⟨#[]⟩, .string ⟨#[]⟩] := dep 12 _ _ (by kernel_rfl) rfl rfl (by decide) _ rfl
        exact store_box (i := 14) (j := 79) (m := 0) (t := 0) (n := 0) (s := fun _ => ⟨#[]⟩) rfl rfl hda dv hB
      · intro i o hoo hna hns a w2 hb hsz old dep
        match i, hoo with
        | 0, hoo =>
          obtain rfl := Option.some.inj hoo
          have o9 : a.tmps.getD 9 undef = _ := old 9 (by kernel_rfl)
          rw [if_pos (wanted_none rfl)]
          refine box_same (.slice A 256 c) rfl ?_
          clear old dep hoo hsz hb hna hns
          go_simp
        | 1, hoo =>
          obtain rfl := Option.some.inj hoo
          have o7 : a.tmps.getD 7 undef = _ := old 7 (by kernel_rfl)
          rw [if_pos (wanted_none rfl)]
          refine box_same (.pointer (some ⟨g, 0, none⟩)) rfl ?_
          clear old dep hoo hsz hb hna hns
          go_simp
        | 2, hoo =>
          obtain rfl := Option.some.inj hoo
          have d1 : a.tmps.getD 69 undef = .pointer (some ⟨g, 0, none⟩) := dep 1 _ _ (by kernel_rfl) rfl rfl (by decide) _ rfl
          have e1 : a.tmps[69]?.getD undef = _ := (Array.getD_eq_getD_getElem? ..).symm.trans d1
          rw [if_pos (wanted_none rfl)]
          refine box_same (.pointer (some ⟨g, 0, none⟩)) rfl ?_
          clear old dep hoo hsz hb hna hns
          go_simp
        | 3, hoo =>
          obtain rfl := Option.some.inj hoo
          have d2 : a.tmps.getD 70 undef = .pointer (some ⟨g, 0, none⟩) := dep 2 _ _ (by kernel_rfl) rfl rfl (by decide) _ rfl
          have e2 : a.tmps[70]?.getD undef = _ := (Array.getD_eq_getD_getElem? ..).symm.trans d2
          rw [if_pos (wanted_none rfl)]
          refine box_same (.pointer (some ⟨g, 1, none⟩)) rfl ?_
          clear old dep hoo hsz hb hna hns
          go_simp
        | 4, hoo =>
          obtain rfl := Option.some.inj hoo
          have d3 : a.tmps.getD 71 undef = .pointer (some ⟨g, 1, none⟩) := dep 3 _ _ (by kernel_rfl) rfl rfl (by decide) _ rfl
          have e3 : a.tmps[71]?.getD undef = _ := (Array.getD_eq_getD_getElem? ..).symm.trans d3
          rw [if_pos (wanted_none rfl)]
          obtain ⟨g0, g1, g2, g3, g4, g5, g6, g7⟩ := (HF6.out.pg.below hb).all
          refine box_same (.int .i64 (t : Int)) rfl ?_
          clear old dep hoo hsz hb hna hns
          go_simp
        | 5, hoo =>
          obtain rfl := Option.some.inj hoo
          have o7 : a.tmps.getD 7 undef = _ := old 7 (by kernel_rfl)
          rw [if_pos (wanted_none rfl)]
          refine box_same (.pointer (some ⟨g, 0, none⟩)) rfl ?_
          clear old dep hoo hsz hb hna hns
          go_simp
        | 6, hoo =>
          obtain rfl := Option.some.inj hoo
          have d5 : a.tmps.getD 73 undef = .pointer (some ⟨g, 0, none⟩) := dep 5 _ _ (by kernel_rfl) rfl rfl (by decide) _ rfl
          have e5 : a.tmps[73]?.getD undef = _ := (Array.getD_eq_getD_getElem? ..).symm.trans d5
          rw [if_pos (wanted_none rfl)]
          refine box_same (.pointer (some ⟨g, 0, none⟩)) rfl ?_
          clear old dep hoo hsz hb hna hns
          go_simp
        | 7, hoo =>
          obtain rfl := Option.some.inj hoo
          have d6 : a.tmps.getD 74 undef = .pointer (some ⟨g, 0, none⟩) := dep 6 _ _ (by kernel_rfl) rfl rfl (by decide) _ rfl
          have e6 : a.tmps[74]?.getD undef = _ := (Array.getD_eq_getD_getElem? ..).symm.trans d6
          rw [if_pos (wanted_none rfl)]
          refine box_same (.pointer (some ⟨g, 2, none⟩)) rfl ?_
          clear old dep hoo hsz hb hna hns
          go_simp
        | 8, hoo =>
          obtain rfl := Option.some.inj hoo
          have d7 : a.tmps.getD 75 undef = .pointer (some ⟨g, 2, none⟩) := dep 7 _ _ (by kernel_rfl) rfl rfl (by decide) _ rfl
          have e7 : a.tmps[75]?.getD undef = _ := (Array.getD_eq_getD_getElem? ..).symm.trans d7
          rw [if_pos (wanted_none rfl)]
          obtain ⟨g0, g1, g2, g3, g4, g5, g6, g7⟩ := (HF6.out.pg.below hb).all
          refine box_same (.int .i64 (n : Int)) rfl ?_
          clear old dep hoo hsz hb hna hns
          go_simp
        | 9, hoo =>
          obtain rfl := Option.some.inj hoo
          have d8 : a.tmps.getD 76 undef = .int .i64 (n : Int) := dep 8 _ _ (by kernel_rfl) rfl rfl (by decide) _ rfl
          have e8 : a.tmps[76]?.getD undef = _ := (Array.getD_eq_getD_getElem? ..).symm.trans d8
          rw [if_pos (wanted_none rfl)]
          have hx := HX2.out
          refine box_same (.int .i64 (n1 : Int)) rfl ?_
          clear old dep hoo hsz hb hna hns
          go_simp
        | 10, hoo =>
          obtain rfl := Option.some.inj hoo
          have d0 : a.tmps.getD 68 undef = .slice A 256 c := dep 0 _ _ (by kernel_rfl) rfl rfl (by decide) _ rfl
          have e0 : a.tmps[68]?.getD undef = _ := (Array.getD_eq_getD_getElem? ..).symm.trans d0
          have d4 : a.tmps.getD 72 undef = .int .i64 (t : Int) := dep 4 _ _ (by kernel_rfl) rfl rfl (by decide) _ rfl
          have e4 : a.tmps[72]?.getD undef = _ := (Array.getD_eq_getD_getElem? ..).symm.trans d4
          have d9 : a.tmps.getD 77 undef = .int .i64 (n1 : Int) := dep 9 _ _ (by kernel_rfl) rfl rfl (by decide) _ rfl
          have e9 : a.tmps[77]?.getD undef = _ := (Array.getD_eq_getD_getElem? ..).symm.trans d9
          rw [if_pos (wanted_none rfl)]
          refine box_enters (f := 15) (args := #[.slice A 256 c, .int .i64 (t : Int), .int .i64 (n1 : Int)]) (.tuple #[.agg #[.int .u64 0, .int .i64 0, .int .i64 0, .string ⟨#[]⟩, .string ⟨#[]⟩, .string ⟨#[]⟩, .string ⟨#[]⟩, .string ⟨#[]⟩], .int .i64 11]) rfl ?_ (dec_other _ t n1 _ HG.out HM0.out rfl (HR6.out.below hb) (.inr HN1.out))
          clear old dep hoo hsz hb hna hns
          go_simp
        | 11, hoo =>
          obtain rfl := Option.some.inj hoo
          have d10 : a.tmps.getD 78 undef = .tuple #[.agg #[.int .u64 0, .int .i64 0, .int .i64 0, .string ⟨#[]⟩, .string ⟨#[]⟩, .string ⟨#[]⟩, .string ⟨#[]⟩, .string ⟨#[]⟩], .int .i64 11] := dep 10 _ _ (by kernel_rfl) rfl rfl (by decide) _ rfl
          have e10 : a.tmps[78]?.getD undef = _ := (Array.getD_eq_getD_getElem? ..).symm.trans d10
          rw [if_pos (wanted_none rfl)]
          refine box_same (.tuple #[.agg #[.int .u64 0, .int .i64 0, .int .i64 0, .string ⟨#[]⟩, .string ⟨#[]⟩, .string ⟨#[]⟩, .string ⟨#[]⟩, .string ⟨#[]⟩], .int .i64 11]) rfl ?_
          clear old dep hoo hsz hb hna hns
          go_simp
        | 12, hoo =>
          obtain rfl := Option.some.inj hoo
          have d11 : a.tmps.getD 67 undef = .tuple #[.agg #[.int .u64 0, .int .i64 0, .int .i64 0, .string ⟨#[]⟩, .string ⟨#[]⟩, .string ⟨#[]⟩, .string ⟨#[]⟩, .string ⟨#[]⟩], .int .i64 11] := dep 11 _ _ (by kernel_rfl) rfl rfl (by decide) _ rfl
          have e11 : a.tmps[67]?.getD undef = _ := (Array.getD_eq_getD_getElem? ..).symm.trans d11
          rw [if_pos (wanted_none rfl)]
          refine box_same (.agg #[.int .u64 0, .int .i64 0, .int .i64 0, .string ⟨#[]⟩, .string ⟨#[]⟩, .string ⟨#[]⟩, .string ⟨#[]⟩, .string ⟨#[]⟩]) rfl ?_
          clear old dep hoo hsz hb hna hns
          go_simp
        | 13, hoo =>
          obtain rfl := Option.some.inj hoo
          have d11 : a.tmps.getD 67 undef = .tuple #[.agg #[.int .u64 0, .int .i64 0, .int .i64 0, .string ⟨#[]⟩, .string ⟨#[]⟩, .string ⟨#[]⟩, .string ⟨#[]⟩, .string ⟨#[]⟩], .int .i64 11] := dep 11 _ _ (by kernel_rfl) rfl rfl (by decide) _ rfl
          have e11 : a.tmps[67]?.getD undef = _ := (Array.getD_eq_getD_getElem? ..).symm.trans d11
          rw [if_pos (wanted_none rfl)]
          refine box_same (.int .i64 11) rfl ?_
          clear old dep hoo hsz hb hna hns
          go_simp
        | 14, hoo =>
          exact absurd rfl hna
        | 15, hoo =>
          exact absurd rfl hns
        | 16, hoo =>
          obtain rfl := Option.some.inj hoo
          have d13 : a.tmps.getD 80 undef = .int .i64 11 := dep 13 _ _ (by kernel_rfl) rfl rfl (by decide) _ rfl
          have e13 : a.tmps[80]?.getD undef = _ := (Array.getD_eq_getD_getElem? ..).symm.trans d13
          rw [if_pos (wanted_none rfl)]
          refine box_same (.int .i64 11) rfl ?_
          clear old dep hoo hsz hb hna hns
          go_simp
        | i + 17, hoo => exact absurd hoo (by simp)
      · intro a w7 gy hb hgl hB hda hsz hdf fin keep
        obtain ⟨tm, df⟩ := a
        have hx := frame_of [68, 69, 70, 71, 72, 73, 74, 75, 76, 77, 78, 67, 79, 80, 14, 15] (by kernel_rfl) hsz keep
        dsimp only at hdf hx hda
        simp only [List.foldl_cons, List.foldl_nil] at hx
        subst hdf
        clear hsz keep
        have kn : tm.getD 68 undef = .slice A 256 c := fin 0 _ _ rfl rfl (by decide) _ rfl
        rw [kn] at hx
        clear kn
        have kn : tm.getD 69 undef = .pointer (some ⟨g, 0, none⟩) := fin 1 _ _ rfl rfl (by decide) _ rfl
        rw [kn] at hx
        clear kn
        have kn : tm.getD 70 undef = .pointer (some ⟨g, 0, none⟩) := fin 2 _ _ rfl rfl (by decide) _ rfl
        rw [kn] at hx
        clear kn
        have kn : tm.getD 71 undef = .pointer (some ⟨g, 1, none⟩) := fin 3 _ _ rfl rfl (by decide) _ rfl
        rw [kn] at hx
        clear kn
        have kn : tm.getD 72 undef = .int .i64 (t : Int) := fin 4 _ _ rfl rfl (by decide) _ rfl
        rw [kn] at hx
        clear kn
        have kn : tm.getD 73 undef = .pointer (some ⟨g, 0, none⟩) := fin 5 _ _ rfl rfl (by decide) _ rfl
        rw [kn] at hx
        clear kn
        have kn : tm.getD 74 undef = .pointer (some ⟨g, 0, none⟩) := fin 6 _ _ rfl rfl (by decide) _ rfl
        rw [kn] at hx
        clear kn
        have kn : tm.getD 75 undef = .pointer (some ⟨g, 2, none⟩) := fin 7 _ _ rfl rfl (by decide) _ rfl
        rw [kn] at hx
        clear kn
        have kn : tm.getD 76 undef = .int .i64 (n : Int) := fin 8 _ _ rfl rfl (by decide) _ rfl
        rw [kn] at hx
        clear kn
        have kn : tm.getD 77 undef = .int .i64 (n1 : Int) := fin 9 _ _ rfl rfl (by decide) _ rfl
        rw [kn] at hx
        clear kn
        have kn : tm.getD 78 undef = .tuple #[.agg #[.int .u64 0, .int .i64 0, .int .i64 0, .string ⟨#[]⟩, .string ⟨#[]⟩, .string ⟨#[]⟩, .string ⟨#[]⟩, .string ⟨#[]⟩], .int .i64 11] := fin 10 _ _ rfl rfl (by decide) _ rfl
        rw [kn] at hx
        clear kn
        have kn : tm.getD 67 undef = .tuple #[.agg #[.int .u64 0, .int .i64 0, .int .i64 0, .string ⟨#[]⟩, .string ⟨#[]⟩, .string ⟨#[]⟩, .string ⟨#[]⟩, .string ⟨#[]⟩], .int .i64 11] := fin 11 _ _ rfl rfl (by decide) _ rfl
        rw [kn] at hx
        clear kn
        have kn : tm.getD 79 undef = .agg #[.int .u64 0, .int .i64 0, .int .i64 0, .string ⟨#[]⟩, .string ⟨#[]⟩, .string ⟨#[]⟩, .string ⟨#[]⟩, .string ⟨#[]⟩] := fin 12 _ _ rfl rfl (by decide) _ rfl
        rw [kn] at hx
        clear kn
        have kn : tm.getD 80 undef = .int .i64 11 := fin 13 _ _ rfl rfl (by decide) _ rfl
        rw [kn] at hx
        clear kn
        rw [hda] at hx
        have kn : tm.getD 15 undef = .int .i64 11 := fin 16 _ _ rfl rfl (by decide) _ rfl
        rw [kn] at hx
        clear kn
        clear fin hda
        simp only [List.setIfInBounds_toArray, List.set_cons_succ, List.set_cons_zero] at hx
        subst hx
        have HR7 := hide (HR6.out.below hb)
        have HF7 := hide (HF6.out.below hb)
        have HW7 := hide (HW6.out.trans (hb.mono HW6.out.size))
        have PQ7 := hide (Blk.below PQ6.out hb)
        clear hb hgl hB
        go_wp2
        refine region_boxes [some (.slice A 256 c), some (.slice A 255 c), some (.pointer (some ⟨g, 0, none⟩)), some (.pointer (some ⟨g, 0, none⟩)), some (.pointer (some ⟨g, 1, none⟩)), some (.int .i64 (t : Int)), some (.pointer (some ⟨g, 0, none⟩)), some (.pointer (some ⟨g, 0, none⟩)), some (.pointer (some ⟨g, 2, none⟩)), some (.int .i64 (n : Int)), some (.tuple #[.agg #[.int .u64 0, .int .i64 0, .int .i64 0, .string ⟨#[]⟩, .string ⟨#[]⟩, .string ⟨#[]⟩, .string ⟨#[]⟩, .string ⟨#[]⟩], .int .i64 11]), some (.tuple #[.agg #[.int .u64 0, .int .i64 0, .int .i64 0, .string ⟨#[]⟩, .string ⟨#[]⟩, .string ⟨#[]⟩, .string ⟨#[]⟩, .string ⟨#[]⟩], .int .i64 11]), some (.agg #[.int .u64 0, .int .i64 0, .int .i64 0, .string ⟨#[]⟩, .string ⟨#[]⟩, .string ⟨#[]⟩, .string ⟨#[]⟩, .string ⟨#[]⟩]), some (.int .i64 11), none, none, some (.int .i64 11)] 14 15 16 35 (#[.int .u64 0, .int .i64 0, .int .i64 0, .string ⟨#[]⟩, .string ⟨#[]⟩, .string ⟨#[]⟩, .string ⟨#[]⟩, .string ⟨#[]⟩]) ((⟨0, 0, 0, fun _ => ⟨#[]⟩⟩ : Pg).cells) _ _ rfl rfl rfl rfl rfl rfl (by kernel_rfl) (by kernel_rfl) (by decide) (by kernel_rfl) (by kernel_rfl) (by kernel_rfl) (by kernel_rfl) (fun a w2 => exec_alloc_page rfl w2) ?_ ?_ ?_
        · intro a w2 g hb hsz dep hda hB
          have dv : a.tmps.getD 93 undef = .agg #[.int .u64 0, .int .i64 0, .int .i64 0, .string ⟨#[]⟩, .string ⟨#[]⟩, .string ⟨#[]⟩, .string ⟨#[]⟩, .string ⟨#[]⟩] := dep 12 _ _ (by kernel_rfl) rfl rfl (by decide) _ rfl
          exact store_box (i := 16) (j := 93) (m := 0) (t := 0) (n := 0) (s := fun _ => ⟨#[]⟩) rfl rfl hda dv hB
        · intro i o hoo hna hns a w2 hb hsz old dep
          match i, hoo with
          | 0, hoo =>
            obtain rfl := Option.some.inj hoo
            have o9 : a.tmps.getD 9 undef = _ := old 9 (by kernel_rfl)
            rw [if_pos (wanted_none rfl)]
            refine box_same (.slice A 256 c) rfl ?_
            clear old dep hoo hsz hb hna hns
            go_simp
          | 1, hoo =>
            obtain rfl := Option.some.inj hoo
            have d0 : a.tmps.getD 82 undef = .slice A 256 c := dep 0 _ _ (by kernel_rfl) rfl rfl (by decide) _ rfl
            have e0 : a.tmps[82]?.getD undef = _ := (Array.getD_eq_getD_getElem? ..).symm.trans d0
            rw [if_pos (wanted_none rfl)]
            exact box_same (.slice A 255 c) rfl (exec_low (x := .tmp 82) 255 rfl d0 (Nat.le_trans (by omega) HC.out))
          | 2, hoo =>
            obtain rfl := Option.some.inj hoo
            have o7 : a.tmps.getD 7 undef = _ := old 7 (by kernel_rfl)
            rw [if_pos (wanted_none rfl)]
            refine box_same (.pointer (some ⟨g, 0, none⟩)) rfl ?_
            clear old dep hoo hsz hb hna hns
            go_simp
          | 3, hoo =>
            obtain rfl := Option.some.inj hoo
            have d2 : a.tmps.getD 84 undef = .pointer (some ⟨g, 0, none⟩) := dep 2 _ _ (by kernel_rfl) rfl rfl (by decide) _ rfl
            have e2 : a.tmps[84]?.getD undef = _ := (Array.getD_eq_getD_getElem? ..).symm.trans d2
            rw [if_pos (wanted_none rfl)]
            refine box_same (.pointer (some ⟨g, 0, none⟩)) rfl ?_
            clear old dep hoo hsz hb hna hns
            go_simp
          | 4, hoo =>
            obtain rfl := Option.some.inj hoo
            have d3 : a.tmps.getD 85 undef = .pointer (some ⟨g, 0, none⟩) := dep 3 _ _ (by kernel_rfl) rfl rfl (by decide) _ rfl
            have e3 : a.tmps[85]?.getD undef = _ := (Array.getD_eq_getD_getElem? ..).symm.trans d3
            rw [if_pos (wanted_none rfl)]
            refine box_same (.pointer (some ⟨g, 1, none⟩)) rfl ?_
            clear old dep hoo hsz hb hna hns
            go_simp
          | 5, hoo =>
            obtain rfl := Option.some.inj hoo
            have d4 : a.tmps.getD 86 undef = .pointer (some ⟨g, 1, none⟩) := dep 4 _ _ (by kernel_rfl) rfl rfl (by decide) _ rfl
            have e4 : a.tmps[86]?.getD undef = _ := (Array.getD_eq_getD_getElem? ..).symm.trans d4
            rw [if_pos (wanted_none rfl)]
            obtain ⟨g0, g1, g2, g3, g4, g5, g6, g7⟩ := (HF7.out.pg.below hb).all
            refine box_same (.int .i64 (t : Int)) rfl ?_
            clear old dep hoo hsz hb hna hns
            go_simp
          | 6, hoo =>
            obtain rfl := Option.some.inj hoo
            have o7 : a.tmps.getD 7 undef = _ := old 7 (by kernel_rfl)
            rw [if_pos (wanted_none rfl)]
            refine box_same (.pointer (some ⟨g, 0, none⟩)) rfl ?_
            clear old dep hoo hsz hb hna hns
            go_simp
          | 7, hoo =>
            obtain rfl := Option.some.inj hoo
            have d6 : a.tmps.getD 88 undef = .pointer (some ⟨g, 0, none⟩) := dep 6 _ _ (by kernel_rfl) rfl rfl (by decide) _ rfl
            have e6 : a.tmps[88]?.getD undef = _ := (Array.getD_eq_getD_getElem? ..).symm.trans d6
            rw [if_pos (wanted_none rfl)]
            refine box_same (.pointer (some ⟨g, 0, none⟩)) rfl ?_
            clear old dep hoo hsz hb hna hns
            go_simp
          | 8, hoo =>
            obtain rfl := Option.some.inj hoo
            have d7 : a.tmps.getD 89 undef = .pointer (some ⟨g, 0, none⟩) := dep 7 _ _ (by kernel_rfl) rfl rfl (by decide) _ rfl
            have e7 : a.tmps[89]?.getD undef = _ := (Array.getD_eq_getD_getElem? ..).symm.trans d7
            rw [if_pos (wanted_none rfl)]
            refine box_same (.pointer (some ⟨g, 2, none⟩)) rfl ?_
            clear old dep hoo hsz hb hna hns
            go_simp
          | 9, hoo =>
            obtain rfl := Option.some.inj hoo
            have d8 : a.tmps.getD 90 undef = .pointer (some ⟨g, 2, none⟩) := dep 8 _ _ (by kernel_rfl) rfl rfl (by decide) _ rfl
            have e8 : a.tmps[90]?.getD undef = _ := (Array.getD_eq_getD_getElem? ..).symm.trans d8
            rw [if_pos (wanted_none rfl)]
            obtain ⟨g0, g1, g2, g3, g4, g5, g6, g7⟩ := (HF7.out.pg.below hb).all
            refine box_same (.int .i64 (n : Int)) rfl ?_
            clear old dep hoo hsz hb hna hns
            go_simp
          | 10, hoo =>
            obtain rfl := Option.some.inj hoo
            have d1 : a.tmps.getD 83 undef = .slice A 255 c := dep 1 _ _ (by kernel_rfl) rfl rfl (by decide) _ rfl
            have e1 : a.tmps[83]?.getD undef = _ := (Array.getD_eq_getD_getElem? ..).symm.trans d1
            have d5 : a.tmps.getD 87 undef = .int .i64 (t : Int) := dep 5 _ _ (by kernel_rfl) rfl rfl (by decide) _ rfl
            have e5 : a.tmps[87]?.getD undef = _ := (Array.getD_eq_getD_getElem? ..).symm.trans d5
            have d9 : a.tmps.getD 91 undef = .int .i64 (n : Int) := dep 9 _ _ (by kernel_rfl) rfl rfl (by decide) _ rfl
            have e9 : a.tmps[91]?.getD undef = _ := (Array.getD_eq_getD_getElem? ..).symm.trans d9
            rw [if_pos (wanted_none rfl)]
            refine box_enters (f := 15) (args := #[.slice A 255 c, .int .i64 (t : Int), .int .i64 (n : Int)]) (.tuple #[.agg #[.int .u64 0, .int .i64 0, .int .i64 0, .string ⟨#[]⟩, .string ⟨#[]⟩, .string ⟨#[]⟩, .string ⟨#[]⟩, .string ⟨#[]⟩], .int .i64 11]) rfl ?_ (dec_short (l := (⟨m, t, n, s⟩ : Pg).encL.take 255) _ _ HL5.out (Rd.low (HR7.out.below hb) (by omega)))
            clear old dep hoo hsz hb hna hns
            go_simp
          | 11, hoo =>
            obtain rfl := Option.some.inj hoo
            have d10 : a.tmps.getD 92 undef = .tuple #[.agg #[.int .u64 0, .int .i64 0, .int .i64 0, .string ⟨#[]⟩, .string ⟨#[]⟩, .string ⟨#[]⟩, .string ⟨#[]⟩, .string ⟨#[]⟩], .int .i64 11] := dep 10 _ _ (by kernel_rfl) rfl rfl (by decide) _ rfl
            have e10 : a.tmps[92]?.getD undef = _ := (Array.getD_eq_getD_getElem? ..).symm.trans d10
            rw [if_pos (wanted_none rfl)]
            refine box_same (.tuple #[.agg #[.int .u64 0, .int .i64 0, .int .i64 0, .string ⟨#[]⟩, .string ⟨#[]⟩, .string ⟨#[]⟩, .string ⟨#[]⟩, .string ⟨#[]⟩], .int .i64 11]) rfl ?_
            clear old dep hoo hsz hb hna hns
            go_simp
          | 12, hoo =>
            obtain rfl := Option.some.inj hoo
            have d11 : a.tmps.getD 81 undef = .tuple #[.agg #[.int .u64 0, .int .i64 0, .int .i64 0, .string ⟨#[]⟩, .string ⟨#[]⟩, .string ⟨#[]⟩, .string ⟨#[]⟩, .string ⟨#[]⟩], .int .i64 11] := dep 11 _ _ (by kernel_rfl) rfl rfl (by decide) _ rfl
            have e11 : a.tmps[81]?.getD undef = _ := (Array.getD_eq_getD_getElem? ..).symm.trans d11
            rw [if_pos (wanted_none rfl)]
            refine box_same (.agg #[.int .u64 0, .int .i64 0, .int .i64 0, .string ⟨#[]⟩, .string ⟨#[]⟩, .string ⟨#[]⟩, .string ⟨#[]⟩, .string ⟨#[]⟩]) rfl ?_
            clear old dep hoo hsz hb hna hns
            go_simp
          | 13, hoo =>
            obtain rfl := Option.some.inj hoo
            have d11 : a.tmps.getD 81 undef = .tuple #[.agg #[.int .u64 0, .int .i64 0, .int .i64 0, .string ⟨#[]⟩, .string ⟨#[]⟩, .string ⟨#[]⟩, .string ⟨#[]⟩, .string ⟨#[]⟩], .int .i64 11] := dep 11 _ _ (by kernel_rfl) rfl rfl (by decide) _ rfl
            have e11 : a.tmps[81]?.getD undef = _ := (Array.getD_eq_getD_getElem? ..).symm.trans d11
            rw [if_pos (wanted_none rfl)]
            refine box_same (.int .i64 11) rfl ?_
            clear old dep hoo hsz hb hna hns
            go_simp
          | 14, hoo =>
            exact absurd rfl hna
          | 15, hoo =>
            exact absurd rfl hns
          | 16, hoo =>
            obtain rfl := Option.some.inj hoo
            have d13 : a.tmps.getD 94 undef = .int .i64 11 := dep 13 _ _ (by kernel_rfl) rfl rfl (by decide) _ rfl
            have e13 : a.tmps[94]?.getD undef = _ := (Array.getD_eq_getD_getElem? ..).symm.trans d13
            rw [if_pos (wanted_none rfl)]
            refine box_same (.int .i64 11) rfl ?_
            clear old dep hoo hsz hb hna hns
            go_simp
          | i + 17, hoo => exact absurd hoo (by simp)
        · intro a w8 gz hb hgl hB hda hsz hdf fin keep
          obtain ⟨tm, df⟩ := a
          have hx := frame_of [82, 83, 84, 85, 86, 87, 88, 89, 90, 91, 92, 81, 93, 94, 16, 17] (by kernel_rfl) hsz keep
          dsimp only at hdf hx hda
          simp only [List.foldl_cons, List.foldl_nil] at hx
          subst hdf
          clear hsz keep
          have kn : tm.getD 82 undef = .slice A 256 c := fin 0 _ _ rfl rfl (by decide) _ rfl
          rw [kn] at hx
          clear kn
          have kn : tm.getD 83 undef = .slice A 255 c := fin 1 _ _ rfl rfl (by decide) _ rfl
          rw [kn] at hx
          clear kn
          have kn : tm.getD 84 undef = .pointer (some ⟨g, 0, none⟩) := fin 2 _ _ rfl rfl (by decide) _ rfl
          rw [kn] at hx
          clear kn
          have kn : tm.getD 85 undef = .pointer (some ⟨g, 0, none⟩) := fin 3 _ _ rfl rfl (by decide) _ rfl
          rw [kn] at hx
          clear kn
          have kn : tm.getD 86 undef = .pointer (some ⟨g, 1, none⟩) := fin 4 _ _ rfl rfl (by decide) _ rfl
          rw [kn] at hx
          clear kn
          have kn : tm.getD 87 undef = .int .i64 (t : Int) := fin 5 _ _ rfl rfl (by decide) _ rfl
          rw [kn] at hx
          clear kn
          have kn : tm.getD 88 undef = .pointer (some ⟨g, 0, none⟩) := fin 6 _ _ rfl rfl (by decide) _ rfl
          rw [kn] at hx
          clear kn
          have kn : tm.getD 89 undef = .pointer (some ⟨g, 0, none⟩) := fin 7 _ _ rfl rfl (by decide) _ rfl
          rw [kn] at hx
          clear kn
          have kn : tm.getD 90 undef = .pointer (some ⟨g, 2, none⟩) := fin 8 _ _ rfl rfl (by decide) _ rfl
          rw [kn] at hx
          clear kn
          have kn : tm.getD 91 undef = .int .i64 (n : Int) := fin 9 _ _ rfl rfl (by decide) _ rfl
          rw [kn] at hx
          clear kn
          have kn : tm.getD 92 undef = .tuple #[.agg #[.int .u64 0, .int .i64 0, .int .i64 0, .string ⟨#[]⟩, .string ⟨#[]⟩, .string ⟨#[]⟩, .string ⟨#[]⟩, .string ⟨#[]⟩], .int .i64 11] := fin 10 _ _ rfl rfl (by decide) _ rfl
          rw [kn] at hx
          clear kn
          have kn : tm.getD 81 undef = .tuple #[.agg #[.int .u64 0, .int .i64 0, .int .i64 0, .string ⟨#[]⟩, .string ⟨#[]⟩, .string ⟨#[]⟩, .string ⟨#[]⟩, .string ⟨#[]⟩], .int .i64 11] := fin 11 _ _ rfl rfl (by decide) _ rfl
          rw [kn] at hx
          clear kn
          have kn : tm.getD 93 undef = .agg #[.int .u64 0, .int .i64 0, .int .i64 0, .string ⟨#[]⟩, .string ⟨#[]⟩, .string ⟨#[]⟩, .string ⟨#[]⟩, .string ⟨#[]⟩] := fin 12 _ _ rfl rfl (by decide) _ rfl
          rw [kn] at hx
          clear kn
          have kn : tm.getD 94 undef = .int .i64 11 := fin 13 _ _ rfl rfl (by decide) _ rfl
          rw [kn] at hx
          clear kn
          rw [hda] at hx
          have kn : tm.getD 17 undef = .int .i64 11 := fin 16 _ _ rfl rfl (by decide) _ rfl
          rw [kn] at hx
          clear kn
          clear fin hda
          simp only [List.setIfInBounds_toArray, List.set_cons_succ, List.set_cons_zero] at hx
          subst hx
          have HR8 := hide (HR7.out.below hb)
          have HF8 := hide (HF7.out.below hb)
          have HW8 := hide (HW7.out.trans (hb.mono HW7.out.size))
          have PQ8 : Hid (PgB w8 gq ⟨m, t, n, s⟩) := hide (Blk.below PQ7.out hb)
          clear hb hgl hB
          go_wp2
          refine region_grows [Say.rd 256 ((⟨m, t, n, s⟩ : Pg).encL), Say.is (.int .i64 256), Say.is (.bool false), Say.is (.bool false), Say.is (.int .i64 0), Say.is (.bool false), Say.is (.bool false), Say.is (.bool false), Say.is (.int .i64 11), Say.is (.bool false), Say.is (.bool false), Say.is (.bool false), Say.is (.int .i64 11), Say.is (.bool false), Say.is (.bool false), Say.is (.bool false), Say.is (.int .i64 11), Say.is (.bool false), Say.is (.bool false), Say.is (.bool false), Say.is (.agg #[.int .u64 (m : Int), .int .i64 (t : Int), .int .i64 (n : Int), .string (s 0), .string (s 1), .string (s 2), .string (s 3), .string (s 4)]), Say.is (.pointer (some ⟨g, 0, none⟩)), Say.is (.pointer (some ⟨g, 0, none⟩)), Say.is (.agg #[.int .u64 (m : Int), .int .i64 (t : Int), .int .i64 (n : Int), .string (s 0), .string (s 1), .string (s 2), .string (s 3), .string (s 4)]), Say.is (.bool false), Say.is (.bool false), Say.is (.bool false), Say.is (.pointer (some ⟨gq, 0, none⟩)), Say.is (.int .u64 (m : Int)), Say.is (.int .u64 (m : Int)), Say.is (.bool false), Say.is (.bool false)] (by kernel_rfl) (by kernel_rfl) (by kernel_rfl) (by kernel_rfl) ?_ ?_
          · intro i o ho a w2 hb hsz old dep
            match i, ho with
            | 0, ho =>
              obtain rfl := Option.some.inj ho
              have o9 : a.tmps.getD 9 undef = _ := old 9 (by kernel_rfl)
              rw [if_pos (wanted_none rfl)]
              refine grow_same (v := .slice A 256 c) ?_ ⟨_, _, rfl, (HR8.out.below hb)⟩
              clear old dep ho hsz hb
              go_simp
            | 1, ho =>
              obtain rfl := Option.some.inj ho
              obtain ⟨A0, C0, d0, r0⟩ : ∃ A c, a.tmps.getD 95 undef = .slice A 256 c ∧ Rd w2 (.slice A 256 c) (u8s ((⟨m, t, n, s⟩ : Pg).encL)) := dep 0 _ _ (by kernel_rfl) rfl rfl
              have e0 : a.tmps[95]?.getD undef = _ := (Array.getD_eq_getD_getElem? ..).symm.trans d0
              rw [if_pos (wanted_none rfl)]
              refine grow_same (v := .int .i64 256) ?_ rfl
              clear old dep ho hsz hb r0
              go_simp
            | 2, ho =>
              obtain rfl := Option.some.inj ho
              have d1 : a.tmps.getD 96 undef = .int .i64 256 := dep 1 _ _ (by kernel_rfl) rfl rfl
              have e1 : a.tmps[96]?.getD undef = _ := (Array.getD_eq_getD_getElem? ..).symm.trans d1
              rw [if_pos (wanted_none rfl)]
              refine grow_same (v := .bool false) ?_ rfl
              clear old dep ho hsz hb
              go_simp
            | 3, ho =>
              obtain rfl := Option.some.inj ho
              have d2 : a.tmps.getD 97 undef = .bool false := dep 2 _ _ (by kernel_rfl) rfl rfl
              have e2 : a.tmps[97]?.getD undef = _ := (Array.getD_eq_getD_getElem? ..).symm.trans d2
              rw [if_pos (wanted_none rfl)]
              refine grow_same (v := .bool false) ?_ rfl
              clear old dep ho hsz hb
              go_simp
            | 4, ho =>
              obtain rfl := Option.some.inj ho
              have o11 : a.tmps.getD 11 undef = _ := old 11 (by kernel_rfl)
              have d3 : a.tmps.getD 98 undef = .bool false := dep 3 _ _ (by kernel_rfl) rfl rfl
              have e3 : a.tmps[98]?.getD undef = _ := (Array.getD_eq_getD_getElem? ..).symm.trans d3
              rw [if_pos (wanted_some rfl rfl rfl (by rw [hsz]; exact of_decide_eq_true rfl) d3)]
              refine grow_same (v := .int .i64 0) ?_ rfl
              clear old dep ho hsz hb
              go_simp
            | 5, ho =>
              obtain rfl := Option.some.inj ho
              have d4 : a.tmps.getD 99 undef = .int .i64 0 := dep 4 _ _ (by kernel_rfl) rfl rfl
              have e4 : a.tmps[99]?.getD undef = _ := (Array.getD_eq_getD_getElem? ..).symm.trans d4
              have d3 : a.tmps.getD 98 undef = .bool false := dep 3 _ _ (by kernel_rfl) rfl rfl
              have e3 : a.tmps[98]?.getD undef = _ := (Array.getD_eq_getD_getElem? ..).symm.trans d3
              rw [if_pos (wanted_some rfl rfl rfl (by rw [hsz]; exact of_decide_eq_true rfl) d3)]
              refine grow_same (v := .bool false) ?_ rfl
              clear old dep ho hsz hb
              go_simp
            | 6, ho =>
              obtain rfl := Option.some.inj ho
              have d3 : a.tmps.getD 98 undef = .bool false := dep 3 _ _ (by kernel_rfl) rfl rfl
              have e3 : a.tmps[98]?.getD undef = _ := (Array.getD_eq_getD_getElem? ..).symm.trans d3
              have d5 : a.tmps.getD 100 undef = .bool false := dep 5 _ _ (by kernel_rfl) rfl rfl
              have e5 : a.tmps[100]?.getD undef = _ := (Array.getD_eq_getD_getElem? ..).symm.trans d5
              rw [if_pos (wanted_none rfl)]
              refine grow_same (v := .bool false) ?_ rfl
              clear old dep ho hsz hb
              go_simp
            | 7, ho =>
              obtain rfl := Option.some.inj ho
              have d6 : a.tmps.getD 101 undef = .bool false := dep 6 _ _ (by kernel_rfl) rfl rfl
              have e6 : a.tmps[101]?.getD undef = _ := (Array.getD_eq_getD_getElem? ..).symm.trans d6
              rw [if_pos (wanted_none rfl)]
              refine grow_same (v := .bool false) ?_ rfl
              clear old dep ho hsz hb
              go_simp
            | 8, ho =>
              obtain rfl := Option.some.inj ho
              have o13 : a.tmps.getD 13 undef = _ := old 13 (by kernel_rfl)
              have d7 : a.tmps.getD 102 undef = .bool false := dep 7 _ _ (by kernel_rfl) rfl rfl
              have e7 : a.tmps[102]?.getD undef = _ := (Array.getD_eq_getD_getElem? ..).symm.trans d7
              rw [if_pos (wanted_some rfl rfl rfl (by rw [hsz]; exact of_decide_eq_true rfl) d7)]
              refine grow_same (v := .int .i64 11) ?_ rfl
              clear old dep ho hsz hb
              go_simp
            | 9, ho =>
              obtain rfl := Option.some.inj ho
              have d8 : a.tmps.getD 103 undef = .int .i64 11 := dep 8 _ _ (by kernel_rfl) rfl rfl
              have e8 : a.tmps[103]?.getD undef = _ := (Array.getD_eq_getD_getElem? ..).symm.trans d8
              have d7 : a.tmps.getD 102 undef = .bool false := dep 7 _ _ (by kernel_rfl) rfl rfl
              have e7 : a.tmps[102]?.getD undef = _ := (Array.getD_eq_getD_getElem? ..).symm.trans d7
              rw [if_pos (wanted_some rfl rfl rfl (by rw [hsz]; exact of_decide_eq_true rfl) d7)]
              refine grow_same (v := .bool false) ?_ rfl
              clear old dep ho hsz hb
              go_simp
            | 10, ho =>
              obtain rfl := Option.some.inj ho
              have d7 : a.tmps.getD 102 undef = .bool false := dep 7 _ _ (by kernel_rfl) rfl rfl
              have e7 : a.tmps[102]?.getD undef = _ := (Array.getD_eq_getD_getElem? ..).symm.trans d7
              have d9 : a.tmps.getD 104 undef = .bool false := dep 9 _ _ (by kernel_rfl) rfl rfl
              have e9 : a.tmps[104]?.getD undef = _ := (Array.getD_eq_getD_getElem? ..).symm.trans d9
              rw [if_pos (wanted_none rfl)]
              refine grow_same (v := .bool false) ?_ rfl
              clear old dep ho hsz hb
              go_simp
            | 11, ho =>
              obtain rfl := Option.some.inj ho
              have d10 : a.tmps.getD 105 undef = .bool false := dep 10 _ _ (by kernel_rfl) rfl rfl
              have e10 : a.tmps[105]?.getD undef = _ := (Array.getD_eq_getD_getElem? ..).symm.trans d10
              rw [if_pos (wanted_none rfl)]
              refine grow_same (v := .bool false) ?_ rfl
              clear old dep ho hsz hb
              go_simp
            | 12, ho =>
              obtain rfl := Option.some.inj ho
              have o15 : a.tmps.getD 15 undef = _ := old 15 (by kernel_rfl)
              have d11 : a.tmps.getD 106 undef = .bool false := dep 11 _ _ (by kernel_rfl) rfl rfl
              have e11 : a.tmps[106]?.getD undef = _ := (Array.getD_eq_getD_getElem? ..).symm.trans d11
              rw [if_pos (wanted_some rfl rfl rfl (by rw [hsz]; exact of_decide_eq_true rfl) d11)]
              refine grow_same (v := .int .i64 11) ?_ rfl
              clear old dep ho hsz hb
              go_simp
            | 13, ho =>
              obtain rfl := Option.some.inj ho
              have d12 : a.tmps.getD 107 undef = .int .i64 11 := dep 12 _ _ (by kernel_rfl) rfl rfl
              have e12 : a.tmps[107]?.getD undef = _ := (Array.getD_eq_getD_getElem? ..).symm.trans d12
              have d11 : a.tmps.getD 106 undef = .bool false := dep 11 _ _ (by kernel_rfl) rfl rfl
              have e11 : a.tmps[106]?.getD undef = _ := (Array.getD_eq_getD_getElem? ..).symm.trans d11
              rw [if_pos (wanted_some rfl rfl rfl (by rw [hsz]; exact of_decide_eq_true rfl) d11)]
              refine grow_same (v := .bool false) ?_ rfl
              clear old dep ho hsz hb
              go_simp
            | 14, ho =>
              obtain rfl := Option.some.inj ho
              have d11 : a.tmps.getD 106 undef = .bool false := dep 11 _ _ (by kernel_rfl) rfl rfl
              have e11 : a.tmps[106]?.getD undef = _ := (Array.getD_eq_getD_getElem? ..).symm.trans d11
              have d13 : a.tmps.getD 108 undef = .bool false := dep 13 _ _ (by kernel_rfl) rfl rfl
              have e13 : a.tmps[108]?.getD undef = _ := (Array.getD_eq_getD_getElem? ..).symm.trans d13
              rw [if_pos (wanted_none rfl)]
              refine grow_same (v := .bool false) ?_ rfl
              clear old dep ho hsz hb
              go_simp
            | 15, ho =>
              obtain rfl := Option.some.inj ho
              have d14 : a.tmps.getD 109 undef = .bool false := dep 14 _ _ (by kernel_rfl) rfl rfl
              have e14 : a.tmps[109]?.getD undef = _ := (Array.getD_eq_getD_getElem? ..).symm.trans d14
              rw [if_pos (wanted_none rfl)]
              refine grow_same (v := .bool false) ?_ rfl
              clear old dep ho hsz hb
              go_simp
            | 16, ho =>
              obtain rfl := Option.some.inj ho
              have o17 : a.tmps.getD 17 undef = _ := old 17 (by kernel_rfl)
              have d15 : a.tmps.getD 110 undef = .bool false := dep 15 _ _ (by kernel_rfl) rfl rfl
              have e15 : a.tmps[110]?.getD undef = _ := (Array.getD_eq_getD_getElem? ..).symm.trans d15
              rw [if_pos (wanted_some rfl rfl rfl (by rw [hsz]; exact of_decide_eq_true rfl) d15)]
              refine grow_same (v := .int .i64 11) ?_ rfl
              clear old dep ho hsz hb
              go_simp
            | 17, ho =>
              obtain rfl := Option.some.inj ho
              have d16 : a.tmps.getD 111 undef = .int .i64 11 := dep 16 _ _ (by kernel_rfl) rfl rfl
              have e16 : a.tmps[111]?.getD undef = _ := (Array.getD_eq_getD_getElem? ..).symm.trans d16
              have d15 : a.tmps.getD 110 undef = .bool false := dep 15 _ _ (by kernel_rfl) rfl rfl
              have e15 : a.tmps[110]?.getD undef = _ := (Array.getD_eq_getD_getElem? ..).symm.trans d15
              rw [if_pos (wanted_some rfl rfl rfl (by rw [hsz]; exact of_decide_eq_true rfl) d15)]
              refine grow_same (v := .bool false) ?_ rfl
              clear old dep ho hsz hb
              go_simp
            | 18, ho =>
              obtain rfl := Option.some.inj ho
              have d15 : a.tmps.getD 110 undef = .bool false := dep 15 _ _ (by kernel_rfl) rfl rfl
              have e15 : a.tmps[110]?.getD undef = _ := (Array.getD_eq_getD_getElem? ..).symm.trans d15
              have d17 : a.tmps.getD 112 undef = .bool false := dep 17 _ _ (by kernel_rfl) rfl rfl
              have e17 : a.tmps[112]?.getD undef = _ := (Array.getD_eq_getD_getElem? ..).symm.trans d17
              rw [if_pos (wanted_none rfl)]
              refine grow_same (v := .bool false) ?_ rfl
              clear old dep ho hsz hb
              go_simp
            | 19, ho =>
              obtain rfl := Option.some.inj ho
              have d18 : a.tmps.getD 113 undef = .bool false := dep 18 _ _ (by kernel_rfl) rfl rfl
              have e18 : a.tmps[113]?.getD undef = _ := (Array.getD_eq_getD_getElem? ..).symm.trans d18
              rw [if_pos (wanted_none rfl)]
              refine grow_same (v := .bool false) ?_ rfl
              clear old dep ho hsz hb
              go_simp
            | 20, ho =>
              obtain rfl := Option.some.inj ho
              have o10 : a.tmps.getD 10 undef = _ := old 10 (by kernel_rfl)
              have d19 : a.tmps.getD 114 undef = .bool false := dep 19 _ _ (by kernel_rfl) rfl rfl
              have e19 : a.tmps[114]?.getD undef = _ := (Array.getD_eq_getD_getElem? ..).symm.trans d19
              rw [if_pos (wanted_some rfl rfl rfl (by rw [hsz]; exact of_decide_eq_true rfl) d19)]
              obtain ⟨g0, g1, g2, g3, g4, g5, g6, g7⟩ := (PQ8.out.below hb).all
              refine grow_same (v := .agg #[.int .u64 (m : Int), .int .i64 (t : Int), .int .i64 (n : Int), .string (s 0), .string (s 1), .string (s 2), .string (s 3), .string (s 4)]) ?_ rfl
              clear old dep ho hsz hb
              go_simp
            | 21, ho =>
              obtain rfl := Option.some.inj ho
              have o7 : a.tmps.getD 7 undef = _ := old 7 (by kernel_rfl)
              have d19 : a.tmps.getD 114 undef = .bool false := dep 19 _ _ (by kernel_rfl) rfl rfl
              have e19 : a.tmps[114]?.getD undef = _ := (Array.getD_eq_getD_getElem? ..).symm.trans d19
              rw [if_pos (wanted_some rfl rfl rfl (by rw [hsz]; exact of_decide_eq_true rfl) d19)]
              refine grow_same (v := .pointer (some ⟨g, 0, none⟩)) ?_ rfl
              clear old dep ho hsz hb
              go_simp
            | 22, ho =>
              obtain rfl := Option.some.inj ho
              have d21 : a.tmps.getD 116 undef = .pointer (some ⟨g, 0, none⟩) := dep 21 _ _ (by kernel_rfl) rfl rfl
              have e21 : a.tmps[116]?.getD undef = _ := (Array.getD_eq_getD_getElem? ..).symm.trans d21
              have d19 : a.tmps.getD 114 undef = .bool false := dep 19 _ _ (by kernel_rfl) rfl rfl
              have e19 : a.tmps[114]?.getD undef = _ := (Array.getD_eq_getD_getElem? ..).symm.trans d19
              rw [if_pos (wanted_some rfl rfl rfl (by rw [hsz]; exact of_decide_eq_true rfl) d19)]
              refine grow_same (v := .pointer (some ⟨g, 0, none⟩)) ?_ rfl
              clear old dep ho hsz hb
              go_simp
            | 23, ho =>
              obtain rfl := Option.some.inj ho
              have d22 : a.tmps.getD 117 undef = .pointer (some ⟨g, 0, none⟩) := dep 22 _ _ (by kernel_rfl) rfl rfl
              have e22 : a.tmps[117]?.getD undef = _ := (Array.getD_eq_getD_getElem? ..).symm.trans d22
              have d19 : a.tmps.getD 114 undef = .bool false := dep 19 _ _ (by kernel_rfl) rfl rfl
              have e19 : a.tmps[114]?.getD undef = _ := (Array.getD_eq_getD_getElem? ..).symm.trans d19
              rw [if_pos (wanted_some rfl rfl rfl (by rw [hsz]; exact of_decide_eq_true rfl) d19)]
              obtain ⟨g0, g1, g2, g3, g4, g5, g6, g7⟩ := (HF8.out.pg.below hb).all
              refine grow_same (v := .agg #[.int .u64 (m : Int), .int .i64 (t : Int), .int .i64 (n : Int), .string (s 0), .string (s 1), .string (s 2), .string (s 3), .string (s 4)]) ?_ rfl
              clear old dep ho hsz hb
              go_simp
            | 24, ho =>
              obtain rfl := Option.some.inj ho
              have d20 : a.tmps.getD 115 undef = .agg #[.int .u64 (m : Int), .int .i64 (t : Int), .int .i64 (n : Int), .string (s 0), .string (s 1), .string (s 2), .string (s 3), .string (s 4)] := dep 20 _ _ (by kernel_rfl) rfl rfl
              have e20 : a.tmps[115]?.getD undef = _ := (Array.getD_eq_getD_getElem? ..).symm.trans d20
              have d23 : a.tmps.getD 118 undef = .agg #[.int .u64 (m : Int), .int .i64 (t : Int), .int .i64 (n : Int), .string (s 0), .string (s 1), .string (s 2), .string (s 3), .string (s 4)] := dep 23 _ _ (by kernel_rfl) rfl rfl
              have e23 : a.tmps[118]?.getD undef = _ := (Array.getD_eq_getD_getElem? ..).symm.trans d23
              have d19 : a.tmps.getD 114 undef = .bool false := dep 19 _ _ (by kernel_rfl) rfl rfl
              have e19 : a.tmps[114]?.getD undef = _ := (Array.getD_eq_getD_getElem? ..).symm.trans d19
              rw [if_pos (wanted_some rfl rfl rfl (by rw [hsz]; exact of_decide_eq_true rfl) d19)]
              exact grow_same (v := .bool false) (exec_neq_page rfl d20 d23) rfl
            | 25, ho =>
              obtain rfl := Option.some.inj ho
              have d19 : a.tmps.getD 114 undef = .bool false := dep 19 _ _ (by kernel_rfl) rfl rfl
              have e19 : a.tmps[114]?.getD undef = _ := (Array.getD_eq_getD_getElem? ..).symm.trans d19
              have d24 : a.tmps.getD 119 undef = .bool false := dep 24 _ _ (by kernel_rfl) rfl rfl
              have e24 : a.tmps[119]?.getD undef = _ := (Array.getD_eq_getD_getElem? ..).symm.trans d24
              rw [if_pos (wanted_none rfl)]
              refine grow_same (v := .bool false) ?_ rfl
              clear old dep ho hsz hb
              go_simp
            | 26, ho =>
              obtain rfl := Option.some.inj ho
              have d25 : a.tmps.getD 120 undef = .bool false := dep 25 _ _ (by kernel_rfl) rfl rfl
              have e25 : a.tmps[120]?.getD undef = _ := (Array.getD_eq_getD_getElem? ..).symm.trans d25
              rw [if_pos (wanted_none rfl)]
              refine grow_same (v := .bool false) ?_ rfl
              clear old dep ho hsz hb
              go_simp
            | 27, ho =>
              obtain rfl := Option.some.inj ho
              have o10 : a.tmps.getD 10 undef = _ := old 10 (by kernel_rfl)
              have d26 : a.tmps.getD 121 undef = .bool false := dep 26 _ _ (by kernel_rfl) rfl rfl
              have e26 : a.tmps[121]?.getD undef = _ := (Array.getD_eq_getD_getElem? ..).symm.trans d26
              rw [if_pos (wanted_some rfl rfl rfl (by rw [hsz]; exact of_decide_eq_true rfl) d26)]
              refine grow_same (v := .pointer (some ⟨gq, 0, none⟩)) ?_ rfl
              clear old dep ho hsz hb
              go_simp
            | 28, ho =>
              obtain rfl := Option.some.inj ho
              have d27 : a.tmps.getD 122 undef = .pointer (some ⟨gq, 0, none⟩) := dep 27 _ _ (by kernel_rfl) rfl rfl
              have e27 : a.tmps[122]?.getD undef = _ := (Array.getD_eq_getD_getElem? ..).symm.trans d27
              have d26 : a.tmps.getD 121 undef = .bool false := dep 26 _ _ (by kernel_rfl) rfl rfl
              have e26 : a.tmps[121]?.getD undef = _ := (Array.getD_eq_getD_getElem? ..).symm.trans d26
              rw [if_pos (wanted_some rfl rfl rfl (by rw [hsz]; exact of_decide_eq_true rfl) d26)]
              obtain ⟨g0, g1, g2, g3, g4, g5, g6, g7⟩ := (PQ8.out.below hb).all
              refine grow_same (v := .int .u64 (m : Int)) ?_ rfl
              clear old dep ho hsz hb
              go_simp
            | 29, ho =>
              obtain rfl := Option.some.inj ho
              have o1 : a.tmps.getD 1 undef = _ := old 1 (by kernel_rfl)
              have d26 : a.tmps.getD 121 undef = .bool false := dep 26 _ _ (by kernel_rfl) rfl rfl
              have e26 : a.tmps[121]?.getD undef = _ := (Array.getD_eq_getD_getElem? ..).symm.trans d26
              rw [if_pos (wanted_some rfl rfl rfl (by rw [hsz]; exact of_decide_eq_true rfl) d26)]
              refine grow_same (v := .int .u64 (m : Int)) ?_ rfl
              clear old dep ho hsz hb
              go_simp
            | 30, ho =>
              obtain rfl := Option.some.inj ho
              have d28 : a.tmps.getD 123 undef = .int .u64 (m : Int) := dep 28 _ _ (by kernel_rfl) rfl rfl
              have e28 : a.tmps[123]?.getD undef = _ := (Array.getD_eq_getD_getElem? ..).symm.trans d28
              have d29 : a.tmps.getD 124 undef = .int .u64 (m : Int) := dep 29 _ _ (by kernel_rfl) rfl rfl
              have e29 : a.tmps[124]?.getD undef = _ := (Array.getD_eq_getD_getElem? ..).symm.trans d29
              have d26 : a.tmps.getD 121 undef = .bool false := dep 26 _ _ (by kernel_rfl) rfl rfl
              have e26 : a.tmps[121]?.getD undef = _ := (Array.getD_eq_getD_getElem? ..).symm.trans d26
              rw [if_pos (wanted_some rfl rfl rfl (by rw [hsz]; exact of_decide_eq_true rfl) d26)]
              refine grow_same (v := .bool false) ?_ rfl
              clear old dep ho hsz hb
              go_simp
            | 31, ho =>
              obtain rfl := Option.some.inj ho
              have d26 : a.tmps.getD 121 undef = .bool false := dep 26 _ _ (by kernel_rfl) rfl rfl
              have e26 : a.tmps[121]?.getD undef = _ := (Array.getD_eq_getD_getElem? ..).symm.trans d26
              have d30 : a.tmps.getD 125 undef = .bool false := dep 30 _ _ (by kernel_rfl) rfl rfl
              have e30 : a.tmps[125]?.getD undef = _ := (Array.getD_eq_getD_getElem? ..).symm.trans d30
              rw [if_pos (wanted_none rfl)]
              refine grow_same (v := .bool false) ?_ rfl
              clear old dep ho hsz hb
              go_simp
            | i + 32, ho => exact absurd ho (by simp)
          · intro a w9 hb hsz hdf fin keep
            obtain ⟨tm, df⟩ := a
            have hx := frame_of [95, 96, 97, 98, 99, 100, 101, 102, 103, 104, 105, 106, 107, 108, 109, 110, 111, 112, 113, 114, 115, 116, 117, 118, 119, 120, 121, 122, 123, 124, 125, 126] (by kernel_rfl) hsz keep
            dsimp only at hdf hx
            simp only [List.foldl_cons, List.foldl_nil] at hx
            subst hdf
            clear hsz keep
            obtain ⟨A95, C95, kn, R95⟩ : ∃ A c, tm.getD 95 undef = .slice A 256 c ∧ Rd w9 (.slice A 256 c) (u8s ((⟨m, t, n, s⟩ : Pg).encL)) := fin 0 _ _ rfl rfl
            rw [kn] at hx
            clear kn
            clear R95
            have kn : tm.getD 96 undef = .int .i64 256 := fin 1 _ _ rfl rfl
            rw [kn] at hx
            clear kn
            have kn : tm.getD 97 undef = .bool false := fin 2 _ _ rfl rfl
            rw [kn] at hx
            clear kn
            have kn : tm.getD 98 undef = .bool false := fin 3 _ _ rfl rfl
            rw [kn] at hx
            clear kn
            have kn : tm.getD 99 undef = .int .i64 0 := fin 4 _ _ rfl rfl
            rw [kn] at hx
            clear kn
            have kn : tm.getD 100 undef = .bool false := fin 5 _ _ rfl rfl
            rw [kn] at hx
            clear kn
            have kn : tm.getD 101 undef = .bool false := fin 6 _ _ rfl rfl
            rw [kn] at hx
            clear kn
            have kn : tm.getD 102 undef = .bool false := fin 7 _ _ rfl rfl
            rw [kn] at hx
            clear kn
            have kn : tm.getD 103 undef = .int .i64 11 := fin 8 _ _ rfl rfl
            rw [kn] at hx
            clear kn
            have kn : tm.getD 104 undef = .bool false := fin 9 _ _ rfl rfl
            rw [kn] at hx
            clear kn
            have kn : tm.getD 105 undef = .bool false := fin 10 _ _ rfl rfl
            rw [kn] at hx
            clear kn
            have kn : tm.getD 106 undef = .bool false := fin 11 _ _ rfl rfl
            rw [kn] at hx
            clear kn
            have kn : tm.getD 107 undef = .int .i64 11 := fin 12 _ _ rfl rfl
            rw [kn] at hx
            clear kn
            have kn : tm.getD 108 undef = .bool false := fin 13 _ _ rfl rfl
            rw [kn] at hx
            clear kn
            have kn : tm.getD 109 undef = .bool false := fin 14 _ _ rfl rfl
            rw [kn] at hx
            clear kn
            have kn : tm.getD 110 undef = .bool false := fin 15 _ _ rfl rfl
            rw [kn] at hx
            clear kn
            have kn : tm.getD 111 undef = .int .i64 11 := fin 16 _ _ rfl rfl
            rw [kn] at hx
            clear kn
            have kn : tm.getD 112 undef = .bool false := fin 17 _ _ rfl rfl
            rw [kn] at hx
            clear kn
            have kn : tm.getD 113 undef = .bool false := fin 18 _ _ rfl rfl
            rw [kn] at hx
            clear kn
            have kn : tm.getD 114 undef = .bool false := fin 19 _ _ rfl rfl
            rw [kn] at hx
            clear kn
            have kn : tm.getD 115 undef = .agg #[.int .u64 (m : Int), .int .i64 (t : Int), .int .i64 (n : Int), .string (s 0), .string (s 1), .string (s 2), .string (s 3), .string (s 4)] := fin 20 _ _ rfl rfl
            rw [kn] at hx
            clear kn
            have kn : tm.getD 116 undef = .pointer (some ⟨g, 0, none⟩) := fin 21 _ _ rfl rfl
            rw [kn] at hx
            clear kn
            have kn : tm.getD 117 undef = .pointer (some ⟨g, 0, none⟩) := fin 22 _ _ rfl rfl
            rw [kn] at hx
            clear kn
            have kn : tm.getD 118 undef = .agg #[.int .u64 (m : Int), .int .i64 (t : Int), .int .i64 (n : Int), .string (s 0), .string (s 1), .string (s 2), .string (s 3), .string (s 4)] := fin 23 _ _ rfl rfl
            rw [kn] at hx
            clear kn
            have kn : tm.getD 119 undef = .bool false := fin 24 _ _ rfl rfl
            rw [kn] at hx
            clear kn
            have kn : tm.getD 120 undef = .bool false := fin 25 _ _ rfl rfl
            rw [kn] at hx
            clear kn
            have kn : tm.getD 121 undef = .bool false := fin 26 _ _ rfl rfl
            rw [kn] at hx
            clear kn
            have kn : tm.getD 122 undef = .pointer (some ⟨gq, 0, none⟩) := fin 27 _ _ rfl rfl
            rw [kn] at hx
            clear kn
            have kn : tm.getD 123 undef = .int .u64 (m : Int) := fin 28 _ _ rfl rfl
            rw [kn] at hx
            clear kn
            have kn : tm.getD 124 undef = .int .u64 (m : Int) := fin 29 _ _ rfl rfl
            rw [kn] at hx
            clear kn
            have kn : tm.getD 125 undef = .bool false := fin 30 _ _ rfl rfl
            rw [kn] at hx
            clear kn
            have kn : tm.getD 126 undef = .bool false := fin 31 _ _ rfl rfl
            rw [kn] at hx
            clear kn
            clear fin
            simp only [List.setIfInBounds_toArray, List.set_cons_succ, List.set_cons_zero] at hx
            subst hx
            have HF9 := hide (HF8.out.below hb)
            have PQ9 := hide (PQ8.out.below hb)
            have HW9 := hide (HW8.out.trans (hb.mono HW8.out.size))
            clear hb
            go_wp2
            go_loopg [129] 5 (fun q i wr => ∃ j : Nat, j + q = 5 ∧ i = .int .i64 j ∧ Hid (Fld w2 wr g gm ⟨m, t, n, s⟩) ∧ Hid (PgB wr gq ⟨m, t, n, s⟩) ∧ Hid (Below w.heap.size w wr))
            case atStart => exact ⟨0, by omega, rfl, HF9, PQ9, HW9⟩
            case round =>
              obtain ⟨j, hj, rfl, hf, hq, hbe⟩ := hrel
              cases gk with
              | zero =>
                obtain rfl : j = 5 := by omega
                go_wp2
                go_ret
                exact ⟨rfl, hbe.out⟩
              | succ q =>
                have hlt : j < 5 := by omega
                have HJ := hide hlt
                go_wp2
                refine region_grows [Say.is (.int .i64 (j : Int)), Say.is (.string (s j)), Say.is (.slice (some ⟨gm, 0, none⟩) 5 5), Say.is (.int .i64 (j : Int)), Say.is (.pointer (some ⟨gm, j, none⟩)), Say.is (.string (s j)), Say.is (.bool false)] (by kernel_rfl) (by kernel_rfl) (by kernel_rfl) (by kernel_rfl) ?_ ?_
                · intro i o ho a w2 hb hsz old dep
                  match i, ho with
                  | 0, ho =>
                    obtain rfl := Option.some.inj ho
                    have o18 : a.tmps.getD 18 undef = _ := old 18 (by kernel_rfl)
                    rw [if_pos (wanted_none rfl)]
                    refine grow_same (v := .int .i64 (j : Int)) ?_ rfl
                    clear old dep ho hsz hb
                    go_simp
                  | 1, ho =>
                    obtain rfl := Option.some.inj ho
                    have o10 : a.tmps.getD 10 undef = _ := old 10 (by kernel_rfl)
                    have d0 : a.tmps.getD 132 undef = .int .i64 (j : Int) := dep 0 _ _ (by kernel_rfl) rfl rfl
                    have e0 : a.tmps[132]?.getD undef = _ := (Array.getD_eq_getD_getElem? ..).symm.trans d0
                    rw [if_pos (wanted_none rfl)]
                    refine grow_enters (f := 16) (args := #[.pointer (some ⟨gq, 0, none⟩), .int .i64 (j : Int)]) ?_ (slot_say (hq.out.below hb) j HJ.out)
                    clear old dep ho hsz hb
                    go_simp
                  | 2, ho =>
                    obtain rfl := Option.some.inj ho
                    have o8 : a.tmps.getD 8 undef = _ := old 8 (by kernel_rfl)
                    rw [if_pos (wanted_none rfl)]
                    refine grow_same (v := .slice (some ⟨gm, 0, none⟩) 5 5) ?_ rfl
                    clear old dep ho hsz hb
                    go_simp
                  | 3, ho =>
                    obtain rfl := Option.some.inj ho
                    have o18 : a.tmps.getD 18 undef = _ := old 18 (by kernel_rfl)
                    rw [if_pos (wanted_none rfl)]
                    refine grow_same (v := .int .i64 (j : Int)) ?_ rfl
                    clear old dep ho hsz hb
                    go_simp
                  | 4, ho =>
                    obtain rfl := Option.some.inj ho
                    have d2 : a.tmps.getD 134 undef = .slice (some ⟨gm, 0, none⟩) 5 5 := dep 2 _ _ (by kernel_rfl) rfl rfl
                    have e2 : a.tmps[134]?.getD undef = _ := (Array.getD_eq_getD_getElem? ..).symm.trans d2
                    have d3 : a.tmps.getD 135 undef = .int .i64 (j : Int) := dep 3 _ _ (by kernel_rfl) rfl rfl
                    have e3 : a.tmps[135]?.getD undef = _ := (Array.getD_eq_getD_getElem? ..).symm.trans d3
                    rw [if_pos (wanted_none rfl)]
                    have hj1 : (j : Int) < 5 := by have := HJ.out; omega
                    have hj0 : (0 : Int) ≤ (j : Int) := by omega
                    refine grow_same (v := .pointer (some ⟨gm, j, none⟩)) ?_ rfl
                    clear old dep ho hsz hb
                    go_simp
                  | 5, ho =>
                    obtain rfl := Option.some.inj ho
                    have d4 : a.tmps.getD 136 undef = .pointer (some ⟨gm, j, none⟩) := dep 4 _ _ (by kernel_rfl) rfl rfl
                    have e4 : a.tmps[136]?.getD undef = _ := (Array.getD_eq_getD_getElem? ..).symm.trans d4
                    rw [if_pos (wanted_none rfl)]
                    have g0 := (hf.out.below hb).cell HJ.out
                    refine grow_same (v := .string (s j)) ?_ rfl
                    clear old dep ho hsz hb
                    go_simp
                  | 6, ho =>
                    obtain rfl := Option.some.inj ho
                    have d1 : a.tmps.getD 133 undef = .string (s j) := dep 1 _ _ (by kernel_rfl) rfl rfl
                    have e1 : a.tmps[133]?.getD undef = _ := (Array.getD_eq_getD_getElem? ..).symm.trans d1
                    have d5 : a.tmps.getD 137 undef = .string (s j) := dep 5 _ _ (by kernel_rfl) rfl rfl
                    have e5 : a.tmps[137]?.getD undef = _ := (Array.getD_eq_getD_getElem? ..).symm.trans d5
                    rw [if_pos (wanted_none rfl)]
                    refine grow_same (v := .bool false) ?_ rfl
                    clear old dep ho hsz hb
                    go_simp
                  | i + 7, ho => exact absurd ho (by simp)
                · intro a wA hb hsz hdf fin keep
                  obtain ⟨tm, df⟩ := a
                  have hx := frame_of [132, 133, 134, 135, 136, 137, 138] (by kernel_rfl) hsz keep
                  dsimp only at hdf hx
                  simp only [List.foldl_cons, List.foldl_nil] at hx
                  subst hdf
                  clear hsz keep
                  have kn : tm.getD 132 undef = .int .i64 (j : Int) := fin 0 _ _ rfl rfl
                  rw [kn] at hx
                  clear kn
                  have kn : tm.getD 133 undef = .string (s j) := fin 1 _ _ rfl rfl
                  rw [kn] at hx
                  clear kn
                  have kn : tm.getD 134 undef = .slice (some ⟨gm, 0, none⟩) 5 5 := fin 2 _ _ rfl rfl
                  rw [kn] at hx
                  clear kn
                  have kn : tm.getD 135 undef = .int .i64 (j : Int) := fin 3 _ _ rfl rfl
                  rw [kn] at hx
                  clear kn
                  have kn : tm.getD 136 undef = .pointer (some ⟨gm, j, none⟩) := fin 4 _ _ rfl rfl
                  rw [kn] at hx
                  clear kn
                  have kn : tm.getD 137 undef = .string (s j) := fin 5 _ _ rfl rfl
                  rw [kn] at hx
                  clear kn
                  have kn : tm.getD 138 undef = .bool false := fin 6 _ _ rfl rfl
                  rw [kn] at hx
                  clear kn
                  clear fin
                  simp only [List.setIfInBounds_toArray, List.set_cons_succ, List.set_cons_zero] at hx
                  subst hx
                  have hf2 := hide (hf.out.below hb)
                  have hq2 := hide (hq.out.below hb)
                  have hb2 := hide (hbe.out.trans (hb.mono hbe.out.size))
                  clear hb
                  go_wp2
                  go_roundg q
                  case rel => exact ⟨j + 1, by omega, by go_num, hf2, hq2, hb2⟩
                  case measure => omega
theorem pback_walk (v : Value) (rs : List RowD) (x a0 a1 : Int) (w : World) (hv : RowRow w w.heap.size v rs) (_ : (Lit.int .u64 x).wf = true) (_ : (Lit.int .i64 a0).wf = true) (_ : (Lit.int .i64 a1).wf = true) :
    Calls Try.prog 3 #[v, .int .u64 x, .agg #[.int .i64 a0, .int .i64 a1]] w fun e w' => e = .returned (.bool true) ∧ Below w.heap.size w w' := by
  cases hl : lightsB rs
  · exact back_long v rs x a0 a1 w hv hl
  · exact back_light v rs x a0 a1 w hv hl
end Go.Proofs.Ytajpjffjhnmfmaa
