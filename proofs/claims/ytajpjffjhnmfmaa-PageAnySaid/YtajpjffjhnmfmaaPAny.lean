/-
  The walk of PageAny.
-/
import Derived.Test.YtajpjffjhnmfmaaFill
import Derived.Test.YtajpjffjhnmfmaaTurns
namespace Go.Proofs.Ytajpjffjhnmfmaa
open Go.RowKit

set_option linter.unusedSimpArgs false
set_option linter.unusedVariables false
theorem and8 (x : Int) : ∃ n : Nat, n < 256 ∧ bits .and .i64 x 255 = (n : Int) := by
  have h2 : bits .and .i64 x 255 = IntKind.i64.wrap (((BitVec.ofInt 64 x &&& BitVec.ofInt 64 255).toNat : Int)) := rfl
  have h4 : (BitVec.ofInt 64 255).toNat = 2 ^ 8 - 1 := by rw [BitVec.toNat_ofInt]; rfl
  rw [h2, BitVec.toNat_and, h4, Nat.and_two_pow_sub_one_eq_mod, BitVec.toNat_ofInt]
  refine ⟨(x % ((2 ^ 64 : Nat) : Int)).toNat % 2 ^ 8, by omega, ?_⟩
  rw [IntKind.wrap_i64]; omega
/-- A byte of one's own row, set. -/
theorem mine_set {w : World} {base : Nat} {A : Option Addr} {c : Nat} {l : List UInt8} {i : Nat} (h : Mine w base (.slice A 256 c) l) (hi : i < 256) (x : UInt8) :
    ∃ g, A = some ⟨g, 0, none⟩ ∧ base ≤ g ∧ (∃ u, w.cell? ⟨g, i, none⟩ = some u) ∧ w.frozen? ⟨g, i, none⟩ = false ∧ Rd (w.setCell ⟨g, i, none⟩ (.int .u8 (x.toNat : Int))) (.slice (some ⟨g, 0, none⟩) 256 c) (u8s (l.set i x)) := by
  have hl : l.length = 256 := by
    obtain ⟨A', c', e⟩ := h.form
    injection e with _ e2 _
    exact e2.symm
  rcases id h.2 with ⟨e, hz⟩ | ⟨g, cap, cur, e, hbg, hg, hnc, hcm, hcs, htake⟩
  · omega
  · injection e with e1 e2 e3
    subst e1 e3
    have hB : Blk w g 5 cur := hg
    have hcs' : cur.size = c := by simpa using hcs
    have hic : i < cur.size := by omega
    refine ⟨g, rfl, hbg, ⟨_, hB.cell i _ (Array.getElem?_eq_getElem hic)⟩, hB.frozen i, ?_⟩
    have hB2 := hB.set_ i (.int .u8 (x.toNat : Int))
    have hlu : (u8s (l.set i x)).length = 256 := by rw [u8s_length, List.length_set, hl]
    refine ⟨some ⟨g, 0, none⟩, c, by rw [hlu], by omega, fun _ => ⟨g, 0, rfl, hB2.lt, fun j u hu => ?_⟩⟩
    rw [Nat.zero_add]
    refine hB2.cell j u ?_
    have hj : j < 256 := by have := (List.getElem?_eq_some_iff.1 hu).1; omega
    have ht : cur.toList.take (l.length * 1) = u8s l := htake
    rw [Nat.mul_one, hl] at ht
    have hcur : ∀ k, k < 256 → cur[k]? = (u8s l)[k]? := by
      intro k hk
      rw [← ht, List.getElem?_take, if_pos hk]
      simp
    rw [Array.getElem?_setIfInBounds]
    by_cases e : i = j
    · subst e
      rw [if_pos rfl, if_pos hic]
      rw [u8s_get _ i (by rw [List.length_set, hl]; exact hi)] at hu
      rw [List.getElem_set_self] at hu
      exact hu
    · rw [if_neg e, hcur j hj]
      rw [u8s_get _ j (by rw [List.length_set, hl]; exact hj), List.getElem_set_ne e] at hu
      rw [u8s_get _ j (by rw [hl]; exact hj)]
      exact hu
theorem mine_any {w : World} {base : Nat} {A : Option Addr} {c : Nat} {l : List UInt8} {i : Nat} (h : Mine w base (.slice A 256 c) l) (hi : i < 256) (x : UInt8) :
    ∃ g l1, A = some ⟨g, 0, none⟩ ∧ base ≤ g ∧ l1.length = 256 ∧ (∃ u, w.cell? ⟨g, i, none⟩ = some u) ∧ w.frozen? ⟨g, i, none⟩ = false ∧ Rd (w.setCell ⟨g, i, none⟩ (.int .u8 (x.toNat : Int))) (.slice (some ⟨g, 0, none⟩) 256 c) (u8s l1) := by
  obtain ⟨g, h1, h2, h3, h4, h5⟩ := mine_set h hi x
  refine ⟨g, l.set i x, h1, h2, ?_, h3, h4, h5⟩
  obtain ⟨A', c', e⟩ := h.form
  injection e with _ e2 _
  rw [List.length_set]
  exact e2.symm
theorem decode_told8 (v : Value) (l : List UInt8) (t n : Nat) (w : World) (hl : l.length = 256) (hv : Rd w v (u8s l)) :
    Calls Try.prog 15 #[v, .int .i64 (t : Int), .int .i64 (n : Int)] w fun e w' => ∃ (qm qt qn : Nat) (qs : Nat → ByteArray) (e' : Int), e = .returned (.tuple #[.agg #[.int .u64 (qm : Int), .int .i64 (qt : Int), .int .i64 (qn : Int), .string (qs 0), .string (qs 1), .string (qs 2), .string (qs 3), .string (qs 4)], .int .i64 e']) ∧ DecP l t n ⟨qm, qt, qn, qs⟩ e' ∧ Below w.heap.size w w' := by
  refine (decode_pg v l t n w (by omega) hv).mono ?_
  rintro e w' ⟨⟨qm, qt, qn, qs⟩, e', rfl, hd, hb⟩
  exact ⟨qm, qt, qn, qs, e', rfl, hd, hb⟩
theorem decode_z256 (t n : Nat) (w : World) : Calls Try.prog 15 #[.slice (some ⟨w.heap.size, 0, none⟩) 256 256, .int .i64 (t : Int), .int .i64 (n : Int)] (w.alloc (.cells (blk8 z256) 5)) fun e w' => e = .returned (.tuple #[.agg #[.int .u64 0, .int .i64 (t : Int), .int .i64 (n : Int), .string ⟨#[]⟩, .string ⟨#[]⟩, .string ⟨#[]⟩, .string ⟨#[]⟩, .string ⟨#[]⟩], .int .i64 0]) ∧ Below w.heap.size w w' := by
  refine (pdec0_yes _ z256 t n _ (by rw [z256_length]; omega) (mine_new (b := w.heap.size) z256 (Nat.le_refl _) rfl z256_length (by omega)).rd z256_read rfl).mono ?_
  rintro e w' ⟨rfl, hb⟩
  have h0 : Below w.heap.size w (w.alloc (.cells (blk8 z256) 5)) := (Below.refl _ _).alloc (Nat.le_refl _) _
  exact ⟨rfl, h0.trans (hb.mono h0.size)⟩
theorem decode_23 (v : Value) (l : List UInt8) (w : World) (hl : l.length = 256) (hv : Rd w v (u8s l)) :
    Calls Try.prog 15 #[v, .int .i64 2, .int .i64 3] w fun e w' => ∃ (qm qt qn : Nat) (qs : Nat → ByteArray) (e' : Int), e = .returned (.tuple #[.agg #[.int .u64 (qm : Int), .int .i64 (qt : Int), .int .i64 (qn : Int), .string (qs 0), .string (qs 1), .string (qs 2), .string (qs 3), .string (qs 4)], .int .i64 e']) ∧ DecP l 2 3 ⟨qm, qt, qn, qs⟩ e' ∧ Below w.heap.size w w' :=
  decode_told8 v l 2 3 w hl hv
theorem decode_z23 {g : Nat} (w : World) (hg : w.heap.size = g) : Calls Try.prog 15 #[.slice (some ⟨g, 0, none⟩) 256 256, .int .i64 2, .int .i64 3] (w.alloc (.cells (blk8 z256) 5)) fun e w' => e = .returned (.tuple #[.agg #[.int .u64 0, .int .i64 2, .int .i64 3, .string ⟨#[]⟩, .string ⟨#[]⟩, .string ⟨#[]⟩, .string ⟨#[]⟩, .string ⟨#[]⟩], .int .i64 0]) ∧ Below w.heap.size w w' := by
  subst hg
  exact decode_z256 2 3 w
theorem free_z {w : World} {g : Nat} (h : PgB w g (pTN 2 3)) : Calls Try.prog 21 #[.pointer (some ⟨g, 0, none⟩), .slice none 0 0] w fun e w' => e = .returned (.int .i64 0) ∧ w = w' := by
  have := free_0 h
  rwa [show (pTN 2 3).freeI [] = 0 from free_here (pTN 2 3) [] 0 (by omega) (fun j hj => absurd hj (by omega)) (by decide)] at this
theorem any_step {w w4 w5 : World} {B gb i c : Nat} {u : Value} {l : List UInt8} (h4 : Below w.heap.size w w4) (hg : B ≤ gb) (hr : Rd (w4.setCell ⟨gb, i, none⟩ u) (.slice (some ⟨gb, 0, none⟩) 256 c) (u8s l)) (hb : Below (w4.setCell ⟨gb, i, none⟩ u).heap.size (w4.setCell ⟨gb, i, none⟩ u) w5) (q : Pg) (hB : w.heap.size ≤ B) :
    Below w.heap.size w (w5.alloc (.cells q.cells 35)) ∧ Rd (w5.alloc (.cells q.cells 35)) (.slice (some ⟨gb, 0, none⟩) 256 c) (u8s l) ∧ PgB (w5.alloc (.cells q.cells 35)) w5.heap.size q := by
  have h5 := h4.setCell (p := ⟨gb, i, none⟩) (by show _ ≤ gb; omega) u
  have h6 := h5.trans (hb.mono h5.size)
  exact ⟨h6.alloc h6.size _, (hr.below hb).alloc _, pgb_new _ _⟩
theorem encode_growp (m t n : Nat) (s : Nat → ByteArray) (w : World) (hs : ∀ j, j < 5 → okB (s j) = true) (ht : t < 65536) (hn : n < 65536) {l : List UInt8} (hl : (⟨m, t, n, s⟩ : Pg).encL = l) :
    Calls Try.prog 14 #[.agg #[.int .u64 (m : Int), .int .i64 (t : Int), .int .i64 (n : Int), .string (s 0), .string (s 1), .string (s 2), .string (s 3), .string (s 4)]] w fun e w' => ∃ v, e = .returned v ∧ (Say.rd 256 l).p w' v ∧ Below w.heap.size w w' := by
  subst hl
  refine (encode_mtn m t n s w hs ht hn).mono ?_
  rintro e w' ⟨A, c, rfl, hm, hb⟩
  exact ⟨_, rfl, ⟨A, c, rfl, hm.rd⟩, hb⟩
theorem fill_c (v : Value) (rs : List RowD) (w : World) (h30 : lightsB rs = true) (hv : RowRow w w.heap.size v rs) :
    Calls Try.prog 13 #[v, .int .u64 5, .int .i64 2, .int .i64 3] w fun e w' => ∃ g gm s, e = .returned (.tuple #[.pointer (some ⟨g, 0, none⟩), .slice (some ⟨gm, 0, none⟩) 5 5]) ∧ Fld w w' g gm ⟨5, 2, 3, s⟩ ∧ ∀ j, j < 5 → okB (s j) = true :=
  fill_told (t := 2) (n := 3) v rs 5 2 3 w h30 (by decide) (by decide) hv
theorem enc_c (s : Nat → ByteArray) (w : World) (hs : ∀ j, j < 5 → okB (s j) = true) :
    Calls Try.prog 14 #[.agg #[.int .u64 5, .int .i64 2, .int .i64 3, .string (s 0), .string (s 1), .string (s 2), .string (s 3), .string (s 4)]] w fun e w' => ∃ A c, e = .returned (.slice A 256 c) ∧ Mine w' w.heap.size (.slice A 256 c) (⟨5, 2, 3, s⟩ : Pg).encL ∧ Below w.heap.size w w' :=
  encode_mtn 5 2 3 s w hs (by omega) (by omega)
theorem all_c {w : World} {g : Nat} {s : Nat → ByteArray} (h : PgB w g ⟨5, 2, 3, s⟩) : w.cell? ⟨g, 0, none⟩ = some (.int .u64 5) ∧ w.cell? ⟨g, 1, none⟩ = some (.int .i64 2) ∧ w.cell? ⟨g, 2, none⟩ = some (.int .i64 3) ∧
    w.cell? ⟨g, 3, none⟩ = some (.string (s 0)) ∧ w.cell? ⟨g, 4, none⟩ = some (.string (s 1)) ∧ w.cell? ⟨g, 5, none⟩ = some (.string (s 2)) ∧ w.cell? ⟨g, 6, none⟩ = some (.string (s 3)) ∧ w.cell? ⟨g, 7, none⟩ = some (.string (s 4)) := h.all
set_option maxHeartbeats 1000000 in
theorem pany_long (v : Value) (rs : List RowD) (y : Int) (x : UInt8) (w : World) (hv : RowRow w w.heap.size v rs) (hl : lightsB rs = false) :
    Calls Try.prog 6 #[v, .int .i64 y, .int .u8 (x.toNat : Int)] w fun e w' => e = .returned (.bool true) ∧ Below w.heap.size w w' := by
  have V0 := hide (RIn.start hv)
  clear hv
  go_enter Try.func6, Try.ntmps6
  go_wp2_with (first
    | (go_at_call 11; (with_reducible refine (fit_any _).mono ?_); rintro e w1 ⟨rfl, hb1⟩; have V1 := hide (V0.out.below hb1); clear hb1)
    | (go_at_call 12; (with_reducible refine (light_told false v rs _ V1.out.row hl).mono ?_); rintro e w2 ⟨rfl, hb2⟩; have V2 := hide (V1.out.below hb2); clear hb2))
  go_ret
  exact ⟨rfl, V2.out.bel⟩
set_option maxRecDepth 20000 in
set_option maxHeartbeats 4000000 in
theorem pany_light (v : Value) (rs : List RowD) (y : Int) (x : UInt8) (w : World) (hv : RowRow w w.heap.size v rs) (hl : lightsB rs = true) :
    Calls Try.prog 6 #[v, .int .i64 y, .int .u8 (x.toNat : Int)] w fun e w' => e = .returned (.bool true) ∧ Below w.heap.size w w' := by
  obtain ⟨i, hi, hbi⟩ := and8 y
  have HI := hide hi
  have hmk := run_make256
  have V0 := hide (RIn.start hv)
  clear hv
  go_enter Try.func6, Try.ntmps6
  go_wp2_with (first
    | (go_at_call 11; (with_reducible refine (fit_any _).mono ?_); rintro e w1 ⟨rfl, hb1⟩; have V1 := hide (V0.out.below hb1); clear hb1)
    | (go_at_call 12; (with_reducible refine (light_told true v rs _ V1.out.row hl).mono ?_); rintro e w2 ⟨rfl, hb2⟩; have V2 := hide (V1.out.below hb2); clear hb2)
    | (go_at_call 13; (with_reducible refine (fill_c v rs _ hl V2.out.row).mono ?_); rintro e w3 ⟨g, gm, s, rfl, hF, hs⟩; have HF := hide hF; have HS := hide hs; have HW3 := hide (V2.out.bel.trans (hF.bel.mono V2.out.bel.size)); obtain ⟨c0, c1, c2, c3, c4, c5, c6, c7⟩ := all_c hF.pg; clear hF hs)
    | (go_at_call 14; (with_reducible refine (enc_c s _ HS.out).mono ?_); rintro e w4 ⟨A, c, rfl, hm4, hb4⟩; have HW4 := hide (HW3.out.trans (hb4.mono HW3.out.size)); obtain ⟨gb, l1, rfl, hgb, hl1, ⟨u0, cb⟩, cf, hrb⟩ := mine_any hm4 HI.out x; have HR := hide hrb; have HL := hide hl1; have HGB := hide hgb; clear hm4 hb4 hrb hgb hl1)
    | (go_at_call 15; (with_reducible refine (decode_23 _ l1 _ HL.out HR.out).mono ?_); rintro e w5 ⟨qm, qt, qn, qs, e', rfl, hd, hb5⟩; have HD := hide hd; obtain ⟨HW5, R5, PQ⟩ := any_step HW4.out HGB.out HR.out hb5 (⟨qm, qt, qn, qs⟩ : Pg) HW3.out.size; have HW5 := hide HW5; have R5 := hide R5; have PQ := hide PQ; clear hd hb5)
    | (go_at_call 15; (with_reducible refine (decode_z23 _ (by simp)).mono ?_); rintro e w6 ⟨rfl, hb6⟩; have HW6 := hide (HW5.out.trans (hb6.mono HW5.out.size)); have R6 := hide ((R5.out.below hb6).alloc (.cells #[.int .u64 0, .int .i64 2, .int .i64 3, .string ⟨#[]⟩, .string ⟨#[]⟩, .string ⟨#[]⟩, .string ⟨#[]⟩, .string ⟨#[]⟩] 35)); have PQ6 := hide ((PQ.out.below hb6).alloc (.cells #[.int .u64 0, .int .i64 2, .int .i64 3, .string ⟨#[]⟩, .string ⟨#[]⟩, .string ⟨#[]⟩, .string ⟨#[]⟩, .string ⟨#[]⟩] 35)); have HW7 := hide (HW6.out.alloc HW6.out.size (.cells #[.int .u64 0, .int .i64 2, .int .i64 3, .string ⟨#[]⟩, .string ⟨#[]⟩, .string ⟨#[]⟩, .string ⟨#[]⟩, .string ⟨#[]⟩] 35)); have PZ : Hid (PgB (w6.alloc (.cells #[.int .u64 0, .int .i64 2, .int .i64 3, .string ⟨#[]⟩, .string ⟨#[]⟩, .string ⟨#[]⟩, .string ⟨#[]⟩, .string ⟨#[]⟩] 35)) w6.heap.size (pTN 2 3)) := hide (pgb_new w6 (pTN 2 3)); clear hb6)
    | (go_at_call 21; (with_reducible refine (free_z PZ.out).mono ?_); rintro e w7 ⟨rfl, rfl⟩))
  
  have HW8 := HW7
  have R8 := R6
  have PQ8 := PQ6
  generalize w6.alloc (.cells #[.int .u64 0, .int .i64 2, .int .i64 3, .string ⟨#[]⟩, .string ⟨#[]⟩, .string ⟨#[]⟩, .string ⟨#[]⟩, .string ⟨#[]⟩] 35) = w8 at *
  clear HW7 R6 PQ6
  rcases HD.out with ⟨he, hq, ht, hn, hm, ho, _, _⟩ | ⟨he, _, _⟩
  · subst he
    have hqt : qt < 65536 := by have : qt = 2 := ht; omega
    have hqn : qn < 65536 := by have : qn = 3 := hn; omega
    refine region_grows [Say.is (.int .i64 0), Say.is (.bool false), Say.is (.bool false), Say.is (.int .i64 0), Say.is (.bool true), Say.is (.bool true), Say.is (.agg #[.int .u64 (qm : Int), .int .i64 (qt : Int), .int .i64 (qn : Int), .string (qs 0), .string (qs 1), .string (qs 2), .string (qs 3), .string (qs 4)]), Say.rd 256 (l1), Say.is (.string ⟨(l1).toArray⟩), Say.rd 256 (l1), Say.is (.string ⟨(l1).toArray⟩), Say.is (.bool true), Say.is (.bool true), Say.is (.bool true), Say.is (.bool true)] (by kernel_rfl) (by kernel_rfl) (by kernel_rfl) (by kernel_rfl) ?_ ?_
    · intro i o hoo a w2 hb hsz old dep
      match i, hoo with
      | 0, hoo =>
        obtain rfl := Option.some.inj hoo
        have o11 : a.tmps.getD 11 undef = _ := old 11 (by kernel_rfl)
        rw [if_pos (wanted_none rfl)]
        refine grow_same (v := .int .i64 0) ?_ rfl
        clear old dep hoo hsz hb
        go_simp
      | 1, hoo =>
        obtain rfl := Option.some.inj hoo
        have d0 : a.tmps.getD 64 undef = .int .i64 0 := dep 0 _ _ (by kernel_rfl) rfl rfl
        have e0 : a.tmps[64]?.getD undef = _ := (Array.getD_eq_getD_getElem? ..).symm.trans d0
        rw [if_pos (wanted_none rfl)]
        refine grow_same (v := .bool false) ?_ rfl
        clear old dep hoo hsz hb
        go_simp
      | 2, hoo =>
        obtain rfl := Option.some.inj hoo
        have d1 : a.tmps.getD 65 undef = .bool false := dep 1 _ _ (by kernel_rfl) rfl rfl
        have e1 : a.tmps[65]?.getD undef = _ := (Array.getD_eq_getD_getElem? ..).symm.trans d1
        rw [if_pos (wanted_none rfl)]
        refine grow_same (v := .bool false) ?_ rfl
        clear old dep hoo hsz hb
        go_simp
      | 3, hoo =>
        obtain rfl := Option.some.inj hoo
        have o11 : a.tmps.getD 11 undef = _ := old 11 (by kernel_rfl)
        have d2 : a.tmps.getD 66 undef = .bool false := dep 2 _ _ (by kernel_rfl) rfl rfl
        have e2 : a.tmps[66]?.getD undef = _ := (Array.getD_eq_getD_getElem? ..).symm.trans d2
        rw [if_pos (wanted_some rfl rfl rfl (by rw [hsz]; exact of_decide_eq_true rfl) d2)]
        refine grow_same (v := .int .i64 0) ?_ rfl
        clear old dep hoo hsz hb
        go_simp
      | 4, hoo =>
        obtain rfl := Option.some.inj hoo
        have d3 : a.tmps.getD 67 undef = .int .i64 0 := dep 3 _ _ (by kernel_rfl) rfl rfl
        have e3 : a.tmps[67]?.getD undef = _ := (Array.getD_eq_getD_getElem? ..).symm.trans d3
        have d2 : a.tmps.getD 66 undef = .bool false := dep 2 _ _ (by kernel_rfl) rfl rfl
        have e2 : a.tmps[66]?.getD undef = _ := (Array.getD_eq_getD_getElem? ..).symm.trans d2
        rw [if_pos (wanted_some rfl rfl rfl (by rw [hsz]; exact of_decide_eq_true rfl) d2)]
        refine grow_same (v := .bool true) ?_ rfl
        clear old dep hoo hsz hb
        go_simp
      | 5, hoo =>
        obtain rfl := Option.some.inj hoo
        have d4 : a.tmps.getD 68 undef = .bool true := dep 4 _ _ (by kernel_rfl) rfl rfl
        have e4 : a.tmps[68]?.getD undef = _ := (Array.getD_eq_getD_getElem? ..).symm.trans d4
        have d2 : a.tmps.getD 66 undef = .bool false := dep 2 _ _ (by kernel_rfl) rfl rfl
        have e2 : a.tmps[66]?.getD undef = _ := (Array.getD_eq_getD_getElem? ..).symm.trans d2
        rw [if_pos (wanted_some rfl rfl rfl (by rw [hsz]; exact of_decide_eq_true rfl) d2)]
        refine grow_same (v := .bool true) ?_ rfl
        clear old dep hoo hsz hb
        go_simp
      | 6, hoo =>
        obtain rfl := Option.some.inj hoo
        have o10 : a.tmps.getD 10 undef = _ := old 10 (by kernel_rfl)
        have d5 : a.tmps.getD 69 undef = .bool true := dep 5 _ _ (by kernel_rfl) rfl rfl
        have e5 : a.tmps[69]?.getD undef = _ := (Array.getD_eq_getD_getElem? ..).symm.trans d5
        rw [if_pos (wanted_some rfl rfl rfl (by rw [hsz]; exact of_decide_eq_true rfl) d5)]
        obtain ⟨g0, g1, g2, g3, g4, g5, g6, g7⟩ := (PQ8.out.below hb).all
        refine grow_same (v := .agg #[.int .u64 (qm : Int), .int .i64 (qt : Int), .int .i64 (qn : Int), .string (qs 0), .string (qs 1), .string (qs 2), .string (qs 3), .string (qs 4)]) ?_ rfl
        clear old dep hoo hsz hb
        go_simp
      | 7, hoo =>
        obtain rfl := Option.some.inj hoo
        have d6 : a.tmps.getD 70 undef = .agg #[.int .u64 (qm : Int), .int .i64 (qt : Int), .int .i64 (qn : Int), .string (qs 0), .string (qs 1), .string (qs 2), .string (qs 3), .string (qs 4)] := dep 6 _ _ (by kernel_rfl) rfl rfl
        have e6 : a.tmps[70]?.getD undef = _ := (Array.getD_eq_getD_getElem? ..).symm.trans d6
        have d5 : a.tmps.getD 69 undef = .bool true := dep 5 _ _ (by kernel_rfl) rfl rfl
        have e5 : a.tmps[69]?.getD undef = _ := (Array.getD_eq_getD_getElem? ..).symm.trans d5
        rw [if_pos (wanted_some rfl rfl rfl (by rw [hsz]; exact of_decide_eq_true rfl) d5)]
        refine grow_enters (f := 14) (args := #[.agg #[.int .u64 (qm : Int), .int .i64 (qt : Int), .int .i64 (qn : Int), .string (qs 0), .string (qs 1), .string (qs 2), .string (qs 3), .string (qs 4)]]) ?_ (encode_growp qm qt qn qs _ ho hqt hqn hq)
        clear old dep hoo hsz hb
        go_simp
      | 8, hoo =>
        obtain rfl := Option.some.inj hoo
        obtain ⟨A7, C7, d7, r7⟩ : ∃ A c, a.tmps.getD 71 undef = .slice A 256 c ∧ Rd w2 (.slice A 256 c) (u8s (l1)) := dep 7 _ _ (by kernel_rfl) rfl rfl
        have e7 : a.tmps[71]?.getD undef = _ := (Array.getD_eq_getD_getElem? ..).symm.trans d7
        have d5 : a.tmps.getD 69 undef = .bool true := dep 5 _ _ (by kernel_rfl) rfl rfl
        have e5 : a.tmps[69]?.getD undef = _ := (Array.getD_eq_getD_getElem? ..).symm.trans d5
        rw [if_pos (wanted_some rfl rfl rfl (by rw [hsz]; exact of_decide_eq_true rfl) d5)]
        have hcv := conv_rdn HL.out r7
        refine grow_same (v := .string ⟨(l1).toArray⟩) ?_ rfl
        clear old dep hoo hsz hb r7
        go_simp
      | 9, hoo =>
        obtain rfl := Option.some.inj hoo
        have o9 : a.tmps.getD 9 undef = _ := old 9 (by kernel_rfl)
        have d5 : a.tmps.getD 69 undef = .bool true := dep 5 _ _ (by kernel_rfl) rfl rfl
        have e5 : a.tmps[69]?.getD undef = _ := (Array.getD_eq_getD_getElem? ..).symm.trans d5
        rw [if_pos (wanted_some rfl rfl rfl (by rw [hsz]; exact of_decide_eq_true rfl) d5)]
        refine grow_same (v := .slice (some ⟨gb, 0, none⟩) 256 c) ?_ ⟨_, _, rfl, (R8.out.below hb)⟩
        clear old dep hoo hsz hb
        go_simp
      | 10, hoo =>
        obtain rfl := Option.some.inj hoo
        obtain ⟨A9, C9, d9, r9⟩ : ∃ A c, a.tmps.getD 73 undef = .slice A 256 c ∧ Rd w2 (.slice A 256 c) (u8s (l1)) := dep 9 _ _ (by kernel_rfl) rfl rfl
        have e9 : a.tmps[73]?.getD undef = _ := (Array.getD_eq_getD_getElem? ..).symm.trans d9
        have d5 : a.tmps.getD 69 undef = .bool true := dep 5 _ _ (by kernel_rfl) rfl rfl
        have e5 : a.tmps[69]?.getD undef = _ := (Array.getD_eq_getD_getElem? ..).symm.trans d5
        rw [if_pos (wanted_some rfl rfl rfl (by rw [hsz]; exact of_decide_eq_true rfl) d5)]
        have hcv := conv_rdn HL.out r9
        refine grow_same (v := .string ⟨(l1).toArray⟩) ?_ rfl
        clear old dep hoo hsz hb r9
        go_simp
      | 11, hoo =>
        obtain rfl := Option.some.inj hoo
        have d8 : a.tmps.getD 72 undef = .string ⟨(l1).toArray⟩ := dep 8 _ _ (by kernel_rfl) rfl rfl
        have e8 : a.tmps[72]?.getD undef = _ := (Array.getD_eq_getD_getElem? ..).symm.trans d8
        have d10 : a.tmps.getD 74 undef = .string ⟨(l1).toArray⟩ := dep 10 _ _ (by kernel_rfl) rfl rfl
        have e10 : a.tmps[74]?.getD undef = _ := (Array.getD_eq_getD_getElem? ..).symm.trans d10
        have d5 : a.tmps.getD 69 undef = .bool true := dep 5 _ _ (by kernel_rfl) rfl rfl
        have e5 : a.tmps[69]?.getD undef = _ := (Array.getD_eq_getD_getElem? ..).symm.trans d5
        rw [if_pos (wanted_some rfl rfl rfl (by rw [hsz]; exact of_decide_eq_true rfl) d5)]
        refine grow_same (v := .bool true) ?_ rfl
        clear old dep hoo hsz hb
        go_simp
      | 12, hoo =>
        obtain rfl := Option.some.inj hoo
        have d5 : a.tmps.getD 69 undef = .bool true := dep 5 _ _ (by kernel_rfl) rfl rfl
        have e5 : a.tmps[69]?.getD undef = _ := (Array.getD_eq_getD_getElem? ..).symm.trans d5
        have d11 : a.tmps.getD 75 undef = .bool true := dep 11 _ _ (by kernel_rfl) rfl rfl
        have e11 : a.tmps[75]?.getD undef = _ := (Array.getD_eq_getD_getElem? ..).symm.trans d11
        have d2 : a.tmps.getD 66 undef = .bool false := dep 2 _ _ (by kernel_rfl) rfl rfl
        have e2 : a.tmps[66]?.getD undef = _ := (Array.getD_eq_getD_getElem? ..).symm.trans d2
        rw [if_pos (wanted_some rfl rfl rfl (by rw [hsz]; exact of_decide_eq_true rfl) d2)]
        refine grow_same (v := .bool true) ?_ rfl
        clear old dep hoo hsz hb
        go_simp
      | 13, hoo =>
        obtain rfl := Option.some.inj hoo
        have d2 : a.tmps.getD 66 undef = .bool false := dep 2 _ _ (by kernel_rfl) rfl rfl
        have e2 : a.tmps[66]?.getD undef = _ := (Array.getD_eq_getD_getElem? ..).symm.trans d2
        have d12 : a.tmps.getD 76 undef = .bool true := dep 12 _ _ (by kernel_rfl) rfl rfl
        have e12 : a.tmps[76]?.getD undef = _ := (Array.getD_eq_getD_getElem? ..).symm.trans d12
        rw [if_pos (wanted_none rfl)]
        refine grow_same (v := .bool true) ?_ rfl
        clear old dep hoo hsz hb
        go_simp
      | 14, hoo =>
        obtain rfl := Option.some.inj hoo
        have d13 : a.tmps.getD 77 undef = .bool true := dep 13 _ _ (by kernel_rfl) rfl rfl
        have e13 : a.tmps[77]?.getD undef = _ := (Array.getD_eq_getD_getElem? ..).symm.trans d13
        rw [if_pos (wanted_none rfl)]
        refine grow_same (v := .bool true) ?_ rfl
        clear old dep hoo hsz hb
        go_simp
      | i + 15, hoo => exact absurd hoo (by simp)
    · intro a w9 hb hsz hdf fin keep
      obtain ⟨tm, df⟩ := a
      have hx := frame_of [64, 65, 66, 67, 68, 69, 70, 71, 72, 73, 74, 75, 76, 77, 6] (by kernel_rfl) hsz keep
      dsimp only at hdf hx
      simp only [List.foldl_cons, List.foldl_nil] at hx
      subst hdf
      clear hsz keep
      have kn : tm.getD 64 undef = .int .i64 0 := fin 0 _ _ rfl rfl
      rw [kn] at hx
      clear kn
      have kn : tm.getD 65 undef = .bool false := fin 1 _ _ rfl rfl
      rw [kn] at hx
      clear kn
      have kn : tm.getD 66 undef = .bool false := fin 2 _ _ rfl rfl
      rw [kn] at hx
      clear kn
      have kn : tm.getD 67 undef = .int .i64 0 := fin 3 _ _ rfl rfl
      rw [kn] at hx
      clear kn
      have kn : tm.getD 68 undef = .bool true := fin 4 _ _ rfl rfl
      rw [kn] at hx
      clear kn
      have kn : tm.getD 69 undef = .bool true := fin 5 _ _ rfl rfl
      rw [kn] at hx
      clear kn
      have kn : tm.getD 70 undef = .agg #[.int .u64 (qm : Int), .int .i64 (qt : Int), .int .i64 (qn : Int), .string (qs 0), .string (qs 1), .string (qs 2), .string (qs 3), .string (qs 4)] := fin 6 _ _ rfl rfl
      rw [kn] at hx
      clear kn
      obtain ⟨A71, C71, kn, R71⟩ : ∃ A c, tm.getD 71 undef = .slice A 256 c ∧ Rd w9 (.slice A 256 c) (u8s (l1)) := fin 7 _ _ rfl rfl
      rw [kn] at hx
      clear kn
      clear R71
      have kn : tm.getD 72 undef = .string ⟨(l1).toArray⟩ := fin 8 _ _ rfl rfl
      rw [kn] at hx
      clear kn
      obtain ⟨A73, C73, kn, R73⟩ : ∃ A c, tm.getD 73 undef = .slice A 256 c ∧ Rd w9 (.slice A 256 c) (u8s (l1)) := fin 9 _ _ rfl rfl
      rw [kn] at hx
      clear kn
      clear R73
      have kn : tm.getD 74 undef = .string ⟨(l1).toArray⟩ := fin 10 _ _ rfl rfl
      rw [kn] at hx
      clear kn
      have kn : tm.getD 75 undef = .bool true := fin 11 _ _ rfl rfl
      rw [kn] at hx
      clear kn
      have kn : tm.getD 76 undef = .bool true := fin 12 _ _ rfl rfl
      rw [kn] at hx
      clear kn
      have kn : tm.getD 77 undef = .bool true := fin 13 _ _ rfl rfl
      rw [kn] at hx
      clear kn
      have kn : tm.getD 6 undef = .bool true := fin 14 _ _ rfl rfl
      rw [kn] at hx
      clear kn
      clear fin
      simp only [List.setIfInBounds_toArray, List.set_cons_succ, List.set_cons_zero] at hx
      subst hx
      go_wp2
      go_ret
      exact ⟨rfl, HW8.out.trans (hb.mono HW8.out.size)⟩
  · subst he
    refine region_grows [Say.is (.int .i64 11), Say.is (.bool true), Say.is (.bool true), Say.is (undef), Say.is (undef), Say.is (undef), Say.is (undef), Say.is (undef), Say.is (undef), Say.is (undef), Say.is (undef), Say.is (undef), Say.is (undef), Say.is (.bool true), Say.is (.bool true)] (by kernel_rfl) (by kernel_rfl) (by kernel_rfl) (by kernel_rfl) ?_ ?_
    · intro i o hoo a w2 hb hsz old dep
      match i, hoo with
      | 0, hoo =>
        obtain rfl := Option.some.inj hoo
        have o11 : a.tmps.getD 11 undef = _ := old 11 (by kernel_rfl)
        rw [if_pos (wanted_none rfl)]
        refine grow_same (v := .int .i64 11) ?_ rfl
        clear old dep hoo hsz hb
        go_simp
      | 1, hoo =>
        obtain rfl := Option.some.inj hoo
        have d0 : a.tmps.getD 64 undef = .int .i64 11 := dep 0 _ _ (by kernel_rfl) rfl rfl
        have e0 : a.tmps[64]?.getD undef = _ := (Array.getD_eq_getD_getElem? ..).symm.trans d0
        rw [if_pos (wanted_none rfl)]
        refine grow_same (v := .bool true) ?_ rfl
        clear old dep hoo hsz hb
        go_simp
      | 2, hoo =>
        obtain rfl := Option.some.inj hoo
        have d1 : a.tmps.getD 65 undef = .bool true := dep 1 _ _ (by kernel_rfl) rfl rfl
        have e1 : a.tmps[65]?.getD undef = _ := (Array.getD_eq_getD_getElem? ..).symm.trans d1
        rw [if_pos (wanted_none rfl)]
        refine grow_same (v := .bool true) ?_ rfl
        clear old dep hoo hsz hb
        go_simp
      | 3, hoo =>
        obtain rfl := Option.some.inj hoo
        have d2 : a.tmps.getD 66 undef = .bool true := dep 2 _ _ (by kernel_rfl) rfl rfl
        have e2 : a.tmps[66]?.getD undef = _ := (Array.getD_eq_getD_getElem? ..).symm.trans d2
        rw [if_neg (wanted_not rfl rfl rfl (by rw [hsz]; exact of_decide_eq_true rfl) d2 rfl)]
        exact rfl
      | 4, hoo =>
        obtain rfl := Option.some.inj hoo
        have d2 : a.tmps.getD 66 undef = .bool true := dep 2 _ _ (by kernel_rfl) rfl rfl
        have e2 : a.tmps[66]?.getD undef = _ := (Array.getD_eq_getD_getElem? ..).symm.trans d2
        rw [if_neg (wanted_not rfl rfl rfl (by rw [hsz]; exact of_decide_eq_true rfl) d2 rfl)]
        exact rfl
      | 5, hoo =>
        obtain rfl := Option.some.inj hoo
        have d2 : a.tmps.getD 66 undef = .bool true := dep 2 _ _ (by kernel_rfl) rfl rfl
        have e2 : a.tmps[66]?.getD undef = _ := (Array.getD_eq_getD_getElem? ..).symm.trans d2
        rw [if_neg (wanted_not rfl rfl rfl (by rw [hsz]; exact of_decide_eq_true rfl) d2 rfl)]
        exact rfl
      | 6, hoo =>
        obtain rfl := Option.some.inj hoo
        have d5 : a.tmps.getD 69 undef = undef := dep 5 _ _ (by kernel_rfl) rfl rfl
        have e5 : a.tmps[69]?.getD undef = _ := (Array.getD_eq_getD_getElem? ..).symm.trans d5
        rw [if_neg (wanted_undef rfl rfl rfl (by rw [hsz]; exact of_decide_eq_true rfl) d5)]
        exact rfl
      | 7, hoo =>
        obtain rfl := Option.some.inj hoo
        have d5 : a.tmps.getD 69 undef = undef := dep 5 _ _ (by kernel_rfl) rfl rfl
        have e5 : a.tmps[69]?.getD undef = _ := (Array.getD_eq_getD_getElem? ..).symm.trans d5
        rw [if_neg (wanted_undef rfl rfl rfl (by rw [hsz]; exact of_decide_eq_true rfl) d5)]
        exact rfl
      | 8, hoo =>
        obtain rfl := Option.some.inj hoo
        have d5 : a.tmps.getD 69 undef = undef := dep 5 _ _ (by kernel_rfl) rfl rfl
        have e5 : a.tmps[69]?.getD undef = _ := (Array.getD_eq_getD_getElem? ..).symm.trans d5
        rw [if_neg (wanted_undef rfl rfl rfl (by rw [hsz]; exact of_decide_eq_true rfl) d5)]
        exact rfl
      | 9, hoo =>
        obtain rfl := Option.some.inj hoo
        have d5 : a.tmps.getD 69 undef = undef := dep 5 _ _ (by kernel_rfl) rfl rfl
        have e5 : a.tmps[69]?.getD undef = _ := (Array.getD_eq_getD_getElem? ..).symm.trans d5
        rw [if_neg (wanted_undef rfl rfl rfl (by rw [hsz]; exact of_decide_eq_true rfl) d5)]
        exact rfl
      | 10, hoo =>
        obtain rfl := Option.some.inj hoo
        have d5 : a.tmps.getD 69 undef = undef := dep 5 _ _ (by kernel_rfl) rfl rfl
        have e5 : a.tmps[69]?.getD undef = _ := (Array.getD_eq_getD_getElem? ..).symm.trans d5
        rw [if_neg (wanted_undef rfl rfl rfl (by rw [hsz]; exact of_decide_eq_true rfl) d5)]
        exact rfl
      | 11, hoo =>
        obtain rfl := Option.some.inj hoo
        have d5 : a.tmps.getD 69 undef = undef := dep 5 _ _ (by kernel_rfl) rfl rfl
        have e5 : a.tmps[69]?.getD undef = _ := (Array.getD_eq_getD_getElem? ..).symm.trans d5
        rw [if_neg (wanted_undef rfl rfl rfl (by rw [hsz]; exact of_decide_eq_true rfl) d5)]
        exact rfl
      | 12, hoo =>
        obtain rfl := Option.some.inj hoo
        have d2 : a.tmps.getD 66 undef = .bool true := dep 2 _ _ (by kernel_rfl) rfl rfl
        have e2 : a.tmps[66]?.getD undef = _ := (Array.getD_eq_getD_getElem? ..).symm.trans d2
        rw [if_neg (wanted_not rfl rfl rfl (by rw [hsz]; exact of_decide_eq_true rfl) d2 rfl)]
        exact rfl
      | 13, hoo =>
        obtain rfl := Option.some.inj hoo
        have d2 : a.tmps.getD 66 undef = .bool true := dep 2 _ _ (by kernel_rfl) rfl rfl
        have e2 : a.tmps[66]?.getD undef = _ := (Array.getD_eq_getD_getElem? ..).symm.trans d2
        have d12 : a.tmps.getD 76 undef = undef := dep 12 _ _ (by kernel_rfl) rfl rfl
        have e12 : a.tmps[76]?.getD undef = _ := (Array.getD_eq_getD_getElem? ..).symm.trans d12
        rw [if_pos (wanted_none rfl)]
        refine grow_same (v := .bool true) ?_ rfl
        clear old dep hoo hsz hb
        go_simp
      | 14, hoo =>
        obtain rfl := Option.some.inj hoo
        have d13 : a.tmps.getD 77 undef = .bool true := dep 13 _ _ (by kernel_rfl) rfl rfl
        have e13 : a.tmps[77]?.getD undef = _ := (Array.getD_eq_getD_getElem? ..).symm.trans d13
        rw [if_pos (wanted_none rfl)]
        refine grow_same (v := .bool true) ?_ rfl
        clear old dep hoo hsz hb
        go_simp
      | i + 15, hoo => exact absurd hoo (by simp)
    · intro a w9 hb hsz hdf fin keep
      obtain ⟨tm, df⟩ := a
      have hx := frame_of [64, 65, 66, 67, 68, 69, 70, 71, 72, 73, 74, 75, 76, 77, 6] (by kernel_rfl) hsz keep
      dsimp only at hdf hx
      simp only [List.foldl_cons, List.foldl_nil] at hx
      subst hdf
      clear hsz keep
      have kn : tm.getD 64 undef = .int .i64 11 := fin 0 _ _ rfl rfl
      rw [kn] at hx
      clear kn
      have kn : tm.getD 65 undef = .bool true := fin 1 _ _ rfl rfl
      rw [kn] at hx
      clear kn
      have kn : tm.getD 66 undef = .bool true := fin 2 _ _ rfl rfl
      rw [kn] at hx
      clear kn
      have kn : tm.getD 67 undef = undef := fin 3 _ _ rfl rfl
      rw [kn] at hx
      clear kn
      have kn : tm.getD 68 undef = undef := fin 4 _ _ rfl rfl
      rw [kn] at hx
      clear kn
      have kn : tm.getD 69 undef = undef := fin 5 _ _ rfl rfl
      rw [kn] at hx
      clear kn
      have kn : tm.getD 70 undef = undef := fin 6 _ _ rfl rfl
      rw [kn] at hx
      clear kn
      have kn : tm.getD 71 undef = undef := fin 7 _ _ rfl rfl
      rw [kn] at hx
      clear kn
      have kn : tm.getD 72 undef = undef := fin 8 _ _ rfl rfl
      rw [kn] at hx
      clear kn
      have kn : tm.getD 73 undef = undef := fin 9 _ _ rfl rfl
      rw [kn] at hx
      clear kn
      have kn : tm.getD 74 undef = undef := fin 10 _ _ rfl rfl
      rw [kn] at hx
      clear kn
      have kn : tm.getD 75 undef = undef := fin 11 _ _ rfl rfl
      rw [kn] at hx
      clear kn
      have kn : tm.getD 76 undef = undef := fin 12 _ _ rfl rfl
      rw [kn] at hx
      clear kn
      have kn : tm.getD 77 undef = .bool true := fin 13 _ _ rfl rfl
      rw [kn] at hx
      clear kn
      have kn : tm.getD 6 undef = .bool true := fin 14 _ _ rfl rfl
      rw [kn] at hx
      clear kn
      clear fin
      simp only [List.setIfInBounds_toArray, List.set_cons_succ, List.set_cons_zero] at hx
      subst hx
      go_wp2
      go_ret
      exact ⟨rfl, HW8.out.trans (hb.mono HW8.out.size)⟩
theorem pany_walk (v : Value) (rs : List RowD) (y : Int) (x : UInt8) (w : World) (hv : RowRow w w.heap.size v rs) (_ : (Lit.int .i64 y).wf = true) :
    Calls Try.prog 6 #[v, .int .i64 y, .int .u8 (x.toNat : Int)] w fun e w' => e = .returned (.bool true) ∧ Below w.heap.size w w' := by
  cases hl : lightsB rs
  · exact pany_long v rs y x w hv hl
  · exact pany_light v rs y x w hv hl
end Go.Proofs.Ytajpjffjhnmfmaa
