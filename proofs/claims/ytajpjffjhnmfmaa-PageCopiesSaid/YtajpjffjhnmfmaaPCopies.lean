/-
  The walk of PageCopies.
-/
import Derived.Test.YtajpjffjhnmfmaaFill
import Derived.Test.YtajpjffjhnmfmaaToward
import Derived.Test.YtajpjffjhnmfmaaPgEq
namespace Go.Proofs.Ytajpjffjhnmfmaa
open Go.RowKit

set_option linter.unusedSimpArgs false
set_option linter.unusedVariables false
theorem Blk.bel5 {w w' : World} {g : Nat} {t : TypeId} {cs : Array Value} (h : Blk w g t cs) (hb : Below w.heap.size w w') : Blk w' g t cs := h.below hb
theorem mod5 (y : Int) : ∃ j : Nat, j < 5 ∧ (wrap64 (y.tmod 5 + 5)).tmod 5 = (j : Int) := by
  have h : -4 ≤ y.tmod 5 ∧ y.tmod 5 ≤ 4 := by
    rcases Int.le_total 0 y with hy | hy
    · rw [Int.tmod_eq_emod_of_nonneg hy]; omega
    · rw [show y.tmod 5 = -((-y).tmod 5) by rw [Int.neg_tmod, Int.neg_neg], Int.tmod_eq_emod_of_nonneg (by omega)]; omega
  have hw : wrap64 (y.tmod 5 + 5) = y.tmod 5 + 5 := by unfold wrap64; omega
  rw [hw, Int.tmod_eq_emod_of_nonneg (by omega)]
  exact ⟨((y.tmod 5 + 5) % 5).toNat, by omega, by omega⟩
/-- A row's bytes, away from a block that was there. -/
theorem encrow_aw {t : Nat} {k u : ByteArray} {g : Nat} {p1 : Pg} {El : List UInt8} (w : World) (hr : rightB (t : Int) k u = true) (hE : encL t k.data.toList u.data.toList = El) (hg : g < w.heap.size) :
    Calls Try.prog 18 #[.agg #[.int .i64 (t : Int), .string k, .string u]] w fun e w' => ∃ v, e = .returned v ∧ (awW g p1 40 El).p w' v ∧ Below w.heap.size w w' := by
  subst hE
  refine (encode_yes t k u w hr).mono ?_
  rintro e w' ⟨v', rfl, hm, hb⟩
  obtain ⟨h1, h2, h3, h4⟩ := rightB_iff.1 hr
  have hl : (encL t k.data.toList u.data.toList).length = 40 := encL_length _ _ _ (by rw [size_data]; exact h3) (by rw [size_data]; exact h4)
  obtain ⟨A, c, rfl⟩ := hm.form
  have ha := hm.away hg
  rw [hl] at ha ⊢
  exact ⟨_, rfl, ⟨A, c, rfl, ha⟩, hb⟩
theorem slot_gr {G : World → World → Prop} {w : World} {g : Nat} {p : Pg} (h : PgB w g p) (j : Nat) (hj : j < 5) (x : ByteArray) (hx : p.s j = x) :
    Calls Try.prog 16 #[.pointer (some ⟨g, 0, none⟩), .int .i64 (j : Int)] w fun e w' => ∃ v, e = .returned v ∧ (Word.is G (.string x)).p w' v ∧ Below w.heap.size w w' := by
  subst hx
  refine (slot_in h j hj).mono ?_
  rintro e w' ⟨rfl, rfl⟩
  exact ⟨_, rfl, rfl, Below.refl _ _⟩
theorem set_at (p : Pg) (j : Nat) (x : ByteArray) : (p.set j x).s j = x := if_pos rfl
theorem set_back {w : World} {g : Nat} {p : Pg} {j : Nat} {x : ByteArray} (hj : j < 5) (h : PgB w g ((p.set j x).set j (p.s j))) : PgB w g p := by
  have e : ((p.set j x).set j (p.s j)).cells = p.cells := by
    match j, hj with
    | 0, _ => rfl
    | 1, _ => rfl
    | 2, _ => rfl
    | 3, _ => rfl
    | 4, _ => rfl
  unfold PgB at *
  rwa [e] at h
/-- Set of a slot's own text, told where it leads. -/
theorem set_to {w : World} {g : Nat} {p : Pg} {j : Nat} {x : ByteArray} (hj : j < 5) (h : PgB w g (p.set j x)) (ho : okB (p.s j) = true) :
    Calls Try.prog 19 #[.pointer (some ⟨g, 0, none⟩), .int .i64 (j : Int), .string (p.s j)] w fun e w' => e = .returned (.bool true) ∧ PgB w' g p ∧ w.grownBy w' (some g) := by
  refine (set_in h j hj (p.s j) ho).mono ?_
  rintro e w' ⟨rfl, hp, hg⟩
  exact ⟨rfl, set_back hj hp, hg⟩
theorem fill_c (v : Value) (rs : List RowD) (w : World) (h30 : lightsB rs = true) (hv : RowRow w w.heap.size v rs) :
    Calls Try.prog 13 #[v, .int .u64 3, .int .i64 1, .int .i64 2] w fun e w' => ∃ g gm s, e = .returned (.tuple #[.pointer (some ⟨g, 0, none⟩), .slice (some ⟨gm, 0, none⟩) 5 5]) ∧ Fld w w' g gm ⟨3, 1, 2, s⟩ ∧ ∀ j, j < 5 → okB (s j) = true :=
  fill_told (t := 1) (n := 2) v rs 3 1 2 w h30 (by decide) (by decide) hv
theorem all_c {w : World} {g : Nat} {s : Nat → ByteArray} (h : PgB w g ⟨3, 1, 2, s⟩) : w.cell? ⟨g, 0, none⟩ = some (.int .u64 3) ∧ w.cell? ⟨g, 1, none⟩ = some (.int .i64 1) ∧ w.cell? ⟨g, 2, none⟩ = some (.int .i64 2) ∧
    w.cell? ⟨g, 3, none⟩ = some (.string (s 0)) ∧ w.cell? ⟨g, 4, none⟩ = some (.string (s 1)) ∧ w.cell? ⟨g, 5, none⟩ = some (.string (s 2)) ∧ w.cell? ⟨g, 6, none⟩ = some (.string (s 3)) ∧ w.cell? ⟨g, 7, none⟩ = some (.string (s 4)) := h.all
set_option maxHeartbeats 2000000 in
theorem copies_long (v : Value) (rs : List RowD) (t : Int) (k u : ByteArray) (y : Int) (w : World) (hv : RowRow w w.heap.size v rs) (hl : lightsB rs = false) :
    Calls Try.prog 8 #[v, .agg #[.int .i64 t, .string k, .string u], .int .i64 y] w fun e w' => e = .returned (.bool true) ∧ Below w.heap.size w w' := by
  have V0 := hide ((RIn.start hv).below ((Below.refl _ _).alloc (Nat.le_refl _) (.cells #[.int .i64 t, .string k, .string u] 46)))
  have B0 : Hid (Blk (w.alloc (.cells #[.int .i64 t, .string k, .string u] 46)) w.heap.size 46 #[.int .i64 t, .string k, .string u]) := hide (heap_new w _)
  clear hv
  go_enter Try.func8, Try.ntmps8
  go_wp2_with (first
    | (go_at_call 11; (with_reducible refine (fit_any _).mono ?_); rintro e w1 ⟨rfl, hb1⟩; have V1 := hide (V0.out.below hb1); have B1 := hide (B0.out.below hb1); clear hb1)
    | (go_at_call 12; (with_reducible refine (light_told false v rs _ V1.out.row hl).mono ?_); rintro e w2 ⟨rfl, hb2⟩; have V2 := hide (V1.out.below hb2); have B2 := hide (B1.out.below hb2); obtain ⟨p21, p22, p23⟩ := B2.out.three; clear hb2))
  go_ret
  exact ⟨rfl, V2.out.bel⟩
set_option maxHeartbeats 2000000 in
theorem copies_long2 (v : Value) (rs : List RowD) (t : Int) (k u : ByteArray) (y : Int) (w : World) (hv : RowRow w w.heap.size v rs) (hl : lightsB rs = true) (hl2 : lightsB [⟨t, k, u⟩] = false) :
    Calls Try.prog 8 #[v, .agg #[.int .i64 t, .string k, .string u], .int .i64 y] w fun e w' => e = .returned (.bool true) ∧ Below w.heap.size w w' := by
  have V0 := hide ((RIn.start hv).below ((Below.refl _ _).alloc (Nat.le_refl _) (.cells #[.int .i64 t, .string k, .string u] 46)))
  have B0 : Hid (Blk (w.alloc (.cells #[.int .i64 t, .string k, .string u] 46)) w.heap.size 46 #[.int .i64 t, .string k, .string u]) := hide (heap_new w _)
  clear hv
  go_enter Try.func8, Try.ntmps8
  go_wp2_with (first
    | (go_at_call 11; (with_reducible refine (fit_any _).mono ?_); rintro e w1 ⟨rfl, hb1⟩; have V1 := hide (V0.out.below hb1); have B1 := hide (B0.out.below hb1); clear hb1)
    | (go_at_call 12; (with_reducible refine (light_told true v rs _ V1.out.row hl).mono ?_); rintro e w2 ⟨rfl, hb2⟩; have V2 := hide (V1.out.below hb2); have B2 := hide (B1.out.below hb2); obtain ⟨p21, p22, p23⟩ := B2.out.three; clear hb2)
    | (go_at_call 12; (with_reducible refine (light_one false _ k u _ hl2).mono ?_); rintro e w3 ⟨rfl, hb3⟩; have V3 := hide (V2.out.below hb3); have B3 := hide (B2.out.below hb3); obtain ⟨p31, p32, p33⟩ := B3.out.three; clear hb3))
  go_ret
  exact ⟨rfl, V3.out.bel⟩
set_option maxHeartbeats 2000000 in
theorem copies_wrong (v : Value) (rs : List RowD) (t : Int) (k u : ByteArray) (y : Int) (w : World) (hv : RowRow w w.heap.size v rs) (hl : lightsB rs = true) (hl2 : lightsB [⟨t, k, u⟩] = true) (hr : rightB t k u = false) :
    Calls Try.prog 8 #[v, .agg #[.int .i64 t, .string k, .string u], .int .i64 y] w fun e w' => e = .returned (.bool true) ∧ Below w.heap.size w w' := by
  have V0 := hide ((RIn.start hv).below ((Below.refl _ _).alloc (Nat.le_refl _) (.cells #[.int .i64 t, .string k, .string u] 46)))
  have B0 : Hid (Blk (w.alloc (.cells #[.int .i64 t, .string k, .string u] 46)) w.heap.size 46 #[.int .i64 t, .string k, .string u]) := hide (heap_new w _)
  clear hv
  go_enter Try.func8, Try.ntmps8
  go_wp2_with (first
    | (go_at_call 11; (with_reducible refine (fit_any _).mono ?_); rintro e w1 ⟨rfl, hb1⟩; have V1 := hide (V0.out.below hb1); have B1 := hide (B0.out.below hb1); clear hb1)
    | (go_at_call 12; (with_reducible refine (light_told true v rs _ V1.out.row hl).mono ?_); rintro e w2 ⟨rfl, hb2⟩; have V2 := hide (V1.out.below hb2); have B2 := hide (B1.out.below hb2); obtain ⟨p21, p22, p23⟩ := B2.out.three; clear hb2)
    | (go_at_call 12; (with_reducible refine (light_one true _ k u _ hl2).mono ?_); rintro e w3 ⟨rfl, hb3⟩; have V3 := hide (V2.out.below hb3); have B3 := hide (B2.out.below hb3); obtain ⟨p31, p32, p33⟩ := B3.out.three; clear hb3)
    | (go_at_call 17; (with_reducible refine (right_no _ k u _ hr).mono ?_); rintro e w4 ⟨rfl, hb4⟩; have V4 := hide (V3.out.below hb4); have B4 := hide (B3.out.below hb4); clear hb4))
  go_ret
  exact ⟨rfl, V4.out.bel⟩
set_option maxRecDepth 20000 in
set_option maxHeartbeats 8000000 in
theorem copies_right (v : Value) (rs : List RowD) (t : Nat) (k u : ByteArray) (y : Int) (w : World) (hv : RowRow w w.heap.size v rs) (hl : lightsB rs = true) (hl2 : lightsB [⟨(t : Int), k, u⟩] = true) (hr : rightB (t : Int) k u = true) :
    Calls Try.prog 8 #[v, .agg #[.int .i64 (t : Int), .string k, .string u], .int .i64 y] w fun e w' => e = .returned (.bool true) ∧ Below w.heap.size w w' := by
  have HR := hide hr
  obtain ⟨j, hj, hjy⟩ := mod5 y
  obtain ⟨eo, en⟩ := encB_ok hr
  obtain ⟨n1, n2, n3, n4⟩ := rightB_iff.1 hr
  have hlE : (encL t k.data.toList u.data.toList).length = 40 := encL_length _ _ _ (by rw [size_data]; exact n3) (by rw [size_data]; exact n4)
  unfold encB at eo en
  obtain ⟨El, hE⟩ : ∃ El, encL t k.data.toList u.data.toList = El := ⟨_, rfl⟩
  rw [hE] at eo en hlE
  have HE := hide hE
  have EO := hide eo
  have EN := hide en
  have HLE := hide hlE
  have HJ := hide hj
  clear hr eo en hlE hE n1 n2 n3 n4
  have V0 := hide ((RIn.start hv).below ((Below.refl _ _).alloc (Nat.le_refl _) (.cells #[.int .i64 (t : Int), .string k, .string u] 46)))
  have B0 : Hid (Blk (w.alloc (.cells #[.int .i64 (t : Int), .string k, .string u] 46)) w.heap.size 46 #[.int .i64 (t : Int), .string k, .string u]) := hide (heap_new w _)
  clear hv
  go_enter Try.func8, Try.ntmps8
  go_wp2_with (first
    | (go_at_call 11; (with_reducible refine (fit_any _).mono ?_); rintro e w1 ⟨rfl, hb1⟩; have V1 := hide (V0.out.below hb1); have B1 := hide (B0.out.below hb1); clear hb1)
    | (go_at_call 12; (with_reducible refine (light_told true v rs _ V1.out.row hl).mono ?_); rintro e w2 ⟨rfl, hb2⟩; have V2 := hide (V1.out.below hb2); have B2 := hide (B1.out.below hb2); obtain ⟨p21, p22, p23⟩ := B2.out.three; clear hb2)
    | (go_at_call 12; (with_reducible refine (light_one true _ k u _ hl2).mono ?_); rintro e w3 ⟨rfl, hb3⟩; have V3 := hide (V2.out.below hb3); have B3 := hide (B2.out.below hb3); obtain ⟨p31, p32, p33⟩ := B3.out.three; clear hb3)
    | (go_at_call 17; (with_reducible refine (right_yes _ k u _ HR.out).mono ?_); rintro e w4 ⟨rfl, hb4⟩; have V4 := hide (V3.out.below hb4); have B4 := hide (B3.out.below hb4); clear hb4)
    | (go_at_call 13; (with_reducible refine (fill_c v rs _ hl V4.out.row).mono ?_); rintro e w5 ⟨g, gm, s, rfl, hF, hs⟩; have HF := hide hF; have HS := hide hs; have B5 := hide (B4.out.bel5 hF.bel); have HW5 := hide (V4.out.bel.trans (hF.bel.mono V4.out.bel.size)); obtain ⟨c0, c1, c2, c3, c4, c5, c6, c7⟩ := all_c hF.pg; clear hF hs))
  have PQ7 : Hid (PgB (w5.alloc (.cells #[.int .u64 3, .int .i64 1, .int .i64 2, .string (s 0), .string (s 1), .string (s 2), .string (s 3), .string (s 4)] 35)) w5.heap.size (⟨3, 1, 2, s⟩ : Pg)) := hide (pgb_new w5 (⟨3, 1, 2, s⟩ : Pg))
  have HF7 := hide (HF.out.alloc (.cells #[.int .u64 3, .int .i64 1, .int .i64 2, .string (s 0), .string (s 1), .string (s 2), .string (s 3), .string (s 4)] 35))
  have HB7 := hide (Blk.alloc B5.out (.cells #[.int .u64 3, .int .i64 1, .int .i64 2, .string (s 0), .string (s 1), .string (s 2), .string (s 3), .string (s 4)] 35))
  have HW7 := hide (HW5.out.alloc HW5.out.size (.cells #[.int .u64 3, .int .i64 1, .int .i64 2, .string (s 0), .string (s 1), .string (s 2), .string (s 3), .string (s 4)] 35))
  have hlr := B5.out.lt
  have hlg := HF.out.pg.lt
  have hlm := HF.out.2.1.lt
  have HNR := hide (show w.heap.size ≠ w5.heap.size by omega)
  have HNG := hide (show g ≠ w5.heap.size by omega)
  have HNM := hide (show gm ≠ w5.heap.size by omega)
  have HWQ := hide (show w.heap.size ≤ w5.heap.size by omega)
  clear hlr hlg hlm p21 p22 p23 p31 p32 p33 c0 c1 c2 c3 c4 c5 c6 c7
  generalize w5.alloc (.cells #[.int .u64 3, .int .i64 1, .int .i64 2, .string (s 0), .string (s 1), .string (s 2), .string (s 3), .string (s 4)] 35) = w7 at *
  generalize w5.heap.size = gq at *
  have HLR := hide HB7.out.lt
  have HLM := hide HF7.out.2.1.lt
  have HLQ := hide PQ7.out.lt
  obtain ⟨p71, p72, p73⟩ := HB7.out.three
  refine region_turns (G := Tow gq (((⟨3, 1, 2, s⟩ : Pg).set j (⟨(El).toArray⟩ : ByteArray)))) [Word.is _ (.int .i64 (j : Int)), Word.is _ (.agg #[.int .i64 (t : Int), .string k, .string u]), awW gq (((⟨3, 1, 2, s⟩ : Pg).set j (⟨(El).toArray⟩ : ByteArray))) 40 (El), Word.is _ (.string ⟨(El).toArray⟩), pgW gq (((⟨3, 1, 2, s⟩ : Pg).set j (⟨(El).toArray⟩ : ByteArray))) (.bool true), pgW gq (((⟨3, 1, 2, s⟩ : Pg).set j (⟨(El).toArray⟩ : ByteArray))) (.bool false), pgW gq (((⟨3, 1, 2, s⟩ : Pg).set j (⟨(El).toArray⟩ : ByteArray))) (.bool false), pgW gq (((⟨3, 1, 2, s⟩ : Pg).set j (⟨(El).toArray⟩ : ByteArray))) (.pointer (some ⟨g, 0, none⟩)), pgW gq (((⟨3, 1, 2, s⟩ : Pg).set j (⟨(El).toArray⟩ : ByteArray))) (.int .i64 (j : Int)), Word.is _ (.string (s j)), pgW gq (((⟨3, 1, 2, s⟩ : Pg).set j (⟨(El).toArray⟩ : ByteArray))) (.slice (some ⟨gm, 0, none⟩) 5 5), pgW gq (((⟨3, 1, 2, s⟩ : Pg).set j (⟨(El).toArray⟩ : ByteArray))) (.int .i64 (j : Int)), Word.is _ (.pointer (some ⟨gm, j, none⟩)), Word.is _ (.string (s j)), Word.is _ (.bool false), pgW gq (((⟨3, 1, 2, s⟩ : Pg).set j (⟨(El).toArray⟩ : ByteArray))) (.bool false), pgW gq (((⟨3, 1, 2, s⟩ : Pg).set j (⟨(El).toArray⟩ : ByteArray))) (.bool false), pgW gq (((⟨3, 1, 2, s⟩ : Pg).set j (⟨(El).toArray⟩ : ByteArray))) (.int .i64 (j : Int)), Word.is _ (.string (⟨(El).toArray⟩ : ByteArray)), Word.is _ (.agg #[.int .i64 (t : Int), .string k, .string u]), awW gq (((⟨3, 1, 2, s⟩ : Pg).set j (⟨(El).toArray⟩ : ByteArray))) 40 (El), pgW gq (((⟨3, 1, 2, s⟩ : Pg).set j (⟨(El).toArray⟩ : ByteArray))) (.string ⟨(El).toArray⟩), Word.is _ (.bool false), pgW gq (((⟨3, 1, 2, s⟩ : Pg).set j (⟨(El).toArray⟩ : ByteArray))) (.bool false)] (Yet gq ((⟨3, 1, 2, s⟩ : Pg)) 4) (Tow.refl _ _) Tow.trans (Tow.drew _ _) (by kernel_rfl) (by kernel_rfl) (by kernel_rfl) (by kernel_rfl) (fun L L' w h hS hl => hS ((h 4 (by decide)).trans hl)) (fun _ => PQ7.out) ?_ ?_
  · intro i o hoo L a w2 hb hS hLi hnot hyes hsz old dep
    match i, hoo with
    | 0, hoo =>
      obtain rfl := Option.some.inj hoo
      have o2 : a.tmps.getD 2 undef = _ := old 2 (by kernel_rfl)
      rw [if_pos (wanted_none rfl)]
      refine turn_same (Tow.refl _ _) (v := .int .i64 (j : Int)) ?_ rfl hS.same
      clear old dep hoo hsz hb hS hLi hnot hyes
      go_simp
    | 1, hoo =>
      obtain rfl := Option.some.inj hoo
      have o4 : a.tmps.getD 4 undef = _ := old 4 (by kernel_rfl)
      rw [if_pos (wanted_none rfl)]
      have g0 := (hb.1.cell (q := ⟨w.heap.size, 0, none⟩) HLR.out HNR.out).trans p71
      have g1 := (hb.1.cell (q := ⟨w.heap.size, 1, none⟩) HLR.out HNR.out).trans p72
      have g2 := (hb.1.cell (q := ⟨w.heap.size, 2, none⟩) HLR.out HNR.out).trans p73
      refine turn_same (Tow.refl _ _) (v := .agg #[.int .i64 (t : Int), .string k, .string u]) ?_ rfl hS.same
      clear old dep hoo hsz hb hS hLi hnot hyes
      go_simp
    | 2, hoo =>
      obtain rfl := Option.some.inj hoo
      have d1 : a.tmps.getD 39 undef = .agg #[.int .i64 (t : Int), .string k, .string u] := dep 1 _ _ (by kernel_rfl) rfl rfl
      have e1 : a.tmps[39]?.getD undef = _ := (Array.getD_eq_getD_getElem? ..).symm.trans d1
      rw [if_pos (wanted_none rfl)]
      refine turn_enters (f := 18) (args := #[.agg #[.int .i64 (t : Int), .string k, .string u]]) ?_ (tow_grows hS (encrow_aw w2 HR.out HE.out (Nat.lt_of_lt_of_le HLQ.out hb.1.size)))
      clear old dep hoo hsz hb hS hLi hnot hyes
      go_simp
    | 3, hoo =>
      obtain rfl := Option.some.inj hoo
      obtain ⟨A2, C2, d2, r2⟩ : ∃ A c, a.tmps.getD 40 undef = .slice A 40 c ∧ Away (· = gq) w2 (.slice A 40 c) (u8s (El)) := dep 2 _ _ (by kernel_rfl) rfl rfl
      have e2 : a.tmps[40]?.getD undef = _ := (Array.getD_eq_getD_getElem? ..).symm.trans d2
      rw [if_pos (wanted_none rfl)]
      have hcv := conv_rdn HLE.out r2.rd
      refine turn_same (Tow.refl _ _) (v := .string ⟨(El).toArray⟩) ?_ rfl hS.same
      clear old dep hoo hsz hb hS hLi hnot hyes r2
      go_simp
    | 4, hoo =>
      obtain rfl := Option.some.inj hoo
      have o9 : a.tmps.getD 9 undef = _ := old 9 (by kernel_rfl)
      have d0 : a.tmps.getD 38 undef = .int .i64 (j : Int) := dep 0 _ _ (by kernel_rfl) rfl rfl
      have e0 : a.tmps[38]?.getD undef = _ := (Array.getD_eq_getD_getElem? ..).symm.trans d0
      have d3 : a.tmps.getD 41 undef = .string ⟨(El).toArray⟩ := dep 3 _ _ (by kernel_rfl) rfl rfl
      have e3 : a.tmps[41]?.getD undef = _ := (Array.getD_eq_getD_getElem? ..).symm.trans d3
      rw [if_pos (wanted_none rfl)]
      refine turn_enters (f := 19) (args := #[.pointer (some ⟨gq, 0, none⟩), .int .i64 (j : Int), .string (⟨(El).toArray⟩ : ByteArray)]) ?_ (tow_sets (set_row (hS hLi) j HJ.out _ EN.out EO.out))
      clear old dep hoo hsz hb hS hLi hnot hyes
      go_simp
    | 5, hoo =>
      obtain rfl := Option.some.inj hoo
      obtain ⟨d4, P4⟩ : a.tmps.getD 42 undef = .bool true ∧ PgB w2 gq (((⟨3, 1, 2, s⟩ : Pg).set j (⟨(El).toArray⟩ : ByteArray))) := dep 4 _ _ (by kernel_rfl) rfl rfl
      have e4 : a.tmps[42]?.getD undef = _ := (Array.getD_eq_getD_getElem? ..).symm.trans d4
      rw [if_pos (wanted_none rfl)]
      refine turn_same (Tow.refl _ _) (v := .bool false) ?_ ⟨rfl, P4⟩ hS.same
      clear old dep hoo hsz hb hS hLi hnot hyes P4
      go_simp
    | 6, hoo =>
      obtain rfl := Option.some.inj hoo
      obtain ⟨d5, P5⟩ : a.tmps.getD 43 undef = .bool false ∧ PgB w2 gq (((⟨3, 1, 2, s⟩ : Pg).set j (⟨(El).toArray⟩ : ByteArray))) := dep 5 _ _ (by kernel_rfl) rfl rfl
      have e5 : a.tmps[43]?.getD undef = _ := (Array.getD_eq_getD_getElem? ..).symm.trans d5
      rw [if_pos (wanted_none rfl)]
      refine turn_same (Tow.refl _ _) (v := .bool false) ?_ ⟨rfl, P5⟩ hS.same
      clear old dep hoo hsz hb hS hLi hnot hyes P5
      go_simp
    | 7, hoo =>
      obtain rfl := Option.some.inj hoo
      have o7 : a.tmps.getD 7 undef = _ := old 7 (by kernel_rfl)
      obtain ⟨d6, P6⟩ : a.tmps.getD 44 undef = .bool false ∧ PgB w2 gq (((⟨3, 1, 2, s⟩ : Pg).set j (⟨(El).toArray⟩ : ByteArray))) := dep 6 _ _ (by kernel_rfl) rfl rfl
      have e6 : a.tmps[44]?.getD undef = _ := (Array.getD_eq_getD_getElem? ..).symm.trans d6
      rw [if_pos (wanted_some rfl rfl rfl (by rw [hsz]; exact of_decide_eq_true rfl) d6)]
      refine turn_same (Tow.refl _ _) (v := .pointer (some ⟨g, 0, none⟩)) ?_ ⟨rfl, P6⟩ hS.same
      clear old dep hoo hsz hb hS hLi hnot hyes P6
      go_simp
    | 8, hoo =>
      obtain rfl := Option.some.inj hoo
      have o2 : a.tmps.getD 2 undef = _ := old 2 (by kernel_rfl)
      obtain ⟨d6, P6⟩ : a.tmps.getD 44 undef = .bool false ∧ PgB w2 gq (((⟨3, 1, 2, s⟩ : Pg).set j (⟨(El).toArray⟩ : ByteArray))) := dep 6 _ _ (by kernel_rfl) rfl rfl
      have e6 : a.tmps[44]?.getD undef = _ := (Array.getD_eq_getD_getElem? ..).symm.trans d6
      rw [if_pos (wanted_some rfl rfl rfl (by rw [hsz]; exact of_decide_eq_true rfl) d6)]
      refine turn_same (Tow.refl _ _) (v := .int .i64 (j : Int)) ?_ ⟨rfl, P6⟩ hS.same
      clear old dep hoo hsz hb hS hLi hnot hyes P6
      go_simp
    | 9, hoo =>
      obtain rfl := Option.some.inj hoo
      obtain ⟨d7, P7⟩ : a.tmps.getD 45 undef = .pointer (some ⟨g, 0, none⟩) ∧ PgB w2 gq (((⟨3, 1, 2, s⟩ : Pg).set j (⟨(El).toArray⟩ : ByteArray))) := dep 7 _ _ (by kernel_rfl) rfl rfl
      have e7 : a.tmps[45]?.getD undef = _ := (Array.getD_eq_getD_getElem? ..).symm.trans d7
      obtain ⟨d8, P8⟩ : a.tmps.getD 46 undef = .int .i64 (j : Int) ∧ PgB w2 gq (((⟨3, 1, 2, s⟩ : Pg).set j (⟨(El).toArray⟩ : ByteArray))) := dep 8 _ _ (by kernel_rfl) rfl rfl
      have e8 : a.tmps[46]?.getD undef = _ := (Array.getD_eq_getD_getElem? ..).symm.trans d8
      obtain ⟨d6, P6⟩ : a.tmps.getD 44 undef = .bool false ∧ PgB w2 gq (((⟨3, 1, 2, s⟩ : Pg).set j (⟨(El).toArray⟩ : ByteArray))) := dep 6 _ _ (by kernel_rfl) rfl rfl
      have e6 : a.tmps[44]?.getD undef = _ := (Array.getD_eq_getD_getElem? ..).symm.trans d6
      rw [if_pos (wanted_some rfl rfl rfl (by rw [hsz]; exact of_decide_eq_true rfl) d6)]
      refine turn_enters (f := 16) (args := #[.pointer (some ⟨g, 0, none⟩), .int .i64 (j : Int)]) ?_ (tow_grows hS (slot_gr (hb.1.blk HF7.out.pg HNG.out) j HJ.out (s j) rfl))
      clear old dep hoo hsz hb hS hLi hnot hyes P7 P8 P6
      go_simp
    | 10, hoo =>
      obtain rfl := Option.some.inj hoo
      have o8 : a.tmps.getD 8 undef = _ := old 8 (by kernel_rfl)
      obtain ⟨d6, P6⟩ : a.tmps.getD 44 undef = .bool false ∧ PgB w2 gq (((⟨3, 1, 2, s⟩ : Pg).set j (⟨(El).toArray⟩ : ByteArray))) := dep 6 _ _ (by kernel_rfl) rfl rfl
      have e6 : a.tmps[44]?.getD undef = _ := (Array.getD_eq_getD_getElem? ..).symm.trans d6
      rw [if_pos (wanted_some rfl rfl rfl (by rw [hsz]; exact of_decide_eq_true rfl) d6)]
      refine turn_same (Tow.refl _ _) (v := .slice (some ⟨gm, 0, none⟩) 5 5) ?_ ⟨rfl, P6⟩ hS.same
      clear old dep hoo hsz hb hS hLi hnot hyes P6
      go_simp
    | 11, hoo =>
      obtain rfl := Option.some.inj hoo
      have o2 : a.tmps.getD 2 undef = _ := old 2 (by kernel_rfl)
      obtain ⟨d6, P6⟩ : a.tmps.getD 44 undef = .bool false ∧ PgB w2 gq (((⟨3, 1, 2, s⟩ : Pg).set j (⟨(El).toArray⟩ : ByteArray))) := dep 6 _ _ (by kernel_rfl) rfl rfl
      have e6 : a.tmps[44]?.getD undef = _ := (Array.getD_eq_getD_getElem? ..).symm.trans d6
      rw [if_pos (wanted_some rfl rfl rfl (by rw [hsz]; exact of_decide_eq_true rfl) d6)]
      refine turn_same (Tow.refl _ _) (v := .int .i64 (j : Int)) ?_ ⟨rfl, P6⟩ hS.same
      clear old dep hoo hsz hb hS hLi hnot hyes P6
      go_simp
    | 12, hoo =>
      obtain rfl := Option.some.inj hoo
      obtain ⟨d10, P10⟩ : a.tmps.getD 48 undef = .slice (some ⟨gm, 0, none⟩) 5 5 ∧ PgB w2 gq (((⟨3, 1, 2, s⟩ : Pg).set j (⟨(El).toArray⟩ : ByteArray))) := dep 10 _ _ (by kernel_rfl) rfl rfl
      have e10 : a.tmps[48]?.getD undef = _ := (Array.getD_eq_getD_getElem? ..).symm.trans d10
      obtain ⟨d11, P11⟩ : a.tmps.getD 49 undef = .int .i64 (j : Int) ∧ PgB w2 gq (((⟨3, 1, 2, s⟩ : Pg).set j (⟨(El).toArray⟩ : ByteArray))) := dep 11 _ _ (by kernel_rfl) rfl rfl
      have e11 : a.tmps[49]?.getD undef = _ := (Array.getD_eq_getD_getElem? ..).symm.trans d11
      obtain ⟨d6, P6⟩ : a.tmps.getD 44 undef = .bool false ∧ PgB w2 gq (((⟨3, 1, 2, s⟩ : Pg).set j (⟨(El).toArray⟩ : ByteArray))) := dep 6 _ _ (by kernel_rfl) rfl rfl
      have e6 : a.tmps[44]?.getD undef = _ := (Array.getD_eq_getD_getElem? ..).symm.trans d6
      rw [if_pos (wanted_some rfl rfl rfl (by rw [hsz]; exact of_decide_eq_true rfl) d6)]
      have hj1 : (j : Int) < 5 := by have := HJ.out; omega
      have hj0 : (0 : Int) ≤ (j : Int) := by omega
      refine turn_same (Tow.refl _ _) (v := .pointer (some ⟨gm, j, none⟩)) ?_ rfl hS.same
      clear old dep hoo hsz hb hS hLi hnot hyes P10 P11 P6
      go_simp
    | 13, hoo =>
      obtain rfl := Option.some.inj hoo
      have d12 : a.tmps.getD 50 undef = .pointer (some ⟨gm, j, none⟩) := dep 12 _ _ (by kernel_rfl) rfl rfl
      have e12 : a.tmps[50]?.getD undef = _ := (Array.getD_eq_getD_getElem? ..).symm.trans d12
      obtain ⟨d6, P6⟩ : a.tmps.getD 44 undef = .bool false ∧ PgB w2 gq (((⟨3, 1, 2, s⟩ : Pg).set j (⟨(El).toArray⟩ : ByteArray))) := dep 6 _ _ (by kernel_rfl) rfl rfl
      have e6 : a.tmps[44]?.getD undef = _ := (Array.getD_eq_getD_getElem? ..).symm.trans d6
      rw [if_pos (wanted_some rfl rfl rfl (by rw [hsz]; exact of_decide_eq_true rfl) d6)]
      have g0 := (hb.1.cell (q := ⟨gm, j, none⟩) HLM.out HNM.out).trans (HF7.out.cell HJ.out)
      refine turn_same (Tow.refl _ _) (v := .string (s j)) ?_ rfl hS.same
      clear old dep hoo hsz hb hS hLi hnot hyes P6
      go_simp
    | 14, hoo =>
      obtain rfl := Option.some.inj hoo
      have d9 : a.tmps.getD 47 undef = .string (s j) := dep 9 _ _ (by kernel_rfl) rfl rfl
      have e9 : a.tmps[47]?.getD undef = _ := (Array.getD_eq_getD_getElem? ..).symm.trans d9
      have d13 : a.tmps.getD 51 undef = .string (s j) := dep 13 _ _ (by kernel_rfl) rfl rfl
      have e13 : a.tmps[51]?.getD undef = _ := (Array.getD_eq_getD_getElem? ..).symm.trans d13
      obtain ⟨d6, P6⟩ : a.tmps.getD 44 undef = .bool false ∧ PgB w2 gq (((⟨3, 1, 2, s⟩ : Pg).set j (⟨(El).toArray⟩ : ByteArray))) := dep 6 _ _ (by kernel_rfl) rfl rfl
      have e6 : a.tmps[44]?.getD undef = _ := (Array.getD_eq_getD_getElem? ..).symm.trans d6
      rw [if_pos (wanted_some rfl rfl rfl (by rw [hsz]; exact of_decide_eq_true rfl) d6)]
      refine turn_same (Tow.refl _ _) (v := .bool false) ?_ rfl hS.same
      clear old dep hoo hsz hb hS hLi hnot hyes P6
      go_simp
    | 15, hoo =>
      obtain rfl := Option.some.inj hoo
      obtain ⟨d6, P6⟩ : a.tmps.getD 44 undef = .bool false ∧ PgB w2 gq (((⟨3, 1, 2, s⟩ : Pg).set j (⟨(El).toArray⟩ : ByteArray))) := dep 6 _ _ (by kernel_rfl) rfl rfl
      have e6 : a.tmps[44]?.getD undef = _ := (Array.getD_eq_getD_getElem? ..).symm.trans d6
      have d14 : a.tmps.getD 52 undef = .bool false := dep 14 _ _ (by kernel_rfl) rfl rfl
      have e14 : a.tmps[52]?.getD undef = _ := (Array.getD_eq_getD_getElem? ..).symm.trans d14
      rw [if_pos (wanted_none rfl)]
      refine turn_same (Tow.refl _ _) (v := .bool false) ?_ ⟨rfl, P6⟩ hS.same
      clear old dep hoo hsz hb hS hLi hnot hyes P6
      go_simp
    | 16, hoo =>
      obtain rfl := Option.some.inj hoo
      obtain ⟨d15, P15⟩ : a.tmps.getD 53 undef = .bool false ∧ PgB w2 gq (((⟨3, 1, 2, s⟩ : Pg).set j (⟨(El).toArray⟩ : ByteArray))) := dep 15 _ _ (by kernel_rfl) rfl rfl
      have e15 : a.tmps[53]?.getD undef = _ := (Array.getD_eq_getD_getElem? ..).symm.trans d15
      rw [if_pos (wanted_none rfl)]
      refine turn_same (Tow.refl _ _) (v := .bool false) ?_ ⟨rfl, P15⟩ hS.same
      clear old dep hoo hsz hb hS hLi hnot hyes P15
      go_simp
    | 17, hoo =>
      obtain rfl := Option.some.inj hoo
      have o2 : a.tmps.getD 2 undef = _ := old 2 (by kernel_rfl)
      obtain ⟨d16, P16⟩ : a.tmps.getD 54 undef = .bool false ∧ PgB w2 gq (((⟨3, 1, 2, s⟩ : Pg).set j (⟨(El).toArray⟩ : ByteArray))) := dep 16 _ _ (by kernel_rfl) rfl rfl
      have e16 : a.tmps[54]?.getD undef = _ := (Array.getD_eq_getD_getElem? ..).symm.trans d16
      rw [if_pos (wanted_some rfl rfl rfl (by rw [hsz]; exact of_decide_eq_true rfl) d16)]
      refine turn_same (Tow.refl _ _) (v := .int .i64 (j : Int)) ?_ ⟨rfl, P16⟩ hS.same
      clear old dep hoo hsz hb hS hLi hnot hyes P16
      go_simp
    | 18, hoo =>
      obtain rfl := Option.some.inj hoo
      have o9 : a.tmps.getD 9 undef = _ := old 9 (by kernel_rfl)
      obtain ⟨d17, P17⟩ : a.tmps.getD 55 undef = .int .i64 (j : Int) ∧ PgB w2 gq (((⟨3, 1, 2, s⟩ : Pg).set j (⟨(El).toArray⟩ : ByteArray))) := dep 17 _ _ (by kernel_rfl) rfl rfl
      have e17 : a.tmps[55]?.getD undef = _ := (Array.getD_eq_getD_getElem? ..).symm.trans d17
      obtain ⟨d16, P16⟩ : a.tmps.getD 54 undef = .bool false ∧ PgB w2 gq (((⟨3, 1, 2, s⟩ : Pg).set j (⟨(El).toArray⟩ : ByteArray))) := dep 16 _ _ (by kernel_rfl) rfl rfl
      have e16 : a.tmps[54]?.getD undef = _ := (Array.getD_eq_getD_getElem? ..).symm.trans d16
      rw [if_pos (wanted_some rfl rfl rfl (by rw [hsz]; exact of_decide_eq_true rfl) d16)]
      refine turn_enters (f := 16) (args := #[.pointer (some ⟨gq, 0, none⟩), .int .i64 (j : Int)]) ?_ (tow_grows hS (slot_gr P16 j HJ.out _ (set_at _ _ _)))
      clear old dep hoo hsz hb hS hLi hnot hyes P17 P16
      go_simp
    | 19, hoo =>
      obtain rfl := Option.some.inj hoo
      have o4 : a.tmps.getD 4 undef = _ := old 4 (by kernel_rfl)
      obtain ⟨d16, P16⟩ : a.tmps.getD 54 undef = .bool false ∧ PgB w2 gq (((⟨3, 1, 2, s⟩ : Pg).set j (⟨(El).toArray⟩ : ByteArray))) := dep 16 _ _ (by kernel_rfl) rfl rfl
      have e16 : a.tmps[54]?.getD undef = _ := (Array.getD_eq_getD_getElem? ..).symm.trans d16
      rw [if_pos (wanted_some rfl rfl rfl (by rw [hsz]; exact of_decide_eq_true rfl) d16)]
      have g0 := (hb.1.cell (q := ⟨w.heap.size, 0, none⟩) HLR.out HNR.out).trans p71
      have g1 := (hb.1.cell (q := ⟨w.heap.size, 1, none⟩) HLR.out HNR.out).trans p72
      have g2 := (hb.1.cell (q := ⟨w.heap.size, 2, none⟩) HLR.out HNR.out).trans p73
      refine turn_same (Tow.refl _ _) (v := .agg #[.int .i64 (t : Int), .string k, .string u]) ?_ rfl hS.same
      clear old dep hoo hsz hb hS hLi hnot hyes P16
      go_simp
    | 20, hoo =>
      obtain rfl := Option.some.inj hoo
      have d19 : a.tmps.getD 57 undef = .agg #[.int .i64 (t : Int), .string k, .string u] := dep 19 _ _ (by kernel_rfl) rfl rfl
      have e19 : a.tmps[57]?.getD undef = _ := (Array.getD_eq_getD_getElem? ..).symm.trans d19
      obtain ⟨d16, P16⟩ : a.tmps.getD 54 undef = .bool false ∧ PgB w2 gq (((⟨3, 1, 2, s⟩ : Pg).set j (⟨(El).toArray⟩ : ByteArray))) := dep 16 _ _ (by kernel_rfl) rfl rfl
      have e16 : a.tmps[54]?.getD undef = _ := (Array.getD_eq_getD_getElem? ..).symm.trans d16
      rw [if_pos (wanted_some rfl rfl rfl (by rw [hsz]; exact of_decide_eq_true rfl) d16)]
      refine turn_enters (f := 18) (args := #[.agg #[.int .i64 (t : Int), .string k, .string u]]) ?_ (tow_grows hS (encrow_aw w2 HR.out HE.out (Nat.lt_of_lt_of_le HLQ.out hb.1.size)))
      clear old dep hoo hsz hb hS hLi hnot hyes P16
      go_simp
    | 21, hoo =>
      obtain rfl := Option.some.inj hoo
      obtain ⟨A20, C20, d20, r20⟩ : ∃ A c, a.tmps.getD 58 undef = .slice A 40 c ∧ Away (· = gq) w2 (.slice A 40 c) (u8s (El)) := dep 20 _ _ (by kernel_rfl) rfl rfl
      have e20 : a.tmps[58]?.getD undef = _ := (Array.getD_eq_getD_getElem? ..).symm.trans d20
      obtain ⟨d16, P16⟩ : a.tmps.getD 54 undef = .bool false ∧ PgB w2 gq (((⟨3, 1, 2, s⟩ : Pg).set j (⟨(El).toArray⟩ : ByteArray))) := dep 16 _ _ (by kernel_rfl) rfl rfl
      have e16 : a.tmps[54]?.getD undef = _ := (Array.getD_eq_getD_getElem? ..).symm.trans d16
      rw [if_pos (wanted_some rfl rfl rfl (by rw [hsz]; exact of_decide_eq_true rfl) d16)]
      have hcv := conv_rdn HLE.out r20.rd
      refine turn_same (Tow.refl _ _) (v := .string ⟨(El).toArray⟩) ?_ ⟨rfl, P16⟩ hS.same
      clear old dep hoo hsz hb hS hLi hnot hyes P16 r20
      go_simp
    | 22, hoo =>
      obtain rfl := Option.some.inj hoo
      have d18 : a.tmps.getD 56 undef = .string (⟨(El).toArray⟩ : ByteArray) := dep 18 _ _ (by kernel_rfl) rfl rfl
      have e18 : a.tmps[56]?.getD undef = _ := (Array.getD_eq_getD_getElem? ..).symm.trans d18
      obtain ⟨d21, P21⟩ : a.tmps.getD 59 undef = .string ⟨(El).toArray⟩ ∧ PgB w2 gq (((⟨3, 1, 2, s⟩ : Pg).set j (⟨(El).toArray⟩ : ByteArray))) := dep 21 _ _ (by kernel_rfl) rfl rfl
      have e21 : a.tmps[59]?.getD undef = _ := (Array.getD_eq_getD_getElem? ..).symm.trans d21
      obtain ⟨d16, P16⟩ : a.tmps.getD 54 undef = .bool false ∧ PgB w2 gq (((⟨3, 1, 2, s⟩ : Pg).set j (⟨(El).toArray⟩ : ByteArray))) := dep 16 _ _ (by kernel_rfl) rfl rfl
      have e16 : a.tmps[54]?.getD undef = _ := (Array.getD_eq_getD_getElem? ..).symm.trans d16
      rw [if_pos (wanted_some rfl rfl rfl (by rw [hsz]; exact of_decide_eq_true rfl) d16)]
      refine turn_same (Tow.refl _ _) (v := .bool false) ?_ rfl hS.same
      clear old dep hoo hsz hb hS hLi hnot hyes P21 P16
      go_simp
    | 23, hoo =>
      obtain rfl := Option.some.inj hoo
      obtain ⟨d16, P16⟩ : a.tmps.getD 54 undef = .bool false ∧ PgB w2 gq (((⟨3, 1, 2, s⟩ : Pg).set j (⟨(El).toArray⟩ : ByteArray))) := dep 16 _ _ (by kernel_rfl) rfl rfl
      have e16 : a.tmps[54]?.getD undef = _ := (Array.getD_eq_getD_getElem? ..).symm.trans d16
      have d22 : a.tmps.getD 60 undef = .bool false := dep 22 _ _ (by kernel_rfl) rfl rfl
      have e22 : a.tmps[60]?.getD undef = _ := (Array.getD_eq_getD_getElem? ..).symm.trans d22
      rw [if_pos (wanted_none rfl)]
      refine turn_same (Tow.refl _ _) (v := .bool false) ?_ ⟨rfl, P16⟩ hS.same
      clear old dep hoo hsz hb hS hLi hnot hyes P16
      go_simp
    | i + 24, hoo => exact absurd hoo (by simp)
  · intro a w8 hb hS hsz hdf fin keep
    clear hS
    obtain ⟨tm, df⟩ := a
    have hx := frame_of [38, 39, 40, 41, 42, 43, 44, 45, 46, 47, 48, 49, 50, 51, 52, 53, 54, 55, 56, 57, 58, 59, 60, 61] (by kernel_rfl) hsz keep
    dsimp only at hdf hx
    simp only [List.foldl_cons, List.foldl_nil] at hx
    subst hdf
    clear hsz keep
    have kn : tm.getD 38 undef = .int .i64 (j : Int) := fin 0 _ _ rfl rfl
    rw [kn] at hx
    clear kn
    have kn : tm.getD 39 undef = .agg #[.int .i64 (t : Int), .string k, .string u] := fin 1 _ _ rfl rfl
    rw [kn] at hx
    clear kn
    generalize tm.getD 40 undef = y40 at hx
    have kn : tm.getD 41 undef = .string ⟨(El).toArray⟩ := fin 3 _ _ rfl rfl
    rw [kn] at hx
    clear kn
    obtain ⟨kn, HPG⟩ : tm.getD 42 undef = .bool true ∧ PgB w8 gq (((⟨3, 1, 2, s⟩ : Pg).set j (⟨(El).toArray⟩ : ByteArray))) := fin 4 _ _ rfl rfl
    rw [kn] at hx
    clear kn
    obtain ⟨kn, _⟩ : tm.getD 43 undef = .bool false ∧ PgB w8 gq (((⟨3, 1, 2, s⟩ : Pg).set j (⟨(El).toArray⟩ : ByteArray))) := fin 5 _ _ rfl rfl
    rw [kn] at hx
    clear kn
    obtain ⟨kn, _⟩ : tm.getD 44 undef = .bool false ∧ PgB w8 gq (((⟨3, 1, 2, s⟩ : Pg).set j (⟨(El).toArray⟩ : ByteArray))) := fin 6 _ _ rfl rfl
    rw [kn] at hx
    clear kn
    obtain ⟨kn, _⟩ : tm.getD 45 undef = .pointer (some ⟨g, 0, none⟩) ∧ PgB w8 gq (((⟨3, 1, 2, s⟩ : Pg).set j (⟨(El).toArray⟩ : ByteArray))) := fin 7 _ _ rfl rfl
    rw [kn] at hx
    clear kn
    obtain ⟨kn, _⟩ : tm.getD 46 undef = .int .i64 (j : Int) ∧ PgB w8 gq (((⟨3, 1, 2, s⟩ : Pg).set j (⟨(El).toArray⟩ : ByteArray))) := fin 8 _ _ rfl rfl
    rw [kn] at hx
    clear kn
    have kn : tm.getD 47 undef = .string (s j) := fin 9 _ _ rfl rfl
    rw [kn] at hx
    clear kn
    obtain ⟨kn, _⟩ : tm.getD 48 undef = .slice (some ⟨gm, 0, none⟩) 5 5 ∧ PgB w8 gq (((⟨3, 1, 2, s⟩ : Pg).set j (⟨(El).toArray⟩ : ByteArray))) := fin 10 _ _ rfl rfl
    rw [kn] at hx
    clear kn
    obtain ⟨kn, _⟩ : tm.getD 49 undef = .int .i64 (j : Int) ∧ PgB w8 gq (((⟨3, 1, 2, s⟩ : Pg).set j (⟨(El).toArray⟩ : ByteArray))) := fin 11 _ _ rfl rfl
    rw [kn] at hx
    clear kn
    have kn : tm.getD 50 undef = .pointer (some ⟨gm, j, none⟩) := fin 12 _ _ rfl rfl
    rw [kn] at hx
    clear kn
    have kn : tm.getD 51 undef = .string (s j) := fin 13 _ _ rfl rfl
    rw [kn] at hx
    clear kn
    have kn : tm.getD 52 undef = .bool false := fin 14 _ _ rfl rfl
    rw [kn] at hx
    clear kn
    obtain ⟨kn, _⟩ : tm.getD 53 undef = .bool false ∧ PgB w8 gq (((⟨3, 1, 2, s⟩ : Pg).set j (⟨(El).toArray⟩ : ByteArray))) := fin 15 _ _ rfl rfl
    rw [kn] at hx
    clear kn
    obtain ⟨kn, _⟩ : tm.getD 54 undef = .bool false ∧ PgB w8 gq (((⟨3, 1, 2, s⟩ : Pg).set j (⟨(El).toArray⟩ : ByteArray))) := fin 16 _ _ rfl rfl
    rw [kn] at hx
    clear kn
    obtain ⟨kn, _⟩ : tm.getD 55 undef = .int .i64 (j : Int) ∧ PgB w8 gq (((⟨3, 1, 2, s⟩ : Pg).set j (⟨(El).toArray⟩ : ByteArray))) := fin 17 _ _ rfl rfl
    rw [kn] at hx
    clear kn
    have kn : tm.getD 56 undef = .string (⟨(El).toArray⟩ : ByteArray) := fin 18 _ _ rfl rfl
    rw [kn] at hx
    clear kn
    have kn : tm.getD 57 undef = .agg #[.int .i64 (t : Int), .string k, .string u] := fin 19 _ _ rfl rfl
    rw [kn] at hx
    clear kn
    generalize tm.getD 58 undef = y58 at hx
    obtain ⟨kn, _⟩ : tm.getD 59 undef = .string ⟨(El).toArray⟩ ∧ PgB w8 gq (((⟨3, 1, 2, s⟩ : Pg).set j (⟨(El).toArray⟩ : ByteArray))) := fin 21 _ _ rfl rfl
    rw [kn] at hx
    clear kn
    have kn : tm.getD 60 undef = .bool false := fin 22 _ _ rfl rfl
    rw [kn] at hx
    clear kn
    obtain ⟨kn, _⟩ : tm.getD 61 undef = .bool false ∧ PgB w8 gq (((⟨3, 1, 2, s⟩ : Pg).set j (⟨(El).toArray⟩ : ByteArray))) := fin 23 _ _ rfl rfl
    rw [kn] at hx
    clear kn
    clear fin
    simp only [List.setIfInBounds_toArray, List.set_cons_succ, List.set_cons_zero] at hx
    subst hx
    have HB8 := hide hb
    have HP8 := hide (hb.1.blk HF7.out.pg HNG.out)
    have HC8 := hide ((hb.1.cell (q := ⟨gm, j, none⟩) HLM.out HNM.out).trans (HF7.out.cell HJ.out))
    have HLM8 := hide (Nat.lt_of_lt_of_le HLM.out hb.1.size)
    have HW8 := hide (HW7.out.trans (hb.1.below HW7.out.size (by rintro k rfl; exact HWQ.out)))
    clear hb p71 p72 p73
    go_wp2
    refine region_turns (G := Tow gq ((⟨3, 1, 2, s⟩ : Pg))) [Word.is _ (.int .i64 (j : Int)), Word.is _ (.slice (some ⟨gm, 0, none⟩) 5 5), Word.is _ (.int .i64 (j : Int)), Word.is _ (.pointer (some ⟨gm, j, none⟩)), Word.is _ (.string (s j)), pgW gq ((⟨3, 1, 2, s⟩ : Pg)) (.bool true), pgW gq ((⟨3, 1, 2, s⟩ : Pg)) (.bool true), Word.is _ (.agg #[.int .u64 3, .int .i64 1, .int .i64 2, .string (s 0), .string (s 1), .string (s 2), .string (s 3), .string (s 4)]), pgW gq ((⟨3, 1, 2, s⟩ : Pg)) (.pointer (some ⟨g, 0, none⟩)), Word.is _ (.pointer (some ⟨g, 0, none⟩)), Word.is _ (.agg #[.int .u64 3, .int .i64 1, .int .i64 2, .string (s 0), .string (s 1), .string (s 2), .string (s 3), .string (s 4)]), Word.is _ (.bool true), pgW gq ((⟨3, 1, 2, s⟩ : Pg)) (.bool true), pgW gq ((⟨3, 1, 2, s⟩ : Pg)) (.bool true)] (Yet gq (((⟨3, 1, 2, s⟩ : Pg).set j (⟨(El).toArray⟩ : ByteArray))) 5) (Tow.refl _ _) Tow.trans (Tow.drew _ _) (by kernel_rfl) (by kernel_rfl) (by kernel_rfl) (by kernel_rfl) (fun L L' w h hS hl => hS ((h 5 (by decide)).trans hl)) (fun _ => HPG) ?_ ?_
    · intro i o hoo L a w2 hb hS hLi hnot hyes hsz old dep
      match i, hoo with
      | 0, hoo =>
        obtain rfl := Option.some.inj hoo
        have o2 : a.tmps.getD 2 undef = _ := old 2 (by kernel_rfl)
        rw [if_pos (wanted_none rfl)]
        refine turn_same (Tow.refl _ _) (v := .int .i64 (j : Int)) ?_ rfl hS.same
        clear old dep hoo hsz hb hS hLi hnot hyes
        go_simp
      | 1, hoo =>
        obtain rfl := Option.some.inj hoo
        have o8 : a.tmps.getD 8 undef = _ := old 8 (by kernel_rfl)
        rw [if_pos (wanted_none rfl)]
        refine turn_same (Tow.refl _ _) (v := .slice (some ⟨gm, 0, none⟩) 5 5) ?_ rfl hS.same
        clear old dep hoo hsz hb hS hLi hnot hyes
        go_simp
      | 2, hoo =>
        obtain rfl := Option.some.inj hoo
        have o2 : a.tmps.getD 2 undef = _ := old 2 (by kernel_rfl)
        rw [if_pos (wanted_none rfl)]
        refine turn_same (Tow.refl _ _) (v := .int .i64 (j : Int)) ?_ rfl hS.same
        clear old dep hoo hsz hb hS hLi hnot hyes
        go_simp
      | 3, hoo =>
        obtain rfl := Option.some.inj hoo
        have d1 : a.tmps.getD 63 undef = .slice (some ⟨gm, 0, none⟩) 5 5 := dep 1 _ _ (by kernel_rfl) rfl rfl
        have e1 : a.tmps[63]?.getD undef = _ := (Array.getD_eq_getD_getElem? ..).symm.trans d1
        have d2 : a.tmps.getD 64 undef = .int .i64 (j : Int) := dep 2 _ _ (by kernel_rfl) rfl rfl
        have e2 : a.tmps[64]?.getD undef = _ := (Array.getD_eq_getD_getElem? ..).symm.trans d2
        rw [if_pos (wanted_none rfl)]
        have hj1 : (j : Int) < 5 := by have := HJ.out; omega
        have hj0 : (0 : Int) ≤ (j : Int) := by omega
        refine turn_same (Tow.refl _ _) (v := .pointer (some ⟨gm, j, none⟩)) ?_ rfl hS.same
        clear old dep hoo hsz hb hS hLi hnot hyes
        go_simp
      | 4, hoo =>
        obtain rfl := Option.some.inj hoo
        have d3 : a.tmps.getD 65 undef = .pointer (some ⟨gm, j, none⟩) := dep 3 _ _ (by kernel_rfl) rfl rfl
        have e3 : a.tmps[65]?.getD undef = _ := (Array.getD_eq_getD_getElem? ..).symm.trans d3
        rw [if_pos (wanted_none rfl)]
        have g0 := (hb.1.cell (q := ⟨gm, j, none⟩) HLM8.out HNM.out).trans HC8.out
        refine turn_same (Tow.refl _ _) (v := .string (s j)) ?_ rfl hS.same
        clear old dep hoo hsz hb hS hLi hnot hyes
        go_simp
      | 5, hoo =>
        obtain rfl := Option.some.inj hoo
        have o9 : a.tmps.getD 9 undef = _ := old 9 (by kernel_rfl)
        have d0 : a.tmps.getD 62 undef = .int .i64 (j : Int) := dep 0 _ _ (by kernel_rfl) rfl rfl
        have e0 : a.tmps[62]?.getD undef = _ := (Array.getD_eq_getD_getElem? ..).symm.trans d0
        have d4 : a.tmps.getD 66 undef = .string (s j) := dep 4 _ _ (by kernel_rfl) rfl rfl
        have e4 : a.tmps[66]?.getD undef = _ := (Array.getD_eq_getD_getElem? ..).symm.trans d4
        rw [if_pos (wanted_none rfl)]
        refine turn_enters (f := 19) (args := #[.pointer (some ⟨gq, 0, none⟩), .int .i64 (j : Int), .string (s j)]) ?_ (tow_sets (set_to HJ.out (hS hLi) (HS.out j HJ.out)))
        clear old dep hoo hsz hb hS hLi hnot hyes
        go_simp
      | 6, hoo =>
        obtain rfl := Option.some.inj hoo
        obtain ⟨d5, P5⟩ : a.tmps.getD 67 undef = .bool true ∧ PgB w2 gq ((⟨3, 1, 2, s⟩ : Pg)) := dep 5 _ _ (by kernel_rfl) rfl rfl
        have e5 : a.tmps[67]?.getD undef = _ := (Array.getD_eq_getD_getElem? ..).symm.trans d5
        rw [if_pos (wanted_none rfl)]
        refine turn_same (Tow.refl _ _) (v := .bool true) ?_ ⟨rfl, P5⟩ hS.same
        clear old dep hoo hsz hb hS hLi hnot hyes P5
        go_simp
      | 7, hoo =>
        obtain rfl := Option.some.inj hoo
        have o9 : a.tmps.getD 9 undef = _ := old 9 (by kernel_rfl)
        obtain ⟨d6, P6⟩ : a.tmps.getD 68 undef = .bool true ∧ PgB w2 gq ((⟨3, 1, 2, s⟩ : Pg)) := dep 6 _ _ (by kernel_rfl) rfl rfl
        have e6 : a.tmps[68]?.getD undef = _ := (Array.getD_eq_getD_getElem? ..).symm.trans d6
        rw [if_pos (wanted_some rfl rfl rfl (by rw [hsz]; exact of_decide_eq_true rfl) d6)]
        obtain ⟨g0, g1, g2, g3, g4, g5, g6, g7⟩ := all_c P6
        refine turn_same (Tow.refl _ _) (v := .agg #[.int .u64 3, .int .i64 1, .int .i64 2, .string (s 0), .string (s 1), .string (s 2), .string (s 3), .string (s 4)]) ?_ rfl hS.same
        clear old dep hoo hsz hb hS hLi hnot hyes P6
        go_simp
      | 8, hoo =>
        obtain rfl := Option.some.inj hoo
        have o7 : a.tmps.getD 7 undef = _ := old 7 (by kernel_rfl)
        obtain ⟨d6, P6⟩ : a.tmps.getD 68 undef = .bool true ∧ PgB w2 gq ((⟨3, 1, 2, s⟩ : Pg)) := dep 6 _ _ (by kernel_rfl) rfl rfl
        have e6 : a.tmps[68]?.getD undef = _ := (Array.getD_eq_getD_getElem? ..).symm.trans d6
        rw [if_pos (wanted_some rfl rfl rfl (by rw [hsz]; exact of_decide_eq_true rfl) d6)]
        refine turn_same (Tow.refl _ _) (v := .pointer (some ⟨g, 0, none⟩)) ?_ ⟨rfl, P6⟩ hS.same
        clear old dep hoo hsz hb hS hLi hnot hyes P6
        go_simp
      | 9, hoo =>
        obtain rfl := Option.some.inj hoo
        obtain ⟨d8, P8⟩ : a.tmps.getD 70 undef = .pointer (some ⟨g, 0, none⟩) ∧ PgB w2 gq ((⟨3, 1, 2, s⟩ : Pg)) := dep 8 _ _ (by kernel_rfl) rfl rfl
        have e8 : a.tmps[70]?.getD undef = _ := (Array.getD_eq_getD_getElem? ..).symm.trans d8
        obtain ⟨d6, P6⟩ : a.tmps.getD 68 undef = .bool true ∧ PgB w2 gq ((⟨3, 1, 2, s⟩ : Pg)) := dep 6 _ _ (by kernel_rfl) rfl rfl
        have e6 : a.tmps[68]?.getD undef = _ := (Array.getD_eq_getD_getElem? ..).symm.trans d6
        rw [if_pos (wanted_some rfl rfl rfl (by rw [hsz]; exact of_decide_eq_true rfl) d6)]
        refine turn_same (Tow.refl _ _) (v := .pointer (some ⟨g, 0, none⟩)) ?_ rfl hS.same
        clear old dep hoo hsz hb hS hLi hnot hyes P8 P6
        go_simp
      | 10, hoo =>
        obtain rfl := Option.some.inj hoo
        have d9 : a.tmps.getD 71 undef = .pointer (some ⟨g, 0, none⟩) := dep 9 _ _ (by kernel_rfl) rfl rfl
        have e9 : a.tmps[71]?.getD undef = _ := (Array.getD_eq_getD_getElem? ..).symm.trans d9
        obtain ⟨d6, P6⟩ : a.tmps.getD 68 undef = .bool true ∧ PgB w2 gq ((⟨3, 1, 2, s⟩ : Pg)) := dep 6 _ _ (by kernel_rfl) rfl rfl
        have e6 : a.tmps[68]?.getD undef = _ := (Array.getD_eq_getD_getElem? ..).symm.trans d6
        rw [if_pos (wanted_some rfl rfl rfl (by rw [hsz]; exact of_decide_eq_true rfl) d6)]
        obtain ⟨g0, g1, g2, g3, g4, g5, g6, g7⟩ := all_c (hb.1.blk HP8.out HNG.out)
        refine turn_same (Tow.refl _ _) (v := .agg #[.int .u64 3, .int .i64 1, .int .i64 2, .string (s 0), .string (s 1), .string (s 2), .string (s 3), .string (s 4)]) ?_ rfl hS.same
        clear old dep hoo hsz hb hS hLi hnot hyes P6
        go_simp
      | 11, hoo =>
        obtain rfl := Option.some.inj hoo
        have d7 : a.tmps.getD 69 undef = .agg #[.int .u64 3, .int .i64 1, .int .i64 2, .string (s 0), .string (s 1), .string (s 2), .string (s 3), .string (s 4)] := dep 7 _ _ (by kernel_rfl) rfl rfl
        have e7 : a.tmps[69]?.getD undef = _ := (Array.getD_eq_getD_getElem? ..).symm.trans d7
        have d10 : a.tmps.getD 72 undef = .agg #[.int .u64 3, .int .i64 1, .int .i64 2, .string (s 0), .string (s 1), .string (s 2), .string (s 3), .string (s 4)] := dep 10 _ _ (by kernel_rfl) rfl rfl
        have e10 : a.tmps[72]?.getD undef = _ := (Array.getD_eq_getD_getElem? ..).symm.trans d10
        obtain ⟨d6, P6⟩ : a.tmps.getD 68 undef = .bool true ∧ PgB w2 gq ((⟨3, 1, 2, s⟩ : Pg)) := dep 6 _ _ (by kernel_rfl) rfl rfl
        have e6 : a.tmps[68]?.getD undef = _ := (Array.getD_eq_getD_getElem? ..).symm.trans d6
        rw [if_pos (wanted_some rfl rfl rfl (by rw [hsz]; exact of_decide_eq_true rfl) d6)]
        exact turn_same (Tow.refl _ _) (v := .bool true) (exec_eq_page rfl d7 d10) rfl hS.same
      | 12, hoo =>
        obtain rfl := Option.some.inj hoo
        obtain ⟨d6, P6⟩ : a.tmps.getD 68 undef = .bool true ∧ PgB w2 gq ((⟨3, 1, 2, s⟩ : Pg)) := dep 6 _ _ (by kernel_rfl) rfl rfl
        have e6 : a.tmps[68]?.getD undef = _ := (Array.getD_eq_getD_getElem? ..).symm.trans d6
        have d11 : a.tmps.getD 73 undef = .bool true := dep 11 _ _ (by kernel_rfl) rfl rfl
        have e11 : a.tmps[73]?.getD undef = _ := (Array.getD_eq_getD_getElem? ..).symm.trans d11
        rw [if_pos (wanted_none rfl)]
        refine turn_same (Tow.refl _ _) (v := .bool true) ?_ ⟨rfl, P6⟩ hS.same
        clear old dep hoo hsz hb hS hLi hnot hyes P6
        go_simp
      | 13, hoo =>
        obtain rfl := Option.some.inj hoo
        obtain ⟨d12, P12⟩ : a.tmps.getD 74 undef = .bool true ∧ PgB w2 gq ((⟨3, 1, 2, s⟩ : Pg)) := dep 12 _ _ (by kernel_rfl) rfl rfl
        have e12 : a.tmps[74]?.getD undef = _ := (Array.getD_eq_getD_getElem? ..).symm.trans d12
        rw [if_pos (wanted_none rfl)]
        refine turn_same (Tow.refl _ _) (v := .bool true) ?_ ⟨rfl, P12⟩ hS.same
        clear old dep hoo hsz hb hS hLi hnot hyes P12
        go_simp
      | i + 14, hoo => exact absurd hoo (by simp)
    · intro a w9 hb hS hsz hdf fin keep
      clear hS
      obtain ⟨tm, df⟩ := a
      have hx := frame_of [62, 63, 64, 65, 66, 67, 68, 69, 70, 71, 72, 73, 74, 6] (by kernel_rfl) hsz keep
      dsimp only at hdf hx
      simp only [List.foldl_cons, List.foldl_nil] at hx
      subst hdf
      clear hsz keep
      have kn : tm.getD 62 undef = .int .i64 (j : Int) := fin 0 _ _ rfl rfl
      rw [kn] at hx
      clear kn
      have kn : tm.getD 63 undef = .slice (some ⟨gm, 0, none⟩) 5 5 := fin 1 _ _ rfl rfl
      rw [kn] at hx
      clear kn
      have kn : tm.getD 64 undef = .int .i64 (j : Int) := fin 2 _ _ rfl rfl
      rw [kn] at hx
      clear kn
      have kn : tm.getD 65 undef = .pointer (some ⟨gm, j, none⟩) := fin 3 _ _ rfl rfl
      rw [kn] at hx
      clear kn
      have kn : tm.getD 66 undef = .string (s j) := fin 4 _ _ rfl rfl
      rw [kn] at hx
      clear kn
      obtain ⟨kn, HPG⟩ : tm.getD 67 undef = .bool true ∧ PgB w9 gq ((⟨3, 1, 2, s⟩ : Pg)) := fin 5 _ _ rfl rfl
      rw [kn] at hx
      clear kn
      obtain ⟨kn, _⟩ : tm.getD 68 undef = .bool true ∧ PgB w9 gq ((⟨3, 1, 2, s⟩ : Pg)) := fin 6 _ _ rfl rfl
      rw [kn] at hx
      clear kn
      have kn : tm.getD 69 undef = .agg #[.int .u64 3, .int .i64 1, .int .i64 2, .string (s 0), .string (s 1), .string (s 2), .string (s 3), .string (s 4)] := fin 7 _ _ rfl rfl
      rw [kn] at hx
      clear kn
      obtain ⟨kn, _⟩ : tm.getD 70 undef = .pointer (some ⟨g, 0, none⟩) ∧ PgB w9 gq ((⟨3, 1, 2, s⟩ : Pg)) := fin 8 _ _ rfl rfl
      rw [kn] at hx
      clear kn
      have kn : tm.getD 71 undef = .pointer (some ⟨g, 0, none⟩) := fin 9 _ _ rfl rfl
      rw [kn] at hx
      clear kn
      have kn : tm.getD 72 undef = .agg #[.int .u64 3, .int .i64 1, .int .i64 2, .string (s 0), .string (s 1), .string (s 2), .string (s 3), .string (s 4)] := fin 10 _ _ rfl rfl
      rw [kn] at hx
      clear kn
      have kn : tm.getD 73 undef = .bool true := fin 11 _ _ rfl rfl
      rw [kn] at hx
      clear kn
      obtain ⟨kn, _⟩ : tm.getD 74 undef = .bool true ∧ PgB w9 gq ((⟨3, 1, 2, s⟩ : Pg)) := fin 12 _ _ rfl rfl
      rw [kn] at hx
      clear kn
      obtain ⟨kn, _⟩ : tm.getD 6 undef = .bool true ∧ PgB w9 gq ((⟨3, 1, 2, s⟩ : Pg)) := fin 13 _ _ rfl rfl
      rw [kn] at hx
      clear kn
      clear fin
      simp only [List.setIfInBounds_toArray, List.set_cons_succ, List.set_cons_zero] at hx
      subst hx
      go_wp2
      go_ret
      exact ⟨rfl, HW8.out.trans (hb.1.below HW8.out.size (by rintro k rfl; exact HWQ.out))⟩
theorem copies_walk (v : Value) (rs : List RowD) (t : Int) (k u : ByteArray) (y : Int) (w : World) (hv : RowRow w w.heap.size v rs) (_ : (Lit.int .i64 t).wf = true) (_ : k.size ≤ maxLen) (_ : u.size ≤ maxLen) (_ : (Lit.int .i64 y).wf = true) :
    Calls Try.prog 8 #[v, .agg #[.int .i64 t, .string k, .string u], .int .i64 y] w fun e w' => e = .returned (.bool true) ∧ Below w.heap.size w w' := by
  cases hl : lightsB rs
  · exact copies_long v rs t k u y w hv hl
  · cases hl2 : lightsB [⟨t, k, u⟩]
    · exact copies_long2 v rs t k u y w hv hl hl2
    · cases hr : rightB t k u
      · exact copies_wrong v rs t k u y w hv hl hl2 hr
      · obtain ⟨n, rfl⟩ : ∃ n : Nat, t = (n : Int) := ⟨t.toNat, by have := (rightB_iff.1 hr).1; omega⟩
        exact copies_right v rs n k u y w hv hl hl2 hr
end Go.Proofs.Ytajpjffjhnmfmaa
