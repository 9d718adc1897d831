/-
  The walk of IndexKeeps.
-/
import Derived.Test.YtkcomkllnhdohaaLight
namespace Go.Proofs.Ytkcomkllnhdohaa
open Go.RowKit
set_option linter.unusedSimpArgs false
set_option linter.unusedVariables false

/-- Lists of one item. -/
theorem put_first (x : It) : putL x [] = [x] := rfl
theorem put_second {x y : It} (h : x.same y) : putL y [x] = [y] := by
  unfold putL
  rw [List.filter_cons_of_neg (by rw [itS_iff.2 h]; decide)]
  rfl
theorem one_has {x y : It} (h : x.same y) : gotL y [x] = x ∧ hasL y [x] = true := by
  unfold gotL hasL
  rw [List.find?_cons_of_pos (p := fun a => itS a y) (itS_iff.2 h)]
  exact ⟨rfl, rfl⟩
theorem one_not {x y : It} (h : ¬ x.same y) : gotL y [x] = default ∧ hasL y [x] = false := by
  unfold gotL hasL
  have e : ¬ itS x y = true := fun e => h (itS_iff.1 e)
  rw [List.find?_cons_of_neg (p := fun a => itS a y) e]
  exact ⟨rfl, rfl⟩
theorem longer_ne (k : ByteArray) : ¬ k = k ++ ⟨#[120]⟩ := by
  intro e
  have := congrArg ByteArray.size e
  rw [ByteArray.size_append] at this
  have h1 : (⟨#[120]⟩ : ByteArray).size = 1 := rfl
  omega
/-- The calls that are asked whether they are light. -/
theorem two_calls {W : World} (x y : It) (hx : x.Ok) (hy : y.Ok) : ICallRow (W.alloc (.cells #[.int .i64 0, .int .i64 x.t, .string x.key, .string x.val, .int .i64 x.p, .int .i64 x.s, .int .i64 0, .int .i64 y.t, .string y.key, .string y.val, .int .i64 y.p, .int .i64 y.s] 34)) (W.alloc (.cells #[.int .i64 0, .int .i64 x.t, .string x.key, .string x.val, .int .i64 x.p, .int .i64 x.s, .int .i64 0, .int .i64 y.t, .string y.key, .string y.val, .int .i64 y.p, .int .i64 y.s] 34)).heap.size (.slice (some ⟨W.heap.size, 0, none⟩) 2 2) [⟨0, x⟩, ⟨0, y⟩] := by
  have hb : Blk (W.alloc (.cells #[.int .i64 0, .int .i64 x.t, .string x.key, .string x.val, .int .i64 x.p, .int .i64 x.s, .int .i64 0, .int .i64 y.t, .string y.key, .string y.val, .int .i64 y.p, .int .i64 y.s] 34)) W.heap.size 34 _ := heap_new W _
  refine ⟨⟨_, _, rfl, Nat.le_refl _, fun _ => ⟨W.heap.size, 0, rfl, hb.lt, fun j z hj i u hu => ?_⟩⟩, fun z hz => ?_⟩
  · have h6 : i < 6 := (List.getElem?_eq_some_iff.1 hu).1
    refine hb.cell _ u ?_
    rw [← hu]
    match j, hj with
    | 0, hj =>
      obtain rfl := Option.some.inj hj
      match i, h6 with
      | 0, _ => rfl
      | 1, _ => rfl
      | 2, _ => rfl
      | 3, _ => rfl
      | 4, _ => rfl
      | 5, _ => rfl
    | 1, hj =>
      obtain rfl := Option.some.inj hj
      match i, h6 with
      | 0, _ => rfl
      | 1, _ => rfl
      | 2, _ => rfl
      | 3, _ => rfl
      | 4, _ => rfl
      | 5, _ => rfl
    | j + 2, hj => cases hj
  · rcases List.mem_cons.1 hz with rfl | hz
    · exact ⟨rfl, hx⟩
    · obtain rfl := List.mem_singleton.1 hz
      exact ⟨rfl, hy⟩
set_option maxRecDepth 20000 in
set_option maxHeartbeats 4000000 in
theorem keep_walk (x y : It) (w : World) (hx : x.Ok) (hy : y.Ok) : Calls Try.prog 8 #[x.v, y.v] w fun e w' => e = .returned (.bool true) ∧ Below w.heap.size w w' := by
  have K0 : Hid (Ow w (fun _ => False) ((w.alloc (.cells x.vc 32)).alloc (.cells y.vc 32)) [.blk w.heap.size 32 x.vc, .blk (w.heap.size + 1) 32 y.vc]) := hide (by
    have h := ((Ow.start w).box 32 x.vc).box 32 y.vc
    rw [World.size_alloc] at h
    exact h)
  unfold It.vc at K0
  unfold It.v
  cases hl : lightB [⟨0, x⟩, ⟨0, y⟩]
  · have HL := hide hl
    clear hl
    go_enter Try.func8, Try.ntmps8
    go_wp2_with (first
      | (go_at_call 10; (with_reducible refine (fit_any _).mono ?_); rintro e w1 ⟨rfl, hb⟩; have K1 := hide (K0.out.below hb); obtain ⟨x0, x1, x2, x3, x4⟩ := item_cells (K1.out.blk (i := 0) rfl); obtain ⟨y0, y1, y2, y3, y4⟩ := item_cells (K1.out.blk (i := 1) rfl); clear hb)
      | (go_at_call 11; (with_reducible refine (light_any (two_calls x y hx hy)).mono ?_); rw [HL.out]; rintro e w2 ⟨rfl, hb⟩; have KE := hide ((K1.out.below ((Below.refl _ _).alloc (Nat.le_refl _) _)).below hb).bel; clear hb))
    go_ret
    exact ⟨rfl, KE.out⟩
  · have HL := hide hl
    have hfew := lightB_all hl ⟨0, x⟩ (by simp)
    have hks : x.key.size + 1 ≤ 9223372036854775807 := by
      dsimp only at hfew
      omega
    clear hl hfew
    have e1 : gotL (sought x.t x.key) [x] = x ∧ hasL (sought x.t x.key) [x] = true := one_has ⟨rfl, rfl⟩
    obtain ⟨z, hz⟩ : ∃ z : It, z = ⟨x.t, x.key, y.val, y.p, y.s⟩ := ⟨_, rfl⟩
    have e2 : gotL (sought x.t x.key) [z] = z ∧ hasL (sought x.t x.key) [z] = true := by rw [hz]; exact one_has ⟨rfl, rfl⟩
    have e3 : gotL (sought x.t (x.key ++ ⟨#[120]⟩)) [z] = default ∧ hasL (sought x.t (x.key ++ ⟨#[120]⟩)) [z] = false := by rw [hz]; exact one_not (fun h => longer_ne x.key h.2)
    have e4 : putL z [x] = [z] := by rw [hz]; exact put_second ⟨rfl, rfl⟩
    have E1 := hide e1
    have E2 := hide e2
    have E3 := hide e3
    have E4 := hide e4
    have HZ := hide hz
    clear e1 e2 e3 e4 hz
    go_enter Try.func8, Try.ntmps8
    go_wp2_with (first
      | (go_at_call 10; (with_reducible refine (fit_any _).mono ?_); rintro e w1 ⟨rfl, hb⟩; have K1 := hide (K0.out.below hb); obtain ⟨x0, x1, x2, x3, x4⟩ := item_cells (K1.out.blk (i := 0) rfl); obtain ⟨y0, y1, y2, y3, y4⟩ := item_cells (K1.out.blk (i := 1) rfl); clear hb)
      | (go_at_call 11; (with_reducible refine (light_any (two_calls x y hx hy)).mono ?_); rw [HL.out]; rintro e W ⟨rfl, hb⟩; have K2 := hide ((K1.out.below ((Below.refl _ _).alloc (Nat.le_refl _) _)).below hb); clear hb))
    have KX : Hid (Blk W w.heap.size 32 x.vc) := hide (K2.out.blk (i := 0) rfl)
    have KY := hide (K2.out.blk (i := 1) rfl)
    clear K0 K1 HL
    refine region_turns (G := Turns (· = (w.heap.size + 1))) [Word.is _ (.pointer (some ⟨w.heap.size, 0, none⟩)), Word.is _ (.pointer (some ⟨w.heap.size, 0, none⟩)), Word.is _ (.int .i64 x.t), Word.is _ (.pointer (some ⟨w.heap.size, 0, none⟩)), Word.is _ (.pointer (some ⟨w.heap.size, 1, none⟩)), Word.is _ (.string x.key), Word.is _ (.pointer (some ⟨(w.heap.size + 1), 0, none⟩)), Word.is _ (.pointer (some ⟨(w.heap.size + 1), 0, none⟩)), Word.any _, Word.is _ (.pointer (some ⟨(w.heap.size + 1), 0, none⟩)), Word.is _ (.pointer (some ⟨(w.heap.size + 1), 1, none⟩)), Word.any _] (Stored (w.heap.size + 1) 32 [(8, 0, .int .i64 x.t), (11, 1, .string x.key)] (#[.int .i64 y.t, .string y.key, .string y.val, .int .i64 y.p, .int .i64 y.s])) (Turns.refl _) Turns.trans (Turns.drew _) (by kernel_rfl) (by kernel_rfl) (by kernel_rfl) (by kernel_rfl) (fun L L' w h hS => Stored.ext (by kernel_rfl) h hS) (Stored.start _ KY.out) ?_ ?_
    · intro i o ho L a w2 hb hS hLi hnot hyes hsz old dep
      match i, ho with
      | 0, ho =>
        obtain rfl := Option.some.inj ho
        have o2 : a.tmps.getD 2 undef = _ := old 2 (by kernel_rfl)
        rw [if_pos (wanted_none rfl)]
        refine turn_same (Turns.refl _) (v := .pointer (some ⟨w.heap.size, 0, none⟩)) ?_ rfl (hS.other (by rfl))
        clear old dep ho hsz hb hS hLi hnot hyes
        go_simp
      | 1, ho =>
        obtain rfl := Option.some.inj ho
        have d0 : a.tmps.getD 21 undef = .pointer (some ⟨w.heap.size, 0, none⟩) := dep 0 _ _ (by kernel_rfl) rfl rfl
        have e0 : a.tmps[21]?.getD undef = _ := (Array.getD_eq_getD_getElem? ..).symm.trans d0
        rw [if_pos (wanted_none rfl)]
        refine turn_same (Turns.refl _) (v := .pointer (some ⟨w.heap.size, 0, none⟩)) ?_ rfl (hS.other (by rfl))
        clear old dep ho hsz hb hS hLi hnot hyes
        go_simp
      | 2, ho =>
        obtain rfl := Option.some.inj ho
        have d1 : a.tmps.getD 22 undef = .pointer (some ⟨w.heap.size, 0, none⟩) := dep 1 _ _ (by kernel_rfl) rfl rfl
        have e1 : a.tmps[22]?.getD undef = _ := (Array.getD_eq_getD_getElem? ..).symm.trans d1
        rw [if_pos (wanted_none rfl)]
        have g0 := (item_cells (hb.blk KX.out (by show w.heap.size ≠ w.heap.size + 1; omega))).1
        refine turn_same (Turns.refl _) (v := .int .i64 x.t) ?_ rfl (hS.other (by rfl))
        clear old dep ho hsz hb hS hLi hnot hyes
        go_simp
      | 3, ho =>
        obtain rfl := Option.some.inj ho
        have o2 : a.tmps.getD 2 undef = _ := old 2 (by kernel_rfl)
        rw [if_pos (wanted_none rfl)]
        refine turn_same (Turns.refl _) (v := .pointer (some ⟨w.heap.size, 0, none⟩)) ?_ rfl (hS.other (by rfl))
        clear old dep ho hsz hb hS hLi hnot hyes
        go_simp
      | 4, ho =>
        obtain rfl := Option.some.inj ho
        have d3 : a.tmps.getD 24 undef = .pointer (some ⟨w.heap.size, 0, none⟩) := dep 3 _ _ (by kernel_rfl) rfl rfl
        have e3 : a.tmps[24]?.getD undef = _ := (Array.getD_eq_getD_getElem? ..).symm.trans d3
        rw [if_pos (wanted_none rfl)]
        refine turn_same (Turns.refl _) (v := .pointer (some ⟨w.heap.size, 1, none⟩)) ?_ rfl (hS.other (by rfl))
        clear old dep ho hsz hb hS hLi hnot hyes
        go_simp
      | 5, ho =>
        obtain rfl := Option.some.inj ho
        have d4 : a.tmps.getD 25 undef = .pointer (some ⟨w.heap.size, 1, none⟩) := dep 4 _ _ (by kernel_rfl) rfl rfl
        have e4 : a.tmps[25]?.getD undef = _ := (Array.getD_eq_getD_getElem? ..).symm.trans d4
        rw [if_pos (wanted_none rfl)]
        have g0 := (item_cells (hb.blk KX.out (by show w.heap.size ≠ w.heap.size + 1; omega))).2.1
        refine turn_same (Turns.refl _) (v := .string x.key) ?_ rfl (hS.other (by rfl))
        clear old dep ho hsz hb hS hLi hnot hyes
        go_simp
      | 6, ho =>
        obtain rfl := Option.some.inj ho
        have o3 : a.tmps.getD 3 undef = _ := old 3 (by kernel_rfl)
        rw [if_pos (wanted_none rfl)]
        refine turn_same (Turns.refl _) (v := .pointer (some ⟨(w.heap.size + 1), 0, none⟩)) ?_ rfl (hS.other (by rfl))
        clear old dep ho hsz hb hS hLi hnot hyes
        go_simp
      | 7, ho =>
        obtain rfl := Option.some.inj ho
        have d6 : a.tmps.getD 27 undef = .pointer (some ⟨(w.heap.size + 1), 0, none⟩) := dep 6 _ _ (by kernel_rfl) rfl rfl
        have e6 : a.tmps[27]?.getD undef = _ := (Array.getD_eq_getD_getElem? ..).symm.trans d6
        rw [if_pos (wanted_none rfl)]
        refine turn_same (Turns.refl _) (v := .pointer (some ⟨(w.heap.size + 1), 0, none⟩)) ?_ rfl (hS.other (by rfl))
        clear old dep ho hsz hb hS hLi hnot hyes
        go_simp
      | 8, ho =>
        obtain rfl := Option.some.inj ho
        have d2 : a.tmps.getD 23 undef = .int .i64 x.t := dep 2 _ _ (by kernel_rfl) rfl rfl
        have e2 : a.tmps[23]?.getD undef = _ := (Array.getD_eq_getD_getElem? ..).symm.trans d2
        have d7 : a.tmps.getD 28 undef = .pointer (some ⟨(w.heap.size + 1), 0, none⟩) := dep 7 _ _ (by kernel_rfl) rfl rfl
        have e7 : a.tmps[28]?.getD undef = _ := (Array.getD_eq_getD_getElem? ..).symm.trans d7
        rw [if_pos (wanted_none rfl)]
        obtain ⟨⟨u0, hu0⟩, hf0⟩ := hS.cell 0 (by simp)
        refine turn_skips (w' := w2.setCell ⟨(w.heap.size + 1), 0, none⟩ (.int .i64 x.t)) ?_ trivial (hS.at_ 0 rfl rfl hLi) (Turns.own w2 _ _ _)
        clear old dep ho hsz hb hS hLi hnot hyes
        go_simp
      | 9, ho =>
        obtain rfl := Option.some.inj ho
        have o3 : a.tmps.getD 3 undef = _ := old 3 (by kernel_rfl)
        rw [if_pos (wanted_none rfl)]
        refine turn_same (Turns.refl _) (v := .pointer (some ⟨(w.heap.size + 1), 0, none⟩)) ?_ rfl (hS.other (by rfl))
        clear old dep ho hsz hb hS hLi hnot hyes
        go_simp
      | 10, ho =>
        obtain rfl := Option.some.inj ho
        have d9 : a.tmps.getD 29 undef = .pointer (some ⟨(w.heap.size + 1), 0, none⟩) := dep 9 _ _ (by kernel_rfl) rfl rfl
        have e9 : a.tmps[29]?.getD undef = _ := (Array.getD_eq_getD_getElem? ..).symm.trans d9
        rw [if_pos (wanted_none rfl)]
        refine turn_same (Turns.refl _) (v := .pointer (some ⟨(w.heap.size + 1), 1, none⟩)) ?_ rfl (hS.other (by rfl))
        clear old dep ho hsz hb hS hLi hnot hyes
        go_simp
      | 11, ho =>
        obtain rfl := Option.some.inj ho
        have d5 : a.tmps.getD 26 undef = .string x.key := dep 5 _ _ (by kernel_rfl) rfl rfl
        have e5 : a.tmps[26]?.getD undef = _ := (Array.getD_eq_getD_getElem? ..).symm.trans d5
        have d10 : a.tmps.getD 30 undef = .pointer (some ⟨(w.heap.size + 1), 1, none⟩) := dep 10 _ _ (by kernel_rfl) rfl rfl
        have e10 : a.tmps[30]?.getD undef = _ := (Array.getD_eq_getD_getElem? ..).symm.trans d10
        rw [if_pos (wanted_none rfl)]
        obtain ⟨⟨u0, hu0⟩, hf0⟩ := hS.cell 1 (by simp)
        refine turn_skips (w' := w2.setCell ⟨(w.heap.size + 1), 1, none⟩ (.string x.key)) ?_ trivial (hS.at_ 1 rfl rfl hLi) (Turns.own w2 _ _ _)
        clear old dep ho hsz hb hS hLi hnot hyes
        go_simp
      | i + 12, ho => exact absurd ho (by simp)
    · intro a w3 hb hS hsz hdf fin keep
      obtain ⟨tm, df⟩ := a
      have hx := frame_of [21, 22, 23, 24, 25, 26, 27, 28, 29, 30] (by kernel_rfl) hsz keep
      dsimp only at hdf hx
      simp only [List.foldl_cons, List.foldl_nil] at hx
      subst hdf
      clear hsz keep
      have kn : tm.getD 21 undef = .pointer (some ⟨w.heap.size, 0, none⟩) := fin 0 _ _ rfl rfl
      rw [kn] at hx
      clear kn
      have kn : tm.getD 22 undef = .pointer (some ⟨w.heap.size, 0, none⟩) := fin 1 _ _ rfl rfl
      rw [kn] at hx
      clear kn
      have kn : tm.getD 23 undef = .int .i64 x.t := fin 2 _ _ rfl rfl
      rw [kn] at hx
      clear kn
      have kn : tm.getD 24 undef = .pointer (some ⟨w.heap.size, 0, none⟩) := fin 3 _ _ rfl rfl
      rw [kn] at hx
      clear kn
      have kn : tm.getD 25 undef = .pointer (some ⟨w.heap.size, 1, none⟩) := fin 4 _ _ rfl rfl
      rw [kn] at hx
      clear kn
      have kn : tm.getD 26 undef = .string x.key := fin 5 _ _ rfl rfl
      rw [kn] at hx
      clear kn
      have kn : tm.getD 27 undef = .pointer (some ⟨(w.heap.size + 1), 0, none⟩) := fin 6 _ _ rfl rfl
      rw [kn] at hx
      clear kn
      have kn : tm.getD 28 undef = .pointer (some ⟨(w.heap.size + 1), 0, none⟩) := fin 7 _ _ rfl rfl
      rw [kn] at hx
      clear kn
      have kn : tm.getD 29 undef = .pointer (some ⟨(w.heap.size + 1), 0, none⟩) := fin 9 _ _ rfl rfl
      rw [kn] at hx
      clear kn
      have kn : tm.getD 30 undef = .pointer (some ⟨(w.heap.size + 1), 1, none⟩) := fin 10 _ _ rfl rfl
      rw [kn] at hx
      clear kn
      clear fin
      simp only [List.setIfInBounds_toArray, List.set_cons_succ, List.set_cons_zero] at hx
      subst hx
      have M3 : Hid (Ow w (fun _ => False) (w3.alloc (.cells #[.slice none 0 0] 27)) [.blk w.heap.size 32 x.vc, .blk (w.heap.size + 1) 32 z.vc, .ix w3.heap.size []]) := hide (by
        have h2 : Blk w3 (w.heap.size + 1) 32 z.vc := by rw [HZ.out]; exact hS
        exact (K2.out.turns (i := 1) rfl hb h2).newix)
      clear hb hS KX KY K2
      obtain ⟨x0, x1, x2, x3, x4⟩ := item_cells (M3.out.blk (i := 0) rfl)
      obtain ⟨y0, y1, y2, y3, y4⟩ := item_cells (M3.out.blk (i := 1) rfl)
      go_wp2_with (first
        | (go_at_call 12; (with_reducible refine (ow_put M3.out (i := 2) rfl x (by decide)).mono ?_); rintro e w4 ⟨rfl, hm⟩; rw [put_first] at hm; have M4 := hide hm; have l0 := (M4.out.blk (i := 0) rfl).lt; have l1 := (M4.out.blk (i := 1) rfl).lt; obtain ⟨x0, x1, x2, x3, x4⟩ := item_cells (M4.out.blk (i := 0) rfl); obtain ⟨y0, y1, y2, y3, y4⟩ := item_cells (M4.out.blk (i := 1) rfl); clear hm)
        | (go_at_call 15; (with_reducible refine (ow_find M4.out (i := 2) rfl x.t x.key E1.out.1 E1.out.2).mono ?_); rintro e w5 ⟨rfl, hm⟩; have M5 := hide hm; have l0 := (M5.out.blk (i := 0) rfl).lt; have l1 := (M5.out.blk (i := 1) rfl).lt; obtain ⟨x0, x1, x2, x3, x4⟩ := item_cells (M5.out.blk (i := 0) rfl); obtain ⟨y0, y1, y2, y3, y4⟩ := item_cells (M5.out.blk (i := 1) rfl); clear hm)
        | (go_at_call 12; (with_reducible refine (ow_put (M5.out.box 32 #[.int .i64 x.t, .string x.key, .string x.val, .int .i64 x.p, .int .i64 x.s]) (i := 2) rfl z (by simp)).mono ?_); rintro e w6 ⟨rfl, hm⟩; rw [E4.out] at hm; have M6 := hide hm; have l0 := (M6.out.blk (i := 0) rfl).lt; have l1 := (M6.out.blk (i := 1) rfl).lt; obtain ⟨x0, x1, x2, x3, x4⟩ := item_cells (M6.out.blk (i := 0) rfl); obtain ⟨y0, y1, y2, y3, y4⟩ := item_cells (M6.out.blk (i := 1) rfl); obtain ⟨a0, a1, a2, a3, a4⟩ := item_cells (x := x) (M6.out.blk (i := 3) rfl); have la := (M6.out.blk (i := 3) rfl).lt; clear hm)
        | (go_at_call 15; (with_reducible refine (ow_find M6.out (i := 2) rfl x.t x.key E2.out.1 E2.out.2).mono ?_); rintro e w7 ⟨rfl, hm⟩; have M7 := hide hm; have l0 := (M7.out.blk (i := 0) rfl).lt; have l1 := (M7.out.blk (i := 1) rfl).lt; obtain ⟨x0, x1, x2, x3, x4⟩ := item_cells (M7.out.blk (i := 0) rfl); obtain ⟨y0, y1, y2, y3, y4⟩ := item_cells (M7.out.blk (i := 1) rfl); obtain ⟨a0, a1, a2, a3, a4⟩ := item_cells (x := x) (M7.out.blk (i := 3) rfl); have la := (M7.out.blk (i := 3) rfl).lt; clear hm)
        | (go_at_call 15; (with_reducible refine (ow_find (M7.out.box 32 #[.int .i64 z.t, .string z.key, .string z.val, .int .i64 z.p, .int .i64 z.s]) (i := 2) rfl x.t (x.key ++ ⟨#[120]⟩) E3.out.1 E3.out.2).mono ?_); rintro e w8 ⟨rfl, hm⟩; have M8 := hide hm; have l0 := (M8.out.blk (i := 0) rfl).lt; have l1 := (M8.out.blk (i := 1) rfl).lt; obtain ⟨x0, x1, x2, x3, x4⟩ := item_cells (M8.out.blk (i := 0) rfl); obtain ⟨y0, y1, y2, y3, y4⟩ := item_cells (M8.out.blk (i := 1) rfl); obtain ⟨a0, a1, a2, a3, a4⟩ := item_cells (x := x) (M8.out.blk (i := 3) rfl); have la := (M8.out.blk (i := 3) rfl).lt; obtain ⟨b0, b1, b2, b3, b4⟩ := item_cells (x := z) (M8.out.blk (i := 4) rfl); have lb := (M8.out.blk (i := 4) rfl).lt; clear hm)
        | (go_at_call 16; (with_reducible refine (ow_len (M8.out.box 32 #[.int .i64 (default : It).t, .string (default : It).key, .string (default : It).val, .int .i64 (default : It).p, .int .i64 (default : It).s]) (i := 2) rfl).mono ?_); rintro e w9 ⟨rfl, rfl⟩))
      go_ret
      exact ⟨rfl, (M8.out.below ((Below.refl _ _).alloc (Nat.le_refl _) _)).bel⟩
end Go.Proofs.Ytkcomkllnhdohaa
