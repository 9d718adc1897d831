/-
  Contracts of package index: a nil one.
-/
import Derived.Test.YtkcomkllnhdohaaRangeI
namespace Go.Proofs.Ytkcomkllnhdohaa
open Go.RowKit
set_option maxRecDepth 20000
set_option linter.unusedSimpArgs false
set_option linter.unusedVariables false

theorem first_nil {w : World} {K : Nat} {p : Value} : Calls Try.prog 25 #[.pointer none, .func (.func K) #[] #[p]] w fun e w' => e = .returned (.int .i64 0) ∧ Below w.heap.size w w' := by
  have hb2 : Below w.heap.size w ((w.alloc (.cells #[.pointer none] 46)).alloc (.cells #[.func (.func K) #[] #[p]] 62)) := ((Below.refl _ w).alloc (Nat.le_refl _) _).alloc (by simp) _
  have hs := search_any (K := 34) (w := ((w.alloc (.cells #[.pointer none] 46)).alloc (.cells #[.func (.func K) #[] #[p]] 62))) (u1 := .pointer (some ⟨w.heap.size + 1, 0, none⟩)) (u2 := .pointer (some ⟨w.heap.size, 0, none⟩)) (p := fun j => true) (n := 0) (by omega) (fun args W => enters_of Try.func34 (by kernel_rfl) rfl args W)
    (fun W hW j hj => absurd hj (Nat.not_lt_zero _)) (fun a b hab hbn hpa => rfl)
  have HS := hide hs
  have HB2 := hide hb2
  clear hs hb2
  go_enter Try.func25, Try.ntmps25
  go_wp2_with (first
    | (go_at_call 16; refine (len_nil _).mono ?_; rintro e w2 ⟨rfl, rfl⟩)
    | (go_at_call 33; refine HS.out.mono ?_; rintro e w2 ⟨⟨m, rfl, hm, h1, h2⟩, hb⟩; have HM := hide hm; have HB := hide hb; clear h1 h2 hm hb))
  go_ret
  have e : m = 0 := by have := HM.out; omega
  exact ⟨by rw [e]; rfl, HB2.out.trans (HB.out.mono (by simp; omega))⟩
set_option maxHeartbeats 4000000 in
theorem find_nil (w : World) (yt : Int) (yk : ByteArray) : Calls Try.prog 20 #[.pointer none, .int .i64 yt, .string yk] w fun e w' => e = .returned (.tuple #[.int .i64 0, .bool false]) ∧ Below w.heap.size w w' := by
  have hb1 : Below w.heap.size w (w.alloc (.cells #[.int .i64 yt, .string yk, .string ⟨#[]⟩] 30)) := (Below.refl _ w).alloc (Nat.le_refl _) _
  have HB1 := hide hb1
  clear hb1
  go_enter Try.func20, Try.ntmps20
  go_wp2_with (go_at_call 25; refine first_nil.mono ?_; rintro e w2 ⟨rfl, hb⟩; have HBB := hide (HB1.out.trans (hb.mono HB1.out.size)); clear hb)
  clear HB1
  generalize w2 = W at *
  refine region_grows [Say.is (.int .i64 0), Say.is (.int .i64 0), Say.is (.pointer none), Say.is (.int .i64 0), Say.is (.bool false), Say.is (.bool false), Say.is (undef), Say.is (undef), Say.is (undef), Say.is (undef), Say.is (undef), Say.is (undef), Say.is (undef), Say.is (undef), Say.is (undef), Say.is (undef), Say.is (undef), Say.is (.bool false), Say.is (.int .i64 0), Say.is (.bool false)] (by kernel_rfl) (by kernel_rfl) (by kernel_rfl) (by kernel_rfl) ?_ ?_
  · intro i o ho a w2 hb hsz old dep
    match i, ho with
    | 0, ho =>
      obtain rfl := Option.some.inj ho
      have o9 : a.tmps.getD 9 undef = _ := old 9 (by kernel_rfl)
      rw [if_pos (wanted_none rfl)]
      refine grow_same (v := .int .i64 0) ?_ rfl
      clear old dep ho hsz hb
      go_simp
    | 1, ho =>
      obtain rfl := Option.some.inj ho
      have o9 : a.tmps.getD 9 undef = _ := old 9 (by kernel_rfl)
      rw [if_pos (wanted_none rfl)]
      refine grow_same (v := .int .i64 0) ?_ rfl
      clear old dep ho hsz hb
      go_simp
    | 2, ho =>
      obtain rfl := Option.some.inj ho
      have o0 : a.tmps.getD 0 undef = _ := old 0 (by kernel_rfl)
      rw [if_pos (wanted_none rfl)]
      refine grow_same (v := .pointer none) ?_ rfl
      clear old dep ho hsz hb
      go_simp
    | 3, ho =>
      obtain rfl := Option.some.inj ho
      have d2 : a.tmps.getD 18 undef = .pointer none := dep 2 _ _ (by kernel_rfl) rfl rfl
      have e2 : a.tmps[18]?.getD undef = _ := (Array.getD_eq_getD_getElem? ..).symm.trans d2
      rw [if_pos (wanted_none rfl)]
      refine grow_enters (f := 16) (args := #[.pointer none]) ?_ ((len_nil w2).mono fun e w3 h => ⟨_, h.1, rfl, h.2 ▸ Below.refl _ _⟩)
      clear old dep ho hsz hb
      go_simp
    | 4, ho =>
      obtain rfl := Option.some.inj ho
      have d1 : a.tmps.getD 17 undef = .int .i64 0 := dep 1 _ _ (by kernel_rfl) rfl rfl
      have e1 : a.tmps[17]?.getD undef = _ := (Array.getD_eq_getD_getElem? ..).symm.trans d1
      have d3 : a.tmps.getD 19 undef = .int .i64 0 := dep 3 _ _ (by kernel_rfl) rfl rfl
      have e3 : a.tmps[19]?.getD undef = _ := (Array.getD_eq_getD_getElem? ..).symm.trans d3
      rw [if_pos (wanted_none rfl)]
      refine grow_same (v := .bool false) ?_ rfl
      clear old dep ho hsz hb
      go_simp
    | 5, ho =>
      obtain rfl := Option.some.inj ho
      have d4 : a.tmps.getD 20 undef = .bool false := dep 4 _ _ (by kernel_rfl) rfl rfl
      have e4 : a.tmps[20]?.getD undef = _ := (Array.getD_eq_getD_getElem? ..).symm.trans d4
      rw [if_pos (wanted_none rfl)]
      refine grow_same (v := .bool false) ?_ rfl
      clear old dep ho hsz hb
      go_simp
    | 6, ho =>
      obtain rfl := Option.some.inj ho
      have d5 : a.tmps.getD 21 undef = .bool false := dep 5 _ _ (by kernel_rfl) rfl rfl
      have e5 : a.tmps[21]?.getD undef = _ := (Array.getD_eq_getD_getElem? ..).symm.trans d5
      rw [if_neg (wanted_not rfl rfl rfl (by rw [hsz]; exact of_decide_eq_true rfl) d5 rfl)]
      exact rfl
    | 7, ho =>
      obtain rfl := Option.some.inj ho
      have d5 : a.tmps.getD 21 undef = .bool false := dep 5 _ _ (by kernel_rfl) rfl rfl
      have e5 : a.tmps[21]?.getD undef = _ := (Array.getD_eq_getD_getElem? ..).symm.trans d5
      rw [if_neg (wanted_not rfl rfl rfl (by rw [hsz]; exact of_decide_eq_true rfl) d5 rfl)]
      exact rfl
    | 8, ho =>
      obtain rfl := Option.some.inj ho
      have d5 : a.tmps.getD 21 undef = .bool false := dep 5 _ _ (by kernel_rfl) rfl rfl
      have e5 : a.tmps[21]?.getD undef = _ := (Array.getD_eq_getD_getElem? ..).symm.trans d5
      rw [if_neg (wanted_not rfl rfl rfl (by rw [hsz]; exact of_decide_eq_true rfl) d5 rfl)]
      exact rfl
    | 9, ho =>
      obtain rfl := Option.some.inj ho
      have d5 : a.tmps.getD 21 undef = .bool false := dep 5 _ _ (by kernel_rfl) rfl rfl
      have e5 : a.tmps[21]?.getD undef = _ := (Array.getD_eq_getD_getElem? ..).symm.trans d5
      rw [if_neg (wanted_not rfl rfl rfl (by rw [hsz]; exact of_decide_eq_true rfl) d5 rfl)]
      exact rfl
    | 10, ho =>
      obtain rfl := Option.some.inj ho
      have d5 : a.tmps.getD 21 undef = .bool false := dep 5 _ _ (by kernel_rfl) rfl rfl
      have e5 : a.tmps[21]?.getD undef = _ := (Array.getD_eq_getD_getElem? ..).symm.trans d5
      rw [if_neg (wanted_not rfl rfl rfl (by rw [hsz]; exact of_decide_eq_true rfl) d5 rfl)]
      exact rfl
    | 11, ho =>
      obtain rfl := Option.some.inj ho
      have d5 : a.tmps.getD 21 undef = .bool false := dep 5 _ _ (by kernel_rfl) rfl rfl
      have e5 : a.tmps[21]?.getD undef = _ := (Array.getD_eq_getD_getElem? ..).symm.trans d5
      rw [if_neg (wanted_not rfl rfl rfl (by rw [hsz]; exact of_decide_eq_true rfl) d5 rfl)]
      exact rfl
    | 12, ho =>
      obtain rfl := Option.some.inj ho
      have d5 : a.tmps.getD 21 undef = .bool false := dep 5 _ _ (by kernel_rfl) rfl rfl
      have e5 : a.tmps[21]?.getD undef = _ := (Array.getD_eq_getD_getElem? ..).symm.trans d5
      rw [if_neg (wanted_not rfl rfl rfl (by rw [hsz]; exact of_decide_eq_true rfl) d5 rfl)]
      exact rfl
    | 13, ho =>
      obtain rfl := Option.some.inj ho
      have d5 : a.tmps.getD 21 undef = .bool false := dep 5 _ _ (by kernel_rfl) rfl rfl
      have e5 : a.tmps[21]?.getD undef = _ := (Array.getD_eq_getD_getElem? ..).symm.trans d5
      rw [if_neg (wanted_not rfl rfl rfl (by rw [hsz]; exact of_decide_eq_true rfl) d5 rfl)]
      exact rfl
    | 14, ho =>
      obtain rfl := Option.some.inj ho
      have d5 : a.tmps.getD 21 undef = .bool false := dep 5 _ _ (by kernel_rfl) rfl rfl
      have e5 : a.tmps[21]?.getD undef = _ := (Array.getD_eq_getD_getElem? ..).symm.trans d5
      rw [if_neg (wanted_not rfl rfl rfl (by rw [hsz]; exact of_decide_eq_true rfl) d5 rfl)]
      exact rfl
    | 15, ho =>
      obtain rfl := Option.some.inj ho
      have d5 : a.tmps.getD 21 undef = .bool false := dep 5 _ _ (by kernel_rfl) rfl rfl
      have e5 : a.tmps[21]?.getD undef = _ := (Array.getD_eq_getD_getElem? ..).symm.trans d5
      rw [if_neg (wanted_not rfl rfl rfl (by rw [hsz]; exact of_decide_eq_true rfl) d5 rfl)]
      exact rfl
    | 16, ho =>
      obtain rfl := Option.some.inj ho
      have d5 : a.tmps.getD 21 undef = .bool false := dep 5 _ _ (by kernel_rfl) rfl rfl
      have e5 : a.tmps[21]?.getD undef = _ := (Array.getD_eq_getD_getElem? ..).symm.trans d5
      rw [if_neg (wanted_not rfl rfl rfl (by rw [hsz]; exact of_decide_eq_true rfl) d5 rfl)]
      exact rfl
    | 17, ho =>
      obtain rfl := Option.some.inj ho
      have d5 : a.tmps.getD 21 undef = .bool false := dep 5 _ _ (by kernel_rfl) rfl rfl
      have e5 : a.tmps[21]?.getD undef = _ := (Array.getD_eq_getD_getElem? ..).symm.trans d5
      have d16 : a.tmps.getD 32 undef = undef := dep 16 _ _ (by kernel_rfl) rfl rfl
      have e16 : a.tmps[32]?.getD undef = _ := (Array.getD_eq_getD_getElem? ..).symm.trans d16
      rw [if_pos (wanted_none rfl)]
      refine grow_same (v := .bool false) ?_ rfl
      clear old dep ho hsz hb
      go_simp
    | 18, ho =>
      obtain rfl := Option.some.inj ho
      have d0 : a.tmps.getD 16 undef = .int .i64 0 := dep 0 _ _ (by kernel_rfl) rfl rfl
      have e0 : a.tmps[16]?.getD undef = _ := (Array.getD_eq_getD_getElem? ..).symm.trans d0
      rw [if_pos (wanted_none rfl)]
      refine grow_same (v := .int .i64 0) ?_ rfl
      clear old dep ho hsz hb
      go_simp
    | 19, ho =>
      obtain rfl := Option.some.inj ho
      have d17 : a.tmps.getD 33 undef = .bool false := dep 17 _ _ (by kernel_rfl) rfl rfl
      have e17 : a.tmps[33]?.getD undef = _ := (Array.getD_eq_getD_getElem? ..).symm.trans d17
      rw [if_pos (wanted_none rfl)]
      refine grow_same (v := .bool false) ?_ rfl
      clear old dep ho hsz hb
      go_simp
    | i + 20, ho => exact absurd ho (by simp)
  · intro a w2 hb hsz hdf fin keep
    obtain ⟨tm, df⟩ := a
    have hx := frame_of [16, 17, 18, 19, 20, 21, 22, 23, 24, 25, 26, 27, 28, 29, 30, 31, 32, 33, 6, 7] (by kernel_rfl) hsz keep
    dsimp only at hdf hx
    simp only [List.foldl_cons, List.foldl_nil] at hx
    subst hdf
    clear hsz keep
    have kn : tm.getD 16 undef = .int .i64 0 := fin 0 _ _ rfl rfl
    rw [kn] at hx
    clear kn
    have kn : tm.getD 17 undef = .int .i64 0 := fin 1 _ _ rfl rfl
    rw [kn] at hx
    clear kn
    have kn : tm.getD 18 undef = .pointer none := fin 2 _ _ rfl rfl
    rw [kn] at hx
    clear kn
    have kn : tm.getD 19 undef = .int .i64 0 := fin 3 _ _ rfl rfl
    rw [kn] at hx
    clear kn
    have kn : tm.getD 20 undef = .bool false := fin 4 _ _ rfl rfl
    rw [kn] at hx
    clear kn
    have kn : tm.getD 21 undef = .bool false := fin 5 _ _ rfl rfl
    rw [kn] at hx
    clear kn
    have kn : tm.getD 22 undef = undef := fin 6 _ _ rfl rfl
    rw [kn] at hx
    clear kn
    have kn : tm.getD 23 undef = undef := fin 7 _ _ rfl rfl
    rw [kn] at hx
    clear kn
    have kn : tm.getD 24 undef = undef := fin 8 _ _ rfl rfl
    rw [kn] at hx
    clear kn
    have kn : tm.getD 25 undef = undef := fin 9 _ _ rfl rfl
    rw [kn] at hx
    clear kn
    have kn : tm.getD 26 undef = undef := fin 10 _ _ rfl rfl
    rw [kn] at hx
    clear kn
    have kn : tm.getD 27 undef = undef := fin 11 _ _ rfl rfl
    rw [kn] at hx
    clear kn
    have kn : tm.getD 28 undef = undef := fin 12 _ _ rfl rfl
    rw [kn] at hx
    clear kn
    have kn : tm.getD 29 undef = undef := fin 13 _ _ rfl rfl
    rw [kn] at hx
    clear kn
    have kn : tm.getD 30 undef = undef := fin 14 _ _ rfl rfl
    rw [kn] at hx
    clear kn
    have kn : tm.getD 31 undef = undef := fin 15 _ _ rfl rfl
    rw [kn] at hx
    clear kn
    have kn : tm.getD 32 undef = undef := fin 16 _ _ rfl rfl
    rw [kn] at hx
    clear kn
    have kn : tm.getD 33 undef = .bool false := fin 17 _ _ rfl rfl
    rw [kn] at hx
    clear kn
    have kn : tm.getD 6 undef = .int .i64 0 := fin 18 _ _ rfl rfl
    rw [kn] at hx
    clear kn
    have kn : tm.getD 7 undef = .bool false := fin 19 _ _ rfl rfl
    rw [kn] at hx
    clear kn
    clear fin
    simp only [List.setIfInBounds_toArray, List.set_cons_succ, List.set_cons_zero] at hx
    subst hx
    go_wp2
    go_ret2
    exact ⟨rfl, HBB.out.trans (hb.mono HBB.out.size)⟩
theorem Find_nil (w : World) (yt : Int) (yk : ByteArray) : Calls Try.prog 15 #[.pointer none, .int .i64 yt, .string yk] w fun e w' => e = .returned (.tuple #[.agg #[.int .i64 0, .string ⟨#[]⟩, .string ⟨#[]⟩, .int .i64 0, .int .i64 0], .bool false]) ∧ Below w.heap.size w w' := by
  have hb1 : Below w.heap.size w (w.alloc (.cells #[.int .i64 0, .string ⟨#[]⟩, .string ⟨#[]⟩, .int .i64 0, .int .i64 0] 32)) := (Below.refl _ w).alloc (Nat.le_refl _) _
  have B1 : Blk (w.alloc (.cells #[.int .i64 0, .string ⟨#[]⟩, .string ⟨#[]⟩, .int .i64 0, .int .i64 0] 32)) w.heap.size 32 (default : It).vc := heap_new w _
  have HB1 := hide hb1
  have HS := hide B1
  clear hb1 B1
  go_enter Try.func15, Try.ntmps15
  go_wp2_with (go_at_call 20; refine (find_nil _ _ _).mono ?_; rintro e w2 ⟨rfl, hb⟩; have B2 := HS.out.below hb; obtain ⟨c0, c1, c2, c3, c4⟩ := item_cells B2; obtain ⟨f0, f1, f2, f3, f4⟩ := item_frozen B2; dsimp only [default] at c0 c1 c2 c3 c4; have HBB := hide (HB1.out.trans (hb.mono HB1.out.size)); clear hb B2)
  refine bodyPost_ret (v := .tuple #[.agg #[.int .i64 0, .string ⟨#[]⟩, .string ⟨#[]⟩, .int .i64 0, .int .i64 0], .bool false]) (by simp [results, Try.results15, go_sem, c0, c1, c2, c3, c4, f0, f1, f2, f3, f4]) rfl ⟨rfl, ?_⟩
  exact ((((HBB.out.setCell (Nat.le_refl _) _).setCell (Nat.le_refl _) _).setCell (Nat.le_refl _) _).setCell (Nat.le_refl _) _).setCell (Nat.le_refl _) _
theorem Remove_nil (w : World) (yt : Int) (yk : ByteArray) : Calls Try.prog 14 #[.pointer none, .int .i64 yt, .string yk] w fun e w' => e = .returned (.tuple #[]) ∧ Below w.heap.size w w' := by
  go_enter Try.func14, Try.ntmps14
  go_wp2_with (go_at_call 20; refine (find_nil _ _ _).mono ?_; rintro e w2 ⟨rfl, hb⟩; have HB := hide hb; clear hb)
  go_end0
  exact ⟨rfl, HB.out⟩
/-- What Scan of a nil index hands out. -/
theorem Scan1_nil {w : World} {xb lb hb0 : Nat} (n l : Nat) (hn : 2 ≤ n) (hX : Blk w xb 46 #[.pointer none])
    {J : Nat → (Nat → Prop) → World → Prop} {Jx : Nat → World → Prop} (hR : Rounds (n - 1 - 1) l w [] J Jx) (h0 : Begun J w.heap.size w) :
    CallsIn Fence.wide n Try.prog 24 #[.func (.yield l) #[] #[], .pointer (some ⟨xb, 0, none⟩), .pointer (some ⟨lb, 0, none⟩), .pointer (some ⟨hb0, 0, none⟩)] w fun x w' => (∃ v, x = .returned v) ∧ ((∃ F, J ([] : List It).length F w') ∨ ∃ k, Jx k w') := by
  refine callsIn_of_wp Try.func24 rfl trivial ?_ rfl
  simp only [Try.ntmps24, List.size_toArray, List.length_cons, List.length_nil, Nat.reduceAdd, Nat.reduceSub, Array.replicate_succ, Array.replicate_zero, List.push_toArray, List.append_toArray, List.nil_append, List.cons_append]
  have hW : ∀ W, Below w.heap.size w W → CallsIn Fence.wide (n - 1) Try.prog 23 #[.pointer none, .int .i64 0, .int .i64 0, .func (.yield l) #[] #[]] W fun x w' => (∃ v, x = .returned v) ∧ ((∃ F, J ([] : List It).length F w') ∨ ∃ k, Jx k w') := fun W hW =>
    (walk_none (n - 1) l (by omega) (Int.le_refl 0)).mono (by rintro x w' ⟨rfl, rfl⟩; obtain ⟨F, h1, h2, h3⟩ := h0; exact ⟨⟨_, rfl⟩, .inl ⟨F, hR.on _ _ _ _ h1 hW⟩⟩)
  have hn1 : 1 ≤ n := by omega
  have x0 := hX.cell 0 _ rfl
  have HX := hide hX
  have HW := hide hW
  clear hW hR h0 hX
  gi_wp2_with (first
    | (refine ⟨trivial, ?_⟩; gi_at_call 25; refine (callsIn_wide.2 first_nil).mono ?_; have TWO := HW; clear HW; rintro x w1 ⟨rfl, hb1⟩; have x1 := (HX.out.below hb1).cell 0 _ rfl; have HX1 := hide (HX.out.below hb1); have HB1 := hide hb1; clear hb1)
    | (refine ⟨trivial, ?_⟩; gi_at_call 25; refine (callsIn_wide.2 first_nil).mono ?_; rintro x w2 ⟨rfl, hb2⟩; have x2 := (HX1.out.below hb2).cell 0 _ rfl; have hw := TWO.out _ (HB1.out.trans (hb2.mono HB1.out.size)); have HW2 := hide hw; clear hw hb2)
    | (refine ⟨trivial, ?_⟩; gi_at_call 23; refine HW2.out.mono ?_; rintro x w3 ⟨⟨u, rfl⟩, hj⟩; have HJ := hide hj; clear hj))
  go_end0
  exact ⟨⟨_, rfl⟩, HJ.out⟩
end Go.Proofs.Ytkcomkllnhdohaa
