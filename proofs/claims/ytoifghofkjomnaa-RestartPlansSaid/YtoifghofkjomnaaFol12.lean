/-
  Contract of follow (written by r12/mkfol12.py).
-/
import Derived.Test.YtoifghofkjomnaaPlan12
import Derived.Deep.CutBlock
namespace Go.Proofs.Ytoifghofkjomnaa
open Go.RowKit
set_option maxRecDepth 20000
set_option linter.unusedSimpArgs false
set_option linter.unusedVariables false

set_option maxHeartbeats 8000000 in
theorem follow_none {A0 w : World} {F0 : Nat → Prop} {R : Res} {pb fr t l : Nat} {vs : Nat → Value} {os : Nat → Bool} {ls : Nat → List Ch} {x : Ei} (h : Ow A0 F0 w (PL R pb fr vs vs os ls)) (ht : x.r.t = t) (h4 : t < 4) (hll : (ls t).length = l) (hl : l ≤ 100000) (hk : x.r.k ≠ 2 ∧ x.r.k ≠ 3 ∧ x.r.k ≠ 4 ∧ x.r.k ≠ 5 ∧ x.r.k ≠ 6) :
    Calls Try.prog 17 #[.pointer (some ⟨pb, 0, none⟩), .agg x.vc] w fun e w' => e = .returned (.tuple #[]) ∧ Ow A0 F0 w' (PL R pb fr vs vs os ls) := by
  have g2 : ((x.r.k : Int) == 2) = false := by rw [beq_eq_false_iff_ne]; omega
  have g3 : ((x.r.k : Int) == 3) = false := by rw [beq_eq_false_iff_ne]; omega
  have g4 : ((x.r.k : Int) == 4) = false := by rw [beq_eq_false_iff_ne]; omega
  have g5 : ((x.r.k : Int) == 5) = false := by rw [beq_eq_false_iff_ne]; omega
  have g6 : ((x.r.k : Int) == 6) = false := by rw [beq_eq_false_iff_ne]; omega
  obtain ⟨A, c, e⟩ := (h.rowsAt (i := 2) rfl h4).form
  rw [hll] at e
  unfold Ei.vc
  rw [ht]
  have SB := h.below ((Below.refl _ w).alloc (Nat.le_refl _) (.cells #[.int .i64 (x.r.k : Int), .int .i64 (t : Int), .int .i64 (x.r.p : Int), .int .i64 (x.r.s : Int), .string x.r.b, .string x.r.a, .string x.r.i, .slice x.A x.r.ds.length x.c, .int .u64 (x.pl : Int)] 40))
  have hpb : pb < w.heap.size := (h.blk (i := 1) rfl).lt
  have HXB : Blk (w.alloc (.cells #[.int .i64 (x.r.k : Int), .int .i64 (t : Int), .int .i64 (x.r.p : Int), .int .i64 (x.r.s : Int), .string x.r.b, .string x.r.a, .string x.r.i, .slice x.A x.r.ds.length x.c, .int .u64 (x.pl : Int)] 40)) w.heap.size 40 #[.int .i64 (x.r.k : Int), .int .i64 (t : Int), .int .i64 (x.r.p : Int), .int .i64 (x.r.s : Int), .string x.r.b, .string x.r.a, .string x.r.i, .slice x.A x.r.ds.length x.c, .int .u64 (x.pl : Int)] := heap_new w _
  obtain ⟨c1, c2, f1, f2⟩ := PL.cells SB h4
  rw [e] at c1
  have q4 : (t : Int) < 4 := by omega
  have q0 : (0 : Int) ≤ (t : Int) := by omega
  have ql : (l : Int) ≤ 100000 := by omega
  have H4 := hide h4
  have HS := hide SB
  clear SB h e h4 hk hll ht hpb HXB hl
  go_enter Try.func17, Try.ntmps17
  go_wp2
  go_end0
  exact ⟨rfl, HS.out⟩
set_option maxHeartbeats 8000000 in
theorem follow_add2 {A0 w : World} {F0 : Nat → Prop} {R : Res} {pb fr t l : Nat} {vs : Nat → Value} {os : Nat → Bool} {ls : Nat → List Ch} {x : Ei} (h : Ow A0 F0 w (PL R pb fr vs vs os ls)) (ht : x.r.t = t) (h4 : t < 4) (hll : (ls t).length = l) (hl : l ≤ 100000) (hk : x.r.k = 2) :
    Calls Try.prog 17 #[.pointer (some ⟨pb, 0, none⟩), .agg x.vc] w fun e w' => e = .returned (.tuple #[]) ∧ ∃ A9 c9, Ow A0 F0 w' (PL R pb fr (setN vs t (.slice A9 (l + 1) c9)) (setN vs t (.slice A9 (l + 1) c9)) (setN os t true) (setN ls t (ls t ++ [chOf x.r]))) := by
  have g2 : ((x.r.k : Int) == 2) = true := by rw [hk]; rfl
  obtain ⟨A, c, e⟩ := (h.rowsAt (i := 2) rfl h4).form
  rw [hll] at e
  unfold Ei.vc
  rw [ht]
  have SB := h.below ((Below.refl _ w).alloc (Nat.le_refl _) (.cells #[.int .i64 (x.r.k : Int), .int .i64 (t : Int), .int .i64 (x.r.p : Int), .int .i64 (x.r.s : Int), .string x.r.b, .string x.r.a, .string x.r.i, .slice x.A x.r.ds.length x.c, .int .u64 (x.pl : Int)] 40))
  have hpb : pb < w.heap.size := (h.blk (i := 1) rfl).lt
  have HXB : Blk (w.alloc (.cells #[.int .i64 (x.r.k : Int), .int .i64 (t : Int), .int .i64 (x.r.p : Int), .int .i64 (x.r.s : Int), .string x.r.b, .string x.r.a, .string x.r.i, .slice x.A x.r.ds.length x.c, .int .u64 (x.pl : Int)] 40)) w.heap.size 40 #[.int .i64 (x.r.k : Int), .int .i64 (t : Int), .int .i64 (x.r.p : Int), .int .i64 (x.r.s : Int), .string x.r.b, .string x.r.a, .string x.r.i, .slice x.A x.r.ds.length x.c, .int .u64 (x.pl : Int)] := heap_new w _
  obtain ⟨c1, c2, f1, f2⟩ := PL.cells SB h4
  rw [e] at c1
  have q4 : (t : Int) < 4 := by omega
  have q0 : (0 : Int) ≤ (t : Int) := by omega
  have ql : (l : Int) ≤ 100000 := by omega
  have H4 := hide h4
  have SP := PL.storeOp SB h4 true
  have HX : Hid (Blk ((w.alloc (.cells #[.int .i64 (x.r.k : Int), .int .i64 (t : Int), .int .i64 (x.r.p : Int), .int .i64 (x.r.s : Int), .string x.r.b, .string x.r.a, .string x.r.i, .slice x.A x.r.ds.length x.c, .int .u64 (x.pl : Int)] 40)).setCell ⟨pb, 5 + t, none⟩ (.bool true)) w.heap.size 40 #[.int .i64 (x.r.k : Int), .int .i64 (t : Int), .int .i64 (x.r.p : Int), .int .i64 (x.r.s : Int), .string x.r.b, .string x.r.a, .string x.r.i, .slice x.A x.r.ds.length x.c, .int .u64 (x.pl : Int)]) := hide (HXB.far (p := ⟨pb, 5 + t, none⟩) (by show w.heap.size ≠ pb; omega) (.bool true))
  have SD : Ow A0 F0 ((w.alloc (.cells #[.int .i64 (x.r.k : Int), .int .i64 (t : Int), .int .i64 (x.r.p : Int), .int .i64 (x.r.s : Int), .string x.r.b, .string x.r.a, .string x.r.i, .slice x.A x.r.ds.length x.c, .int .u64 (x.pl : Int)] 40)).setCell ⟨pb, 5 + t, none⟩ (.bool true)).drew (PL R pb fr vs vs (setN os t true) ls) := SP.below (Below.refl _ _).drew
  obtain ⟨A9, c9, w9, hrun, S9⟩ := SD.appRows (i := 2) (x := chOf x.r) (cs := #[.int .i64 (x.r.p : Int), .int .i64 (x.r.s : Int), .string x.r.b]) rfl h4 e rfl (by omega) 28
  rw [hll] at hrun S9
  have HRUN : Hid ((Builtin.append_ #[28, 28] 28 #[.slice A l c, .slice (some ⟨((w.alloc (.cells #[.int .i64 (x.r.k : Int), .int .i64 (t : Int), .int .i64 (x.r.p : Int), .int .i64 (x.r.s : Int), .string x.r.b, .string x.r.a, .string x.r.i, .slice x.A x.r.ds.length x.c, .int .u64 (x.pl : Int)] 40)).setCell ⟨pb, 5 + t, none⟩ (.bool true)).heap.size, 0, none⟩) 1 1]).run Try.prog (((w.alloc (.cells #[.int .i64 (x.r.k : Int), .int .i64 (t : Int), .int .i64 (x.r.p : Int), .int .i64 (x.r.s : Int), .string x.r.b, .string x.r.a, .string x.r.i, .slice x.A x.r.ds.length x.c, .int .u64 (x.pl : Int)] 40)).setCell ⟨pb, 5 + t, none⟩ (.bool true)).drew.alloc (.cells #[.int .i64 (x.r.p : Int), .int .i64 (x.r.s : Int), .string x.r.b] 42)) = .ok (.slice A9 (l + 1) c9) w9) := hide hrun
  have S9 : Ow A0 F0 w9 (PL R pb fr vs (setN vs t (.slice A9 (l + 1) c9)) (setN os t true) (setN ls t (ls t ++ [chOf x.r]))) := S9
  obtain ⟨k1, _, k3, _⟩ := PL.cells S9 h4
  have HCELL : Hid ((∃ u, w9.cell? ⟨pb, 1 + t, none⟩ = some u) ∧ w9.frozen? ⟨pb, 1 + t, none⟩ = false) := hide ⟨⟨_, k1⟩, k3⟩
  have HQ := hide (PL.storeLo S9 h4 (.slice A9 (l + 1) c9))
  obtain ⟨z, hz⟩ : ∃ z, max ((l : Int) - 1) 0 = z := ⟨_, rfl⟩
  obtain ⟨p1, p2, _⟩ := PL.cells SP h4
  rw [e] at p1
  clear SB h e h4 hk hll ht hpb HXB hl hrun S9 k1 k3 SD SP
  go_enter Try.func17, Try.ntmps17
  go_upto_region 11 with (fail)
  refine region_phases (valV [some (.pointer (some ⟨pb, 0, none⟩)), some (.int .i64 (t : Int)), some (.slice A l c), some (.pointer (some ⟨w.heap.size, 0, none⟩)), some (.pointer (some ⟨w.heap.size, 2, none⟩)), some (.int .i64 (x.r.p : Int)), some (.pointer (some ⟨w.heap.size, 0, none⟩)), some (.pointer (some ⟨w.heap.size, 3, none⟩)), some (.int .i64 (x.r.s : Int)), some (.pointer (some ⟨w.heap.size, 0, none⟩)), some (.pointer (some ⟨w.heap.size, 4, none⟩)), some (.string x.r.b), some (.agg #[.int .i64 (x.r.p : Int), .int .i64 (x.r.s : Int), .string x.r.b]), some (.slice (some ⟨((w.alloc (.cells #[.int .i64 (x.r.k : Int), .int .i64 (t : Int), .int .i64 (x.r.p : Int), .int .i64 (x.r.s : Int), .string x.r.b, .string x.r.a, .string x.r.i, .slice x.A x.r.ds.length x.c, .int .u64 (x.pl : Int)] 40)).setCell ⟨pb, 5 + t, none⟩ (.bool true)).heap.size, 0, none⟩) 1 1), some (.slice A9 (l + 1) c9), some (.pointer (some ⟨pb, 0, none⟩)), some (.pointer (some ⟨pb, 1, none⟩)), some (.pointer (some ⟨pb, 1 + t, none⟩)), none]) (phased [⟨18, 17, fun _ w2 => w2 = (w9.setCell ⟨pb, 1 + t, none⟩ (.slice A9 (l + 1) c9))⟩, ⟨14, 14, fun _ w2 => w2 = w9⟩, ⟨13, 13, fun _ w2 => w2 = (((w.alloc (.cells #[.int .i64 (x.r.k : Int), .int .i64 (t : Int), .int .i64 (x.r.p : Int), .int .i64 (x.r.s : Int), .string x.r.b, .string x.r.a, .string x.r.i, .slice x.A x.r.ds.length x.c, .int .u64 (x.pl : Int)] 40)).setCell ⟨pb, 5 + t, none⟩ (.bool true)).drew.alloc (.cells #[.int .i64 (x.r.p : Int), .int .i64 (x.r.s : Int), .string x.r.b] 42))⟩] (fun w2 => w2 = ((w.alloc (.cells #[.int .i64 (x.r.k : Int), .int .i64 (t : Int), .int .i64 (x.r.p : Int), .int .i64 (x.r.s : Int), .string x.r.b, .string x.r.a, .string x.r.i, .slice x.A x.r.ds.length x.c, .int .u64 (x.pl : Int)] 40)).setCell ⟨pb, 5 + t, none⟩ (.bool true)).drew)) (by kernel_rfl) (by kernel_rfl) (by kernel_rfl) (by kernel_rfl) (phased_ext (by kernel_rfl)) (rfl) ?_ ?_
  · intro i o ho L a w2 hph hsz hLi hnot hyes old dep
    match i, ho with
    | 0, ho =>
      obtain rfl := Option.some.inj ho
      rw [if_pos (wanted_none rfl)]
      have o0 := old 0 (by kernel_rfl)
      refine wp_yields (v := .pointer (some ⟨pb, 0, none⟩)) (w' := w2) ?_ (fun u hu => Option.some.inj (Option.some.inj hu)) (phased_quiet hLi (by rfl) hph)
      clear dep old ho hsz hph hnot hyes hLi
      go_simp
    | 1, ho =>
      obtain rfl := Option.some.inj ho
      rw [if_pos (wanted_none rfl)]
      have o4 := old 4 (by kernel_rfl)
      refine wp_yields (v := .int .i64 (t : Int)) (w' := w2) ?_ (fun u hu => Option.some.inj (Option.some.inj hu)) (phased_quiet hLi (by rfl) hph)
      clear dep old ho hsz hph hnot hyes hLi
      go_simp
    | 2, ho =>
      obtain rfl := Option.some.inj ho
      rw [if_pos (wanted_none rfl)]
      have o5 := old 5 (by kernel_rfl)
      refine wp_yields (v := .slice A l c) (w' := w2) ?_ (fun u hu => Option.some.inj (Option.some.inj hu)) (phased_quiet hLi (by rfl) hph)
      clear dep old ho hsz hph hnot hyes hLi
      go_simp
    | 3, ho =>
      obtain rfl := Option.some.inj ho
      rw [if_pos (wanted_none rfl)]
      have o3 := old 3 (by kernel_rfl)
      refine wp_yields (v := .pointer (some ⟨w.heap.size, 0, none⟩)) (w' := w2) ?_ (fun u hu => Option.some.inj (Option.some.inj hu)) (phased_quiet hLi (by rfl) hph)
      clear dep old ho hsz hph hnot hyes hLi
      go_simp
    | 4, ho =>
      obtain rfl := Option.some.inj ho
      rw [if_pos (wanted_none rfl)]
      have d3 : a.tmps.getD 39 undef = .pointer (some ⟨w.heap.size, 0, none⟩) := dep 3 _ _ (by kernel_rfl) rfl rfl _ rfl
      have e3 : a.tmps[39]?.getD undef = .pointer (some ⟨w.heap.size, 0, none⟩) := (Array.getD_eq_getD_getElem? ..).symm.trans d3
      refine wp_yields (v := .pointer (some ⟨w.heap.size, 2, none⟩)) (w' := w2) ?_ (fun u hu => Option.some.inj (Option.some.inj hu)) (phased_quiet hLi (by rfl) hph)
      clear dep old ho hsz hph hnot hyes hLi
      go_simp
    | 5, ho =>
      obtain rfl := Option.some.inj ho
      rw [if_pos (wanted_none rfl)]
      have d4 : a.tmps.getD 40 undef = .pointer (some ⟨w.heap.size, 2, none⟩) := dep 4 _ _ (by kernel_rfl) rfl rfl _ rfl
      have e4 : a.tmps[40]?.getD undef = .pointer (some ⟨w.heap.size, 2, none⟩) := (Array.getD_eq_getD_getElem? ..).symm.trans d4
      have hph2 := hph
      unfold phased at hph2
      rw [if_neg (by rw [hnot 18 (by kernel_rfl)]; decide)] at hph2
      unfold phased at hph2
      rw [if_neg (by rw [hnot 14 (by kernel_rfl)]; decide)] at hph2
      have hB : Below ((w.alloc (.cells #[.int .i64 (x.r.k : Int), .int .i64 (t : Int), .int .i64 (x.r.p : Int), .int .i64 (x.r.s : Int), .string x.r.b, .string x.r.a, .string x.r.i, .slice x.A x.r.ds.length x.c, .int .u64 (x.pl : Int)] 40)).setCell ⟨pb, 5 + t, none⟩ (.bool true)).heap.size ((w.alloc (.cells #[.int .i64 (x.r.k : Int), .int .i64 (t : Int), .int .i64 (x.r.p : Int), .int .i64 (x.r.s : Int), .string x.r.b, .string x.r.a, .string x.r.i, .slice x.A x.r.ds.length x.c, .int .u64 (x.pl : Int)] 40)).setCell ⟨pb, 5 + t, none⟩ (.bool true)) w2 := phased_all (R := fun w2 => Below ((w.alloc (.cells #[.int .i64 (x.r.k : Int), .int .i64 (t : Int), .int .i64 (x.r.p : Int), .int .i64 (x.r.s : Int), .string x.r.b, .string x.r.a, .string x.r.i, .slice x.A x.r.ds.length x.c, .int .u64 (x.pl : Int)] 40)).setCell ⟨pb, 5 + t, none⟩ (.bool true)).heap.size ((w.alloc (.cells #[.int .i64 (x.r.k : Int), .int .i64 (t : Int), .int .i64 (x.r.p : Int), .int .i64 (x.r.s : Int), .string x.r.b, .string x.r.a, .string x.r.i, .slice x.A x.r.ds.length x.c, .int .u64 (x.pl : Int)] 40)).setCell ⟨pb, 5 + t, none⟩ (.bool true)) w2) (fun p hp v w2 h => by simp only [List.mem_cons, List.not_mem_nil, or_false] at hp; rcases hp with rfl; rw [show w2 = _ from h]; exact (Below.refl _ _).drew.alloc (by simp) _) (fun w2 h => by rw [h]; exact (Below.refl _ _).drew) hph2
      clear hph2
      have hx := HX.out.below hB
      have c0 := hx.cell 2 _ rfl
      clear hx
      refine wp_yields (v := .int .i64 (x.r.p : Int)) (w' := w2) ?_ (fun u hu => Option.some.inj (Option.some.inj hu)) (phased_quiet hLi (by rfl) hph)
      clear dep old ho hsz hph hnot hyes hLi
      clear hB
      go_simp
    | 6, ho =>
      obtain rfl := Option.some.inj ho
      rw [if_pos (wanted_none rfl)]
      have o3 := old 3 (by kernel_rfl)
      refine wp_yields (v := .pointer (some ⟨w.heap.size, 0, none⟩)) (w' := w2) ?_ (fun u hu => Option.some.inj (Option.some.inj hu)) (phased_quiet hLi (by rfl) hph)
      clear dep old ho hsz hph hnot hyes hLi
      go_simp
    | 7, ho =>
      obtain rfl := Option.some.inj ho
      rw [if_pos (wanted_none rfl)]
      have d6 : a.tmps.getD 42 undef = .pointer (some ⟨w.heap.size, 0, none⟩) := dep 6 _ _ (by kernel_rfl) rfl rfl _ rfl
      have e6 : a.tmps[42]?.getD undef = .pointer (some ⟨w.heap.size, 0, none⟩) := (Array.getD_eq_getD_getElem? ..).symm.trans d6
      refine wp_yields (v := .pointer (some ⟨w.heap.size, 3, none⟩)) (w' := w2) ?_ (fun u hu => Option.some.inj (Option.some.inj hu)) (phased_quiet hLi (by rfl) hph)
      clear dep old ho hsz hph hnot hyes hLi
      go_simp
    | 8, ho =>
      obtain rfl := Option.some.inj ho
      rw [if_pos (wanted_none rfl)]
      have d7 : a.tmps.getD 43 undef = .pointer (some ⟨w.heap.size, 3, none⟩) := dep 7 _ _ (by kernel_rfl) rfl rfl _ rfl
      have e7 : a.tmps[43]?.getD undef = .pointer (some ⟨w.heap.size, 3, none⟩) := (Array.getD_eq_getD_getElem? ..).symm.trans d7
      have hph2 := hph
      unfold phased at hph2
      rw [if_neg (by rw [hnot 18 (by kernel_rfl)]; decide)] at hph2
      unfold phased at hph2
      rw [if_neg (by rw [hnot 14 (by kernel_rfl)]; decide)] at hph2
      have hB : Below ((w.alloc (.cells #[.int .i64 (x.r.k : Int), .int .i64 (t : Int), .int .i64 (x.r.p : Int), .int .i64 (x.r.s : Int), .string x.r.b, .string x.r.a, .string x.r.i, .slice x.A x.r.ds.length x.c, .int .u64 (x.pl : Int)] 40)).setCell ⟨pb, 5 + t, none⟩ (.bool true)).heap.size ((w.alloc (.cells #[.int .i64 (x.r.k : Int), .int .i64 (t : Int), .int .i64 (x.r.p : Int), .int .i64 (x.r.s : Int), .string x.r.b, .string x.r.a, .string x.r.i, .slice x.A x.r.ds.length x.c, .int .u64 (x.pl : Int)] 40)).setCell ⟨pb, 5 + t, none⟩ (.bool true)) w2 := phased_all (R := fun w2 => Below ((w.alloc (.cells #[.int .i64 (x.r.k : Int), .int .i64 (t : Int), .int .i64 (x.r.p : Int), .int .i64 (x.r.s : Int), .string x.r.b, .string x.r.a, .string x.r.i, .slice x.A x.r.ds.length x.c, .int .u64 (x.pl : Int)] 40)).setCell ⟨pb, 5 + t, none⟩ (.bool true)).heap.size ((w.alloc (.cells #[.int .i64 (x.r.k : Int), .int .i64 (t : Int), .int .i64 (x.r.p : Int), .int .i64 (x.r.s : Int), .string x.r.b, .string x.r.a, .string x.r.i, .slice x.A x.r.ds.length x.c, .int .u64 (x.pl : Int)] 40)).setCell ⟨pb, 5 + t, none⟩ (.bool true)) w2) (fun p hp v w2 h => by simp only [List.mem_cons, List.not_mem_nil, or_false] at hp; rcases hp with rfl; rw [show w2 = _ from h]; exact (Below.refl _ _).drew.alloc (by simp) _) (fun w2 h => by rw [h]; exact (Below.refl _ _).drew) hph2
      clear hph2
      have hx := HX.out.below hB
      have c0 := hx.cell 3 _ rfl
      clear hx
      refine wp_yields (v := .int .i64 (x.r.s : Int)) (w' := w2) ?_ (fun u hu => Option.some.inj (Option.some.inj hu)) (phased_quiet hLi (by rfl) hph)
      clear dep old ho hsz hph hnot hyes hLi
      clear hB
      go_simp
    | 9, ho =>
      obtain rfl := Option.some.inj ho
      rw [if_pos (wanted_none rfl)]
      have o3 := old 3 (by kernel_rfl)
      refine wp_yields (v := .pointer (some ⟨w.heap.size, 0, none⟩)) (w' := w2) ?_ (fun u hu => Option.some.inj (Option.some.inj hu)) (phased_quiet hLi (by rfl) hph)
      clear dep old ho hsz hph hnot hyes hLi
      go_simp
    | 10, ho =>
      obtain rfl := Option.some.inj ho
      rw [if_pos (wanted_none rfl)]
      have d9 : a.tmps.getD 45 undef = .pointer (some ⟨w.heap.size, 0, none⟩) := dep 9 _ _ (by kernel_rfl) rfl rfl _ rfl
      have e9 : a.tmps[45]?.getD undef = .pointer (some ⟨w.heap.size, 0, none⟩) := (Array.getD_eq_getD_getElem? ..).symm.trans d9
      refine wp_yields (v := .pointer (some ⟨w.heap.size, 4, none⟩)) (w' := w2) ?_ (fun u hu => Option.some.inj (Option.some.inj hu)) (phased_quiet hLi (by rfl) hph)
      clear dep old ho hsz hph hnot hyes hLi
      go_simp
    | 11, ho =>
      obtain rfl := Option.some.inj ho
      rw [if_pos (wanted_none rfl)]
      have d10 : a.tmps.getD 46 undef = .pointer (some ⟨w.heap.size, 4, none⟩) := dep 10 _ _ (by kernel_rfl) rfl rfl _ rfl
      have e10 : a.tmps[46]?.getD undef = .pointer (some ⟨w.heap.size, 4, none⟩) := (Array.getD_eq_getD_getElem? ..).symm.trans d10
      have hph2 := hph
      unfold phased at hph2
      rw [if_neg (by rw [hnot 18 (by kernel_rfl)]; decide)] at hph2
      unfold phased at hph2
      rw [if_neg (by rw [hnot 14 (by kernel_rfl)]; decide)] at hph2
      have hB : Below ((w.alloc (.cells #[.int .i64 (x.r.k : Int), .int .i64 (t : Int), .int .i64 (x.r.p : Int), .int .i64 (x.r.s : Int), .string x.r.b, .string x.r.a, .string x.r.i, .slice x.A x.r.ds.length x.c, .int .u64 (x.pl : Int)] 40)).setCell ⟨pb, 5 + t, none⟩ (.bool true)).heap.size ((w.alloc (.cells #[.int .i64 (x.r.k : Int), .int .i64 (t : Int), .int .i64 (x.r.p : Int), .int .i64 (x.r.s : Int), .string x.r.b, .string x.r.a, .string x.r.i, .slice x.A x.r.ds.length x.c, .int .u64 (x.pl : Int)] 40)).setCell ⟨pb, 5 + t, none⟩ (.bool true)) w2 := phased_all (R := fun w2 => Below ((w.alloc (.cells #[.int .i64 (x.r.k : Int), .int .i64 (t : Int), .int .i64 (x.r.p : Int), .int .i64 (x.r.s : Int), .string x.r.b, .string x.r.a, .string x.r.i, .slice x.A x.r.ds.length x.c, .int .u64 (x.pl : Int)] 40)).setCell ⟨pb, 5 + t, none⟩ (.bool true)).heap.size ((w.alloc (.cells #[.int .i64 (x.r.k : Int), .int .i64 (t : Int), .int .i64 (x.r.p : Int), .int .i64 (x.r.s : Int), .string x.r.b, .string x.r.a, .string x.r.i, .slice x.A x.r.ds.length x.c, .int .u64 (x.pl : Int)] 40)).setCell ⟨pb, 5 + t, none⟩ (.bool true)) w2) (fun p hp v w2 h => by simp only [List.mem_cons, List.not_mem_nil, or_false] at hp; rcases hp with rfl; rw [show w2 = _ from h]; exact (Below.refl _ _).drew.alloc (by simp) _) (fun w2 h => by rw [h]; exact (Below.refl _ _).drew) hph2
      clear hph2
      have hx := HX.out.below hB
      have c0 := hx.cell 4 _ rfl
      clear hx
      refine wp_yields (v := .string x.r.b) (w' := w2) ?_ (fun u hu => Option.some.inj (Option.some.inj hu)) (phased_quiet hLi (by rfl) hph)
      clear dep old ho hsz hph hnot hyes hLi
      clear hB
      go_simp
    | 12, ho =>
      obtain rfl := Option.some.inj ho
      rw [if_pos (wanted_none rfl)]
      have d5 : a.tmps.getD 41 undef = .int .i64 (x.r.p : Int) := dep 5 _ _ (by kernel_rfl) rfl rfl _ rfl
      have e5 : a.tmps[41]?.getD undef = .int .i64 (x.r.p : Int) := (Array.getD_eq_getD_getElem? ..).symm.trans d5
      have d8 : a.tmps.getD 44 undef = .int .i64 (x.r.s : Int) := dep 8 _ _ (by kernel_rfl) rfl rfl _ rfl
      have e8 : a.tmps[44]?.getD undef = .int .i64 (x.r.s : Int) := (Array.getD_eq_getD_getElem? ..).symm.trans d8
      have d11 : a.tmps.getD 47 undef = .string x.r.b := dep 11 _ _ (by kernel_rfl) rfl rfl _ rfl
      have e11 : a.tmps[47]?.getD undef = .string x.r.b := (Array.getD_eq_getD_getElem? ..).symm.trans d11
      refine wp_yields (v := .agg #[.int .i64 (x.r.p : Int), .int .i64 (x.r.s : Int), .string x.r.b]) (w' := w2) ?_ (fun u hu => Option.some.inj (Option.some.inj hu)) (phased_quiet hLi (by rfl) hph)
      clear dep old ho hsz hph hnot hyes hLi
      go_simp
    | 13, ho =>
      obtain rfl := Option.some.inj ho
      rw [if_pos (wanted_none rfl)]
      have d12 : a.tmps.getD 48 undef = .agg #[.int .i64 (x.r.p : Int), .int .i64 (x.r.s : Int), .string x.r.b] := dep 12 _ _ (by kernel_rfl) rfl rfl _ rfl
      have e12 : a.tmps[48]?.getD undef = .agg #[.int .i64 (x.r.p : Int), .int .i64 (x.r.s : Int), .string x.r.b] := (Array.getD_eq_getD_getElem? ..).symm.trans d12
      unfold phased at hph
      rw [if_neg (by rw [hnot 18 (by kernel_rfl)]; decide)] at hph
      unfold phased at hph
      rw [if_neg (by rw [hnot 14 (by kernel_rfl)]; decide)] at hph
      unfold phased at hph
      rw [if_neg (by rw [hLi]; decide)] at hph
      unfold phased at hph
      obtain rfl : w2 = ((w.alloc (.cells #[.int .i64 (x.r.k : Int), .int .i64 (t : Int), .int .i64 (x.r.p : Int), .int .i64 (x.r.s : Int), .string x.r.b, .string x.r.a, .string x.r.i, .slice x.A x.r.ds.length x.c, .int .u64 (x.pl : Int)] 40)).setCell ⟨pb, 5 + t, none⟩ (.bool true)).drew := hph
      refine wp_yields (v := .slice (some ⟨((w.alloc (.cells #[.int .i64 (x.r.k : Int), .int .i64 (t : Int), .int .i64 (x.r.p : Int), .int .i64 (x.r.s : Int), .string x.r.b, .string x.r.a, .string x.r.i, .slice x.A x.r.ds.length x.c, .int .u64 (x.pl : Int)] 40)).setCell ⟨pb, 5 + t, none⟩ (.bool true)).heap.size, 0, none⟩) 1 1) (w' := (((w.alloc (.cells #[.int .i64 (x.r.k : Int), .int .i64 (t : Int), .int .i64 (x.r.p : Int), .int .i64 (x.r.s : Int), .string x.r.b, .string x.r.a, .string x.r.i, .slice x.A x.r.ds.length x.c, .int .u64 (x.pl : Int)] 40)).setCell ⟨pb, 5 + t, none⟩ (.bool true)).drew.alloc (.cells #[.int .i64 (x.r.p : Int), .int .i64 (x.r.s : Int), .string x.r.b] 42))) ?_ (fun u hu => Option.some.inj (Option.some.inj hu)) ?_
      · clear dep old ho hsz hnot hyes hLi
        go_simp
      · unfold phased
        rw [if_neg (by simp [also, hnot 18 (by kernel_rfl)])]
        unfold phased
        rw [if_neg (by simp [also, hnot 14 (by kernel_rfl)])]
        unfold phased
        rw [if_pos (by simp [also])]
        exact ⟨by simp [also], rfl⟩
    | 14, ho =>
      obtain rfl := Option.some.inj ho
      rw [if_pos (wanted_none rfl)]
      have d2 : a.tmps.getD 38 undef = .slice A l c := dep 2 _ _ (by kernel_rfl) rfl rfl _ rfl
      have e2 : a.tmps[38]?.getD undef = .slice A l c := (Array.getD_eq_getD_getElem? ..).symm.trans d2
      have d13 : a.tmps.getD 49 undef = .slice (some ⟨((w.alloc (.cells #[.int .i64 (x.r.k : Int), .int .i64 (t : Int), .int .i64 (x.r.p : Int), .int .i64 (x.r.s : Int), .string x.r.b, .string x.r.a, .string x.r.i, .slice x.A x.r.ds.length x.c, .int .u64 (x.pl : Int)] 40)).setCell ⟨pb, 5 + t, none⟩ (.bool true)).heap.size, 0, none⟩) 1 1 := dep 13 _ _ (by kernel_rfl) rfl rfl _ rfl
      have e13 : a.tmps[49]?.getD undef = .slice (some ⟨((w.alloc (.cells #[.int .i64 (x.r.k : Int), .int .i64 (t : Int), .int .i64 (x.r.p : Int), .int .i64 (x.r.s : Int), .string x.r.b, .string x.r.a, .string x.r.i, .slice x.A x.r.ds.length x.c, .int .u64 (x.pl : Int)] 40)).setCell ⟨pb, 5 + t, none⟩ (.bool true)).heap.size, 0, none⟩) 1 1 := (Array.getD_eq_getD_getElem? ..).symm.trans d13
      unfold phased at hph
      rw [if_neg (by rw [hnot 18 (by kernel_rfl)]; decide)] at hph
      unfold phased at hph
      rw [if_neg (by rw [hLi]; decide)] at hph
      unfold phased at hph
      rw [if_pos (hyes 13 (by kernel_rfl))] at hph
      obtain rfl : w2 = (((w.alloc (.cells #[.int .i64 (x.r.k : Int), .int .i64 (t : Int), .int .i64 (x.r.p : Int), .int .i64 (x.r.s : Int), .string x.r.b, .string x.r.a, .string x.r.i, .slice x.A x.r.ds.length x.c, .int .u64 (x.pl : Int)] 40)).setCell ⟨pb, 5 + t, none⟩ (.bool true)).drew.alloc (.cells #[.int .i64 (x.r.p : Int), .int .i64 (x.r.s : Int), .string x.r.b] 42)) := hph.2
      have hr := HRUN.out
      refine wp_yields (v := .slice A9 (l + 1) c9) (w' := w9) (exec_append_run (.tmp 38) (.tmp 49) _ rfl d2 d13 hr) (fun u hu => Option.some.inj (Option.some.inj hu)) ?_
      unfold phased
      rw [if_neg (by simp [also, hnot 18 (by kernel_rfl)])]
      unfold phased
      rw [if_pos (by simp [also])]
      exact ⟨by simp [also], rfl⟩
    | 15, ho =>
      obtain rfl := Option.some.inj ho
      rw [if_pos (wanted_none rfl)]
      have d0 : a.tmps.getD 36 undef = .pointer (some ⟨pb, 0, none⟩) := dep 0 _ _ (by kernel_rfl) rfl rfl _ rfl
      have e0 : a.tmps[36]?.getD undef = .pointer (some ⟨pb, 0, none⟩) := (Array.getD_eq_getD_getElem? ..).symm.trans d0
      refine wp_yields (v := .pointer (some ⟨pb, 0, none⟩)) (w' := w2) ?_ (fun u hu => Option.some.inj (Option.some.inj hu)) (phased_quiet hLi (by rfl) hph)
      clear dep old ho hsz hph hnot hyes hLi
      go_simp
    | 16, ho =>
      obtain rfl := Option.some.inj ho
      rw [if_pos (wanted_none rfl)]
      have d15 : a.tmps.getD 51 undef = .pointer (some ⟨pb, 0, none⟩) := dep 15 _ _ (by kernel_rfl) rfl rfl _ rfl
      have e15 : a.tmps[51]?.getD undef = .pointer (some ⟨pb, 0, none⟩) := (Array.getD_eq_getD_getElem? ..).symm.trans d15
      refine wp_yields (v := .pointer (some ⟨pb, 1, none⟩)) (w' := w2) ?_ (fun u hu => Option.some.inj (Option.some.inj hu)) (phased_quiet hLi (by rfl) hph)
      clear dep old ho hsz hph hnot hyes hLi
      go_simp
    | 17, ho =>
      obtain rfl := Option.some.inj ho
      rw [if_pos (wanted_none rfl)]
      have d1 : a.tmps.getD 37 undef = .int .i64 (t : Int) := dep 1 _ _ (by kernel_rfl) rfl rfl _ rfl
      have e1 : a.tmps[37]?.getD undef = .int .i64 (t : Int) := (Array.getD_eq_getD_getElem? ..).symm.trans d1
      have d16 : a.tmps.getD 52 undef = .pointer (some ⟨pb, 1, none⟩) := dep 16 _ _ (by kernel_rfl) rfl rfl _ rfl
      have e16 : a.tmps[52]?.getD undef = .pointer (some ⟨pb, 1, none⟩) := (Array.getD_eq_getD_getElem? ..).symm.trans d16
      refine wp_yields (v := .pointer (some ⟨pb, 1 + t, none⟩)) (w' := w2) ?_ (fun u hu => Option.some.inj (Option.some.inj hu)) (phased_quiet hLi (by rfl) hph)
      clear dep old ho hsz hph hnot hyes hLi
      go_simp
    | 18, ho =>
      obtain rfl := Option.some.inj ho
      rw [if_pos (wanted_none rfl)]
      have d14 : a.tmps.getD 50 undef = .slice A9 (l + 1) c9 := dep 14 _ _ (by kernel_rfl) rfl rfl _ rfl
      have e14 : a.tmps[50]?.getD undef = .slice A9 (l + 1) c9 := (Array.getD_eq_getD_getElem? ..).symm.trans d14
      have d17 : a.tmps.getD 53 undef = .pointer (some ⟨pb, 1 + t, none⟩) := dep 17 _ _ (by kernel_rfl) rfl rfl _ rfl
      have e17 : a.tmps[53]?.getD undef = .pointer (some ⟨pb, 1 + t, none⟩) := (Array.getD_eq_getD_getElem? ..).symm.trans d17
      unfold phased at hph
      rw [if_neg (by rw [hLi]; decide)] at hph
      unfold phased at hph
      rw [if_pos (hyes 14 (by kernel_rfl))] at hph
      obtain rfl : w9 = w2 := hph.2.symm
      obtain ⟨⟨u0, hc0⟩, hf0⟩ := HCELL.out
      refine wp_skips (w' := (w9.setCell ⟨pb, 1 + t, none⟩ (.slice A9 (l + 1) c9))) ?_ (fun u hu => by cases Option.some.inj hu) ?_
      · clear dep old ho hsz hnot hyes hLi hph
        go_simp
      · unfold phased
        rw [if_pos (by simp [also])]
        exact ⟨by simp [also, hyes 17 (by kernel_rfl)], rfl⟩
    | i + 19, ho => exact absurd ho (by simp)
  · intro a w4 hph hsz hdf fin keep
    obtain ⟨tm, df⟩ := a
    have hx := frame_of [36, 37, 38, 39, 40, 41, 42, 43, 44, 45, 46, 47, 48, 49, 50, 51, 52, 53] (by kernel_rfl) hsz keep
    dsimp only at hdf hx
    simp only [List.foldl_cons, List.foldl_nil] at hx
    subst hdf
    clear hsz keep
    have kn : tm.getD 36 undef = .pointer (some ⟨pb, 0, none⟩) := fin 0 _ _ rfl rfl _ rfl
    rw [kn] at hx
    clear kn
    have kn : tm.getD 37 undef = .int .i64 (t : Int) := fin 1 _ _ rfl rfl _ rfl
    rw [kn] at hx
    clear kn
    have kn : tm.getD 38 undef = .slice A l c := fin 2 _ _ rfl rfl _ rfl
    rw [kn] at hx
    clear kn
    have kn : tm.getD 39 undef = .pointer (some ⟨w.heap.size, 0, none⟩) := fin 3 _ _ rfl rfl _ rfl
    rw [kn] at hx
    clear kn
    have kn : tm.getD 40 undef = .pointer (some ⟨w.heap.size, 2, none⟩) := fin 4 _ _ rfl rfl _ rfl
    rw [kn] at hx
    clear kn
    have kn : tm.getD 41 undef = .int .i64 (x.r.p : Int) := fin 5 _ _ rfl rfl _ rfl
    rw [kn] at hx
    clear kn
    have kn : tm.getD 42 undef = .pointer (some ⟨w.heap.size, 0, none⟩) := fin 6 _ _ rfl rfl _ rfl
    rw [kn] at hx
    clear kn
    have kn : tm.getD 43 undef = .pointer (some ⟨w.heap.size, 3, none⟩) := fin 7 _ _ rfl rfl _ rfl
    rw [kn] at hx
    clear kn
    have kn : tm.getD 44 undef = .int .i64 (x.r.s : Int) := fin 8 _ _ rfl rfl _ rfl
    rw [kn] at hx
    clear kn
    have kn : tm.getD 45 undef = .pointer (some ⟨w.heap.size, 0, none⟩) := fin 9 _ _ rfl rfl _ rfl
    rw [kn] at hx
    clear kn
    have kn : tm.getD 46 undef = .pointer (some ⟨w.heap.size, 4, none⟩) := fin 10 _ _ rfl rfl _ rfl
    rw [kn] at hx
    clear kn
    have kn : tm.getD 47 undef = .string x.r.b := fin 11 _ _ rfl rfl _ rfl
    rw [kn] at hx
    clear kn
    have kn : tm.getD 48 undef = .agg #[.int .i64 (x.r.p : Int), .int .i64 (x.r.s : Int), .string x.r.b] := fin 12 _ _ rfl rfl _ rfl
    rw [kn] at hx
    clear kn
    have kn : tm.getD 49 undef = .slice (some ⟨((w.alloc (.cells #[.int .i64 (x.r.k : Int), .int .i64 (t : Int), .int .i64 (x.r.p : Int), .int .i64 (x.r.s : Int), .string x.r.b, .string x.r.a, .string x.r.i, .slice x.A x.r.ds.length x.c, .int .u64 (x.pl : Int)] 40)).setCell ⟨pb, 5 + t, none⟩ (.bool true)).heap.size, 0, none⟩) 1 1 := fin 13 _ _ rfl rfl _ rfl
    rw [kn] at hx
    clear kn
    have kn : tm.getD 50 undef = .slice A9 (l + 1) c9 := fin 14 _ _ rfl rfl _ rfl
    rw [kn] at hx
    clear kn
    have kn : tm.getD 51 undef = .pointer (some ⟨pb, 0, none⟩) := fin 15 _ _ rfl rfl _ rfl
    rw [kn] at hx
    clear kn
    have kn : tm.getD 52 undef = .pointer (some ⟨pb, 1, none⟩) := fin 16 _ _ rfl rfl _ rfl
    rw [kn] at hx
    clear kn
    have kn : tm.getD 53 undef = .pointer (some ⟨pb, 1 + t, none⟩) := fin 17 _ _ rfl rfl _ rfl
    rw [kn] at hx
    clear kn
    clear fin
    simp only [List.setIfInBounds_toArray, List.set_cons_succ, List.set_cons_zero] at hx
    subst hx
    unfold phased at hph
    rw [if_pos rfl] at hph
    obtain ⟨_, hph⟩ := hph
    obtain rfl := hph
    go_wp2
    go_end0
    exact ⟨rfl, _, _, HQ.out⟩
set_option maxHeartbeats 8000000 in
theorem follow_add3 {A0 w : World} {F0 : Nat → Prop} {R : Res} {pb fr t l : Nat} {vs : Nat → Value} {os : Nat → Bool} {ls : Nat → List Ch} {x : Ei} (h : Ow A0 F0 w (PL R pb fr vs vs os ls)) (ht : x.r.t = t) (h4 : t < 4) (hll : (ls t).length = l) (hl : l ≤ 100000) (hk : x.r.k = 3) :
    Calls Try.prog 17 #[.pointer (some ⟨pb, 0, none⟩), .agg x.vc] w fun e w' => e = .returned (.tuple #[]) ∧ ∃ A9 c9, Ow A0 F0 w' (PL R pb fr (setN vs t (.slice A9 (l + 1) c9)) (setN vs t (.slice A9 (l + 1) c9)) (setN os t true) (setN ls t (ls t ++ [chOf x.r]))) := by
  have g2 : ((x.r.k : Int) == 2) = false := by rw [beq_eq_false_iff_ne]; omega
  have g3 : ((x.r.k : Int) == 3) = true := by rw [hk]; rfl
  obtain ⟨A, c, e⟩ := (h.rowsAt (i := 2) rfl h4).form
  rw [hll] at e
  unfold Ei.vc
  rw [ht]
  have SB := h.below ((Below.refl _ w).alloc (Nat.le_refl _) (.cells #[.int .i64 (x.r.k : Int), .int .i64 (t : Int), .int .i64 (x.r.p : Int), .int .i64 (x.r.s : Int), .string x.r.b, .string x.r.a, .string x.r.i, .slice x.A x.r.ds.length x.c, .int .u64 (x.pl : Int)] 40))
  have hpb : pb < w.heap.size := (h.blk (i := 1) rfl).lt
  have HXB : Blk (w.alloc (.cells #[.int .i64 (x.r.k : Int), .int .i64 (t : Int), .int .i64 (x.r.p : Int), .int .i64 (x.r.s : Int), .string x.r.b, .string x.r.a, .string x.r.i, .slice x.A x.r.ds.length x.c, .int .u64 (x.pl : Int)] 40)) w.heap.size 40 #[.int .i64 (x.r.k : Int), .int .i64 (t : Int), .int .i64 (x.r.p : Int), .int .i64 (x.r.s : Int), .string x.r.b, .string x.r.a, .string x.r.i, .slice x.A x.r.ds.length x.c, .int .u64 (x.pl : Int)] := heap_new w _
  obtain ⟨c1, c2, f1, f2⟩ := PL.cells SB h4
  rw [e] at c1
  have q4 : (t : Int) < 4 := by omega
  have q0 : (0 : Int) ≤ (t : Int) := by omega
  have ql : (l : Int) ≤ 100000 := by omega
  have H4 := hide h4
  have SP := PL.storeOp SB h4 true
  have HX : Hid (Blk ((w.alloc (.cells #[.int .i64 (x.r.k : Int), .int .i64 (t : Int), .int .i64 (x.r.p : Int), .int .i64 (x.r.s : Int), .string x.r.b, .string x.r.a, .string x.r.i, .slice x.A x.r.ds.length x.c, .int .u64 (x.pl : Int)] 40)).setCell ⟨pb, 5 + t, none⟩ (.bool true)) w.heap.size 40 #[.int .i64 (x.r.k : Int), .int .i64 (t : Int), .int .i64 (x.r.p : Int), .int .i64 (x.r.s : Int), .string x.r.b, .string x.r.a, .string x.r.i, .slice x.A x.r.ds.length x.c, .int .u64 (x.pl : Int)]) := hide (HXB.far (p := ⟨pb, 5 + t, none⟩) (by show w.heap.size ≠ pb; omega) (.bool true))
  have SD : Ow A0 F0 ((w.alloc (.cells #[.int .i64 (x.r.k : Int), .int .i64 (t : Int), .int .i64 (x.r.p : Int), .int .i64 (x.r.s : Int), .string x.r.b, .string x.r.a, .string x.r.i, .slice x.A x.r.ds.length x.c, .int .u64 (x.pl : Int)] 40)).setCell ⟨pb, 5 + t, none⟩ (.bool true)).drew (PL R pb fr vs vs (setN os t true) ls) := SP.below (Below.refl _ _).drew
  obtain ⟨A9, c9, w9, hrun, S9⟩ := SD.appRows (i := 2) (x := chOf x.r) (cs := #[.int .i64 (x.r.p : Int), .int .i64 (x.r.s : Int), .string x.r.b]) rfl h4 e rfl (by omega) 28
  rw [hll] at hrun S9
  have HRUN : Hid ((Builtin.append_ #[28, 28] 28 #[.slice A l c, .slice (some ⟨((w.alloc (.cells #[.int .i64 (x.r.k : Int), .int .i64 (t : Int), .int .i64 (x.r.p : Int), .int .i64 (x.r.s : Int), .string x.r.b, .string x.r.a, .string x.r.i, .slice x.A x.r.ds.length x.c, .int .u64 (x.pl : Int)] 40)).setCell ⟨pb, 5 + t, none⟩ (.bool true)).heap.size, 0, none⟩) 1 1]).run Try.prog (((w.alloc (.cells #[.int .i64 (x.r.k : Int), .int .i64 (t : Int), .int .i64 (x.r.p : Int), .int .i64 (x.r.s : Int), .string x.r.b, .string x.r.a, .string x.r.i, .slice x.A x.r.ds.length x.c, .int .u64 (x.pl : Int)] 40)).setCell ⟨pb, 5 + t, none⟩ (.bool true)).drew.alloc (.cells #[.int .i64 (x.r.p : Int), .int .i64 (x.r.s : Int), .string x.r.b] 42)) = .ok (.slice A9 (l + 1) c9) w9) := hide hrun
  have S9 : Ow A0 F0 w9 (PL R pb fr vs (setN vs t (.slice A9 (l + 1) c9)) (setN os t true) (setN ls t (ls t ++ [chOf x.r]))) := S9
  obtain ⟨k1, _, k3, _⟩ := PL.cells S9 h4
  have HCELL : Hid ((∃ u, w9.cell? ⟨pb, 1 + t, none⟩ = some u) ∧ w9.frozen? ⟨pb, 1 + t, none⟩ = false) := hide ⟨⟨_, k1⟩, k3⟩
  have HQ := hide (PL.storeLo S9 h4 (.slice A9 (l + 1) c9))
  obtain ⟨z, hz⟩ : ∃ z, max ((l : Int) - 1) 0 = z := ⟨_, rfl⟩
  obtain ⟨p1, p2, _⟩ := PL.cells SP h4
  rw [e] at p1
  clear SB h e h4 hk hll ht hpb HXB hl hrun S9 k1 k3 SD SP
  go_enter Try.func17, Try.ntmps17
  go_upto_region 11 with (fail)
  refine region_phases (valV [some (.pointer (some ⟨pb, 0, none⟩)), some (.int .i64 (t : Int)), some (.slice A l c), some (.pointer (some ⟨w.heap.size, 0, none⟩)), some (.pointer (some ⟨w.heap.size, 2, none⟩)), some (.int .i64 (x.r.p : Int)), some (.pointer (some ⟨w.heap.size, 0, none⟩)), some (.pointer (some ⟨w.heap.size, 3, none⟩)), some (.int .i64 (x.r.s : Int)), some (.pointer (some ⟨w.heap.size, 0, none⟩)), some (.pointer (some ⟨w.heap.size, 4, none⟩)), some (.string x.r.b), some (.agg #[.int .i64 (x.r.p : Int), .int .i64 (x.r.s : Int), .string x.r.b]), some (.slice (some ⟨((w.alloc (.cells #[.int .i64 (x.r.k : Int), .int .i64 (t : Int), .int .i64 (x.r.p : Int), .int .i64 (x.r.s : Int), .string x.r.b, .string x.r.a, .string x.r.i, .slice x.A x.r.ds.length x.c, .int .u64 (x.pl : Int)] 40)).setCell ⟨pb, 5 + t, none⟩ (.bool true)).heap.size, 0, none⟩) 1 1), some (.slice A9 (l + 1) c9), some (.pointer (some ⟨pb, 0, none⟩)), some (.pointer (some ⟨pb, 1, none⟩)), some (.pointer (some ⟨pb, 1 + t, none⟩)), none]) (phased [⟨18, 17, fun _ w2 => w2 = (w9.setCell ⟨pb, 1 + t, none⟩ (.slice A9 (l + 1) c9))⟩, ⟨14, 14, fun _ w2 => w2 = w9⟩, ⟨13, 13, fun _ w2 => w2 = (((w.alloc (.cells #[.int .i64 (x.r.k : Int), .int .i64 (t : Int), .int .i64 (x.r.p : Int), .int .i64 (x.r.s : Int), .string x.r.b, .string x.r.a, .string x.r.i, .slice x.A x.r.ds.length x.c, .int .u64 (x.pl : Int)] 40)).setCell ⟨pb, 5 + t, none⟩ (.bool true)).drew.alloc (.cells #[.int .i64 (x.r.p : Int), .int .i64 (x.r.s : Int), .string x.r.b] 42))⟩] (fun w2 => w2 = ((w.alloc (.cells #[.int .i64 (x.r.k : Int), .int .i64 (t : Int), .int .i64 (x.r.p : Int), .int .i64 (x.r.s : Int), .string x.r.b, .string x.r.a, .string x.r.i, .slice x.A x.r.ds.length x.c, .int .u64 (x.pl : Int)] 40)).setCell ⟨pb, 5 + t, none⟩ (.bool true)).drew)) (by kernel_rfl) (by kernel_rfl) (by kernel_rfl) (by kernel_rfl) (phased_ext (by kernel_rfl)) (rfl) ?_ ?_
  · intro i o ho L a w2 hph hsz hLi hnot hyes old dep
    match i, ho with
    | 0, ho =>
      obtain rfl := Option.some.inj ho
      rw [if_pos (wanted_none rfl)]
      have o0 := old 0 (by kernel_rfl)
      refine wp_yields (v := .pointer (some ⟨pb, 0, none⟩)) (w' := w2) ?_ (fun u hu => Option.some.inj (Option.some.inj hu)) (phased_quiet hLi (by rfl) hph)
      clear dep old ho hsz hph hnot hyes hLi
      go_simp
    | 1, ho =>
      obtain rfl := Option.some.inj ho
      rw [if_pos (wanted_none rfl)]
      have o4 := old 4 (by kernel_rfl)
      refine wp_yields (v := .int .i64 (t : Int)) (w' := w2) ?_ (fun u hu => Option.some.inj (Option.some.inj hu)) (phased_quiet hLi (by rfl) hph)
      clear dep old ho hsz hph hnot hyes hLi
      go_simp
    | 2, ho =>
      obtain rfl := Option.some.inj ho
      rw [if_pos (wanted_none rfl)]
      have o5 := old 5 (by kernel_rfl)
      refine wp_yields (v := .slice A l c) (w' := w2) ?_ (fun u hu => Option.some.inj (Option.some.inj hu)) (phased_quiet hLi (by rfl) hph)
      clear dep old ho hsz hph hnot hyes hLi
      go_simp
    | 3, ho =>
      obtain rfl := Option.some.inj ho
      rw [if_pos (wanted_none rfl)]
      have o3 := old 3 (by kernel_rfl)
      refine wp_yields (v := .pointer (some ⟨w.heap.size, 0, none⟩)) (w' := w2) ?_ (fun u hu => Option.some.inj (Option.some.inj hu)) (phased_quiet hLi (by rfl) hph)
      clear dep old ho hsz hph hnot hyes hLi
      go_simp
    | 4, ho =>
      obtain rfl := Option.some.inj ho
      rw [if_pos (wanted_none rfl)]
      have d3 : a.tmps.getD 39 undef = .pointer (some ⟨w.heap.size, 0, none⟩) := dep 3 _ _ (by kernel_rfl) rfl rfl _ rfl
      have e3 : a.tmps[39]?.getD undef = .pointer (some ⟨w.heap.size, 0, none⟩) := (Array.getD_eq_getD_getElem? ..).symm.trans d3
      refine wp_yields (v := .pointer (some ⟨w.heap.size, 2, none⟩)) (w' := w2) ?_ (fun u hu => Option.some.inj (Option.some.inj hu)) (phased_quiet hLi (by rfl) hph)
      clear dep old ho hsz hph hnot hyes hLi
      go_simp
    | 5, ho =>
      obtain rfl := Option.some.inj ho
      rw [if_pos (wanted_none rfl)]
      have d4 : a.tmps.getD 40 undef = .pointer (some ⟨w.heap.size, 2, none⟩) := dep 4 _ _ (by kernel_rfl) rfl rfl _ rfl
      have e4 : a.tmps[40]?.getD undef = .pointer (some ⟨w.heap.size, 2, none⟩) := (Array.getD_eq_getD_getElem? ..).symm.trans d4
      have hph2 := hph
      unfold phased at hph2
      rw [if_neg (by rw [hnot 18 (by kernel_rfl)]; decide)] at hph2
      unfold phased at hph2
      rw [if_neg (by rw [hnot 14 (by kernel_rfl)]; decide)] at hph2
      have hB : Below ((w.alloc (.cells #[.int .i64 (x.r.k : Int), .int .i64 (t : Int), .int .i64 (x.r.p : Int), .int .i64 (x.r.s : Int), .string x.r.b, .string x.r.a, .string x.r.i, .slice x.A x.r.ds.length x.c, .int .u64 (x.pl : Int)] 40)).setCell ⟨pb, 5 + t, none⟩ (.bool true)).heap.size ((w.alloc (.cells #[.int .i64 (x.r.k : Int), .int .i64 (t : Int), .int .i64 (x.r.p : Int), .int .i64 (x.r.s : Int), .string x.r.b, .string x.r.a, .string x.r.i, .slice x.A x.r.ds.length x.c, .int .u64 (x.pl : Int)] 40)).setCell ⟨pb, 5 + t, none⟩ (.bool true)) w2 := phased_all (R := fun w2 => Below ((w.alloc (.cells #[.int .i64 (x.r.k : Int), .int .i64 (t : Int), .int .i64 (x.r.p : Int), .int .i64 (x.r.s : Int), .string x.r.b, .string x.r.a, .string x.r.i, .slice x.A x.r.ds.length x.c, .int .u64 (x.pl : Int)] 40)).setCell ⟨pb, 5 + t, none⟩ (.bool true)).heap.size ((w.alloc (.cells #[.int .i64 (x.r.k : Int), .int .i64 (t : Int), .int .i64 (x.r.p : Int), .int .i64 (x.r.s : Int), .string x.r.b, .string x.r.a, .string x.r.i, .slice x.A x.r.ds.length x.c, .int .u64 (x.pl : Int)] 40)).setCell ⟨pb, 5 + t, none⟩ (.bool true)) w2) (fun p hp v w2 h => by simp only [List.mem_cons, List.not_mem_nil, or_false] at hp; rcases hp with rfl; rw [show w2 = _ from h]; exact (Below.refl _ _).drew.alloc (by simp) _) (fun w2 h => by rw [h]; exact (Below.refl _ _).drew) hph2
      clear hph2
      have hx := HX.out.below hB
      have c0 := hx.cell 2 _ rfl
      clear hx
      refine wp_yields (v := .int .i64 (x.r.p : Int)) (w' := w2) ?_ (fun u hu => Option.some.inj (Option.some.inj hu)) (phased_quiet hLi (by rfl) hph)
      clear dep old ho hsz hph hnot hyes hLi
      clear hB
      go_simp
    | 6, ho =>
      obtain rfl := Option.some.inj ho
      rw [if_pos (wanted_none rfl)]
      have o3 := old 3 (by kernel_rfl)
      refine wp_yields (v := .pointer (some ⟨w.heap.size, 0, none⟩)) (w' := w2) ?_ (fun u hu => Option.some.inj (Option.some.inj hu)) (phased_quiet hLi (by rfl) hph)
      clear dep old ho hsz hph hnot hyes hLi
      go_simp
    | 7, ho =>
      obtain rfl := Option.some.inj ho
      rw [if_pos (wanted_none rfl)]
      have d6 : a.tmps.getD 42 undef = .pointer (some ⟨w.heap.size, 0, none⟩) := dep 6 _ _ (by kernel_rfl) rfl rfl _ rfl
      have e6 : a.tmps[42]?.getD undef = .pointer (some ⟨w.heap.size, 0, none⟩) := (Array.getD_eq_getD_getElem? ..).symm.trans d6
      refine wp_yields (v := .pointer (some ⟨w.heap.size, 3, none⟩)) (w' := w2) ?_ (fun u hu => Option.some.inj (Option.some.inj hu)) (phased_quiet hLi (by rfl) hph)
      clear dep old ho hsz hph hnot hyes hLi
      go_simp
    | 8, ho =>
      obtain rfl := Option.some.inj ho
      rw [if_pos (wanted_none rfl)]
      have d7 : a.tmps.getD 43 undef = .pointer (some ⟨w.heap.size, 3, none⟩) := dep 7 _ _ (by kernel_rfl) rfl rfl _ rfl
      have e7 : a.tmps[43]?.getD undef = .pointer (some ⟨w.heap.size, 3, none⟩) := (Array.getD_eq_getD_getElem? ..).symm.trans d7
      have hph2 := hph
      unfold phased at hph2
      rw [if_neg (by rw [hnot 18 (by kernel_rfl)]; decide)] at hph2
      unfold phased at hph2
      rw [if_neg (by rw [hnot 14 (by kernel_rfl)]; decide)] at hph2
      have hB : Below ((w.alloc (.cells #[.int .i64 (x.r.k : Int), .int .i64 (t : Int), .int .i64 (x.r.p : Int), .int .i64 (x.r.s : Int), .string x.r.b, .string x.r.a, .string x.r.i, .slice x.A x.r.ds.length x.c, .int .u64 (x.pl : Int)] 40)).setCell ⟨pb, 5 + t, none⟩ (.bool true)).heap.size ((w.alloc (.cells #[.int .i64 (x.r.k : Int), .int .i64 (t : Int), .int .i64 (x.r.p : Int), .int .i64 (x.r.s : Int), .string x.r.b, .string x.r.a, .string x.r.i, .slice x.A x.r.ds.length x.c, .int .u64 (x.pl : Int)] 40)).setCell ⟨pb, 5 + t, none⟩ (.bool true)) w2 := phased_all (R := fun w2 => Below ((w.alloc (.cells #[.int .i64 (x.r.k : Int), .int .i64 (t : Int), .int .i64 (x.r.p : Int), .int .i64 (x.r.s : Int), .string x.r.b, .string x.r.a, .string x.r.i, .slice x.A x.r.ds.length x.c, .int .u64 (x.pl : Int)] 40)).setCell ⟨pb, 5 + t, none⟩ (.bool true)).heap.size ((w.alloc (.cells #[.int .i64 (x.r.k : Int), .int .i64 (t : Int), .int .i64 (x.r.p : Int), .int .i64 (x.r.s : Int), .string x.r.b, .string x.r.a, .string x.r.i, .slice x.A x.r.ds.length x.c, .int .u64 (x.pl : Int)] 40)).setCell ⟨pb, 5 + t, none⟩ (.bool true)) w2) (fun p hp v w2 h => by simp only [List.mem_cons, List.not_mem_nil, or_false] at hp; rcases hp with rfl; rw [show w2 = _ from h]; exact (Below.refl _ _).drew.alloc (by simp) _) (fun w2 h => by rw [h]; exact (Below.refl _ _).drew) hph2
      clear hph2
      have hx := HX.out.below hB
      have c0 := hx.cell 3 _ rfl
      clear hx
      refine wp_yields (v := .int .i64 (x.r.s : Int)) (w' := w2) ?_ (fun u hu => Option.some.inj (Option.some.inj hu)) (phased_quiet hLi (by rfl) hph)
      clear dep old ho hsz hph hnot hyes hLi
      clear hB
      go_simp
    | 9, ho =>
      obtain rfl := Option.some.inj ho
      rw [if_pos (wanted_none rfl)]
      have o3 := old 3 (by kernel_rfl)
      refine wp_yields (v := .pointer (some ⟨w.heap.size, 0, none⟩)) (w' := w2) ?_ (fun u hu => Option.some.inj (Option.some.inj hu)) (phased_quiet hLi (by rfl) hph)
      clear dep old ho hsz hph hnot hyes hLi
      go_simp
    | 10, ho =>
      obtain rfl := Option.some.inj ho
      rw [if_pos (wanted_none rfl)]
      have d9 : a.tmps.getD 45 undef = .pointer (some ⟨w.heap.size, 0, none⟩) := dep 9 _ _ (by kernel_rfl) rfl rfl _ rfl
      have e9 : a.tmps[45]?.getD undef = .pointer (some ⟨w.heap.size, 0, none⟩) := (Array.getD_eq_getD_getElem? ..).symm.trans d9
      refine wp_yields (v := .pointer (some ⟨w.heap.size, 4, none⟩)) (w' := w2) ?_ (fun u hu => Option.some.inj (Option.some.inj hu)) (phased_quiet hLi (by rfl) hph)
      clear dep old ho hsz hph hnot hyes hLi
      go_simp
    | 11, ho =>
      obtain rfl := Option.some.inj ho
      rw [if_pos (wanted_none rfl)]
      have d10 : a.tmps.getD 46 undef = .pointer (some ⟨w.heap.size, 4, none⟩) := dep 10 _ _ (by kernel_rfl) rfl rfl _ rfl
      have e10 : a.tmps[46]?.getD undef = .pointer (some ⟨w.heap.size, 4, none⟩) := (Array.getD_eq_getD_getElem? ..).symm.trans d10
      have hph2 := hph
      unfold phased at hph2
      rw [if_neg (by rw [hnot 18 (by kernel_rfl)]; decide)] at hph2
      unfold phased at hph2
      rw [if_neg (by rw [hnot 14 (by kernel_rfl)]; decide)] at hph2
      have hB : Below ((w.alloc (.cells #[.int .i64 (x.r.k : Int), .int .i64 (t : Int), .int .i64 (x.r.p : Int), .int .i64 (x.r.s : Int), .string x.r.b, .string x.r.a, .string x.r.i, .slice x.A x.r.ds.length x.c, .int .u64 (x.pl : Int)] 40)).setCell ⟨pb, 5 + t, none⟩ (.bool true)).heap.size ((w.alloc (.cells #[.int .i64 (x.r.k : Int), .int .i64 (t : Int), .int .i64 (x.r.p : Int), .int .i64 (x.r.s : Int), .string x.r.b, .string x.r.a, .string x.r.i, .slice x.A x.r.ds.length x.c, .int .u64 (x.pl : Int)] 40)).setCell ⟨pb, 5 + t, none⟩ (.bool true)) w2 := phased_all (R := fun w2 => Below ((w.alloc (.cells #[.int .i64 (x.r.k : Int), .int .i64 (t : Int), .int .i64 (x.r.p : Int), .int .i64 (x.r.s : Int), .string x.r.b, .string x.r.a, .string x.r.i, .slice x.A x.r.ds.length x.c, .int .u64 (x.pl : Int)] 40)).setCell ⟨pb, 5 + t, none⟩ (.bool true)).heap.size ((w.alloc (.cells #[.int .i64 (x.r.k : Int), .int .i64 (t : Int), .int .i64 (x.r.p : Int), .int .i64 (x.r.s : Int), .string x.r.b, .string x.r.a, .string x.r.i, .slice x.A x.r.ds.length x.c, .int .u64 (x.pl : Int)] 40)).setCell ⟨pb, 5 + t, none⟩ (.bool true)) w2) (fun p hp v w2 h => by simp only [List.mem_cons, List.not_mem_nil, or_false] at hp; rcases hp with rfl; rw [show w2 = _ from h]; exact (Below.refl _ _).drew.alloc (by simp) _) (fun w2 h => by rw [h]; exact (Below.refl _ _).drew) hph2
      clear hph2
      have hx := HX.out.below hB
      have c0 := hx.cell 4 _ rfl
      clear hx
      refine wp_yields (v := .string x.r.b) (w' := w2) ?_ (fun u hu => Option.some.inj (Option.some.inj hu)) (phased_quiet hLi (by rfl) hph)
      clear dep old ho hsz hph hnot hyes hLi
      clear hB
      go_simp
    | 12, ho =>
      obtain rfl := Option.some.inj ho
      rw [if_pos (wanted_none rfl)]
      have d5 : a.tmps.getD 41 undef = .int .i64 (x.r.p : Int) := dep 5 _ _ (by kernel_rfl) rfl rfl _ rfl
      have e5 : a.tmps[41]?.getD undef = .int .i64 (x.r.p : Int) := (Array.getD_eq_getD_getElem? ..).symm.trans d5
      have d8 : a.tmps.getD 44 undef = .int .i64 (x.r.s : Int) := dep 8 _ _ (by kernel_rfl) rfl rfl _ rfl
      have e8 : a.tmps[44]?.getD undef = .int .i64 (x.r.s : Int) := (Array.getD_eq_getD_getElem? ..).symm.trans d8
      have d11 : a.tmps.getD 47 undef = .string x.r.b := dep 11 _ _ (by kernel_rfl) rfl rfl _ rfl
      have e11 : a.tmps[47]?.getD undef = .string x.r.b := (Array.getD_eq_getD_getElem? ..).symm.trans d11
      refine wp_yields (v := .agg #[.int .i64 (x.r.p : Int), .int .i64 (x.r.s : Int), .string x.r.b]) (w' := w2) ?_ (fun u hu => Option.some.inj (Option.some.inj hu)) (phased_quiet hLi (by rfl) hph)
      clear dep old ho hsz hph hnot hyes hLi
      go_simp
    | 13, ho =>
      obtain rfl := Option.some.inj ho
      rw [if_pos (wanted_none rfl)]
      have d12 : a.tmps.getD 48 undef = .agg #[.int .i64 (x.r.p : Int), .int .i64 (x.r.s : Int), .string x.r.b] := dep 12 _ _ (by kernel_rfl) rfl rfl _ rfl
      have e12 : a.tmps[48]?.getD undef = .agg #[.int .i64 (x.r.p : Int), .int .i64 (x.r.s : Int), .string x.r.b] := (Array.getD_eq_getD_getElem? ..).symm.trans d12
      unfold phased at hph
      rw [if_neg (by rw [hnot 18 (by kernel_rfl)]; decide)] at hph
      unfold phased at hph
      rw [if_neg (by rw [hnot 14 (by kernel_rfl)]; decide)] at hph
      unfold phased at hph
      rw [if_neg (by rw [hLi]; decide)] at hph
      unfold phased at hph
      obtain rfl : w2 = ((w.alloc (.cells #[.int .i64 (x.r.k : Int), .int .i64 (t : Int), .int .i64 (x.r.p : Int), .int .i64 (x.r.s : Int), .string x.r.b, .string x.r.a, .string x.r.i, .slice x.A x.r.ds.length x.c, .int .u64 (x.pl : Int)] 40)).setCell ⟨pb, 5 + t, none⟩ (.bool true)).drew := hph
      refine wp_yields (v := .slice (some ⟨((w.alloc (.cells #[.int .i64 (x.r.k : Int), .int .i64 (t : Int), .int .i64 (x.r.p : Int), .int .i64 (x.r.s : Int), .string x.r.b, .string x.r.a, .string x.r.i, .slice x.A x.r.ds.length x.c, .int .u64 (x.pl : Int)] 40)).setCell ⟨pb, 5 + t, none⟩ (.bool true)).heap.size, 0, none⟩) 1 1) (w' := (((w.alloc (.cells #[.int .i64 (x.r.k : Int), .int .i64 (t : Int), .int .i64 (x.r.p : Int), .int .i64 (x.r.s : Int), .string x.r.b, .string x.r.a, .string x.r.i, .slice x.A x.r.ds.length x.c, .int .u64 (x.pl : Int)] 40)).setCell ⟨pb, 5 + t, none⟩ (.bool true)).drew.alloc (.cells #[.int .i64 (x.r.p : Int), .int .i64 (x.r.s : Int), .string x.r.b] 42))) ?_ (fun u hu => Option.some.inj (Option.some.inj hu)) ?_
      · clear dep old ho hsz hnot hyes hLi
        go_simp
      · unfold phased
        rw [if_neg (by simp [also, hnot 18 (by kernel_rfl)])]
        unfold phased
        rw [if_neg (by simp [also, hnot 14 (by kernel_rfl)])]
        unfold phased
        rw [if_pos (by simp [also])]
        exact ⟨by simp [also], rfl⟩
    | 14, ho =>
      obtain rfl := Option.some.inj ho
      rw [if_pos (wanted_none rfl)]
      have d2 : a.tmps.getD 38 undef = .slice A l c := dep 2 _ _ (by kernel_rfl) rfl rfl _ rfl
      have e2 : a.tmps[38]?.getD undef = .slice A l c := (Array.getD_eq_getD_getElem? ..).symm.trans d2
      have d13 : a.tmps.getD 49 undef = .slice (some ⟨((w.alloc (.cells #[.int .i64 (x.r.k : Int), .int .i64 (t : Int), .int .i64 (x.r.p : Int), .int .i64 (x.r.s : Int), .string x.r.b, .string x.r.a, .string x.r.i, .slice x.A x.r.ds.length x.c, .int .u64 (x.pl : Int)] 40)).setCell ⟨pb, 5 + t, none⟩ (.bool true)).heap.size, 0, none⟩) 1 1 := dep 13 _ _ (by kernel_rfl) rfl rfl _ rfl
      have e13 : a.tmps[49]?.getD undef = .slice (some ⟨((w.alloc (.cells #[.int .i64 (x.r.k : Int), .int .i64 (t : Int), .int .i64 (x.r.p : Int), .int .i64 (x.r.s : Int), .string x.r.b, .string x.r.a, .string x.r.i, .slice x.A x.r.ds.length x.c, .int .u64 (x.pl : Int)] 40)).setCell ⟨pb, 5 + t, none⟩ (.bool true)).heap.size, 0, none⟩) 1 1 := (Array.getD_eq_getD_getElem? ..).symm.trans d13
      unfold phased at hph
      rw [if_neg (by rw [hnot 18 (by kernel_rfl)]; decide)] at hph
      unfold phased at hph
      rw [if_neg (by rw [hLi]; decide)] at hph
      unfold phased at hph
      rw [if_pos (hyes 13 (by kernel_rfl))] at hph
      obtain rfl : w2 = (((w.alloc (.cells #[.int .i64 (x.r.k : Int), .int .i64 (t : Int), .int .i64 (x.r.p : Int), .int .i64 (x.r.s : Int), .string x.r.b, .string x.r.a, .string x.r.i, .slice x.A x.r.ds.length x.c, .int .u64 (x.pl : Int)] 40)).setCell ⟨pb, 5 + t, none⟩ (.bool true)).drew.alloc (.cells #[.int .i64 (x.r.p : Int), .int .i64 (x.r.s : Int), .string x.r.b] 42)) := hph.2
      have hr := HRUN.out
      refine wp_yields (v := .slice A9 (l + 1) c9) (w' := w9) (exec_append_run (.tmp 38) (.tmp 49) _ rfl d2 d13 hr) (fun u hu => Option.some.inj (Option.some.inj hu)) ?_
      unfold phased
      rw [if_neg (by simp [also, hnot 18 (by kernel_rfl)])]
      unfold phased
      rw [if_pos (by simp [also])]
      exact ⟨by simp [also], rfl⟩
    | 15, ho =>
      obtain rfl := Option.some.inj ho
      rw [if_pos (wanted_none rfl)]
      have d0 : a.tmps.getD 36 undef = .pointer (some ⟨pb, 0, none⟩) := dep 0 _ _ (by kernel_rfl) rfl rfl _ rfl
      have e0 : a.tmps[36]?.getD undef = .pointer (some ⟨pb, 0, none⟩) := (Array.getD_eq_getD_getElem? ..).symm.trans d0
      refine wp_yields (v := .pointer (some ⟨pb, 0, none⟩)) (w' := w2) ?_ (fun u hu => Option.some.inj (Option.some.inj hu)) (phased_quiet hLi (by rfl) hph)
      clear dep old ho hsz hph hnot hyes hLi
      go_simp
    | 16, ho =>
      obtain rfl := Option.some.inj ho
      rw [if_pos (wanted_none rfl)]
      have d15 : a.tmps.getD 51 undef = .pointer (some ⟨pb, 0, none⟩) := dep 15 _ _ (by kernel_rfl) rfl rfl _ rfl
      have e15 : a.tmps[51]?.getD undef = .pointer (some ⟨pb, 0, none⟩) := (Array.getD_eq_getD_getElem? ..).symm.trans d15
      refine wp_yields (v := .pointer (some ⟨pb, 1, none⟩)) (w' := w2) ?_ (fun u hu => Option.some.inj (Option.some.inj hu)) (phased_quiet hLi (by rfl) hph)
      clear dep old ho hsz hph hnot hyes hLi
      go_simp
    | 17, ho =>
      obtain rfl := Option.some.inj ho
      rw [if_pos (wanted_none rfl)]
      have d1 : a.tmps.getD 37 undef = .int .i64 (t : Int) := dep 1 _ _ (by kernel_rfl) rfl rfl _ rfl
      have e1 : a.tmps[37]?.getD undef = .int .i64 (t : Int) := (Array.getD_eq_getD_getElem? ..).symm.trans d1
      have d16 : a.tmps.getD 52 undef = .pointer (some ⟨pb, 1, none⟩) := dep 16 _ _ (by kernel_rfl) rfl rfl _ rfl
      have e16 : a.tmps[52]?.getD undef = .pointer (some ⟨pb, 1, none⟩) := (Array.getD_eq_getD_getElem? ..).symm.trans d16
      refine wp_yields (v := .pointer (some ⟨pb, 1 + t, none⟩)) (w' := w2) ?_ (fun u hu => Option.some.inj (Option.some.inj hu)) (phased_quiet hLi (by rfl) hph)
      clear dep old ho hsz hph hnot hyes hLi
      go_simp
    | 18, ho =>
      obtain rfl := Option.some.inj ho
      rw [if_pos (wanted_none rfl)]
      have d14 : a.tmps.getD 50 undef = .slice A9 (l + 1) c9 := dep 14 _ _ (by kernel_rfl) rfl rfl _ rfl
      have e14 : a.tmps[50]?.getD undef = .slice A9 (l + 1) c9 := (Array.getD_eq_getD_getElem? ..).symm.trans d14
      have d17 : a.tmps.getD 53 undef = .pointer (some ⟨pb, 1 + t, none⟩) := dep 17 _ _ (by kernel_rfl) rfl rfl _ rfl
      have e17 : a.tmps[53]?.getD undef = .pointer (some ⟨pb, 1 + t, none⟩) := (Array.getD_eq_getD_getElem? ..).symm.trans d17
      unfold phased at hph
      rw [if_neg (by rw [hLi]; decide)] at hph
      unfold phased at hph
      rw [if_pos (hyes 14 (by kernel_rfl))] at hph
      obtain rfl : w9 = w2 := hph.2.symm
      obtain ⟨⟨u0, hc0⟩, hf0⟩ := HCELL.out
      refine wp_skips (w' := (w9.setCell ⟨pb, 1 + t, none⟩ (.slice A9 (l + 1) c9))) ?_ (fun u hu => by cases Option.some.inj hu) ?_
      · clear dep old ho hsz hnot hyes hLi hph
        go_simp
      · unfold phased
        rw [if_pos (by simp [also])]
        exact ⟨by simp [also, hyes 17 (by kernel_rfl)], rfl⟩
    | i + 19, ho => exact absurd ho (by simp)
  · intro a w4 hph hsz hdf fin keep
    obtain ⟨tm, df⟩ := a
    have hx := frame_of [36, 37, 38, 39, 40, 41, 42, 43, 44, 45, 46, 47, 48, 49, 50, 51, 52, 53] (by kernel_rfl) hsz keep
    dsimp only at hdf hx
    simp only [List.foldl_cons, List.foldl_nil] at hx
    subst hdf
    clear hsz keep
    have kn : tm.getD 36 undef = .pointer (some ⟨pb, 0, none⟩) := fin 0 _ _ rfl rfl _ rfl
    rw [kn] at hx
    clear kn
    have kn : tm.getD 37 undef = .int .i64 (t : Int) := fin 1 _ _ rfl rfl _ rfl
    rw [kn] at hx
    clear kn
    have kn : tm.getD 38 undef = .slice A l c := fin 2 _ _ rfl rfl _ rfl
    rw [kn] at hx
    clear kn
    have kn : tm.getD 39 undef = .pointer (some ⟨w.heap.size, 0, none⟩) := fin 3 _ _ rfl rfl _ rfl
    rw [kn] at hx
    clear kn
    have kn : tm.getD 40 undef = .pointer (some ⟨w.heap.size, 2, none⟩) := fin 4 _ _ rfl rfl _ rfl
    rw [kn] at hx
    clear kn
    have kn : tm.getD 41 undef = .int .i64 (x.r.p : Int) := fin 5 _ _ rfl rfl _ rfl
    rw [kn] at hx
    clear kn
    have kn : tm.getD 42 undef = .pointer (some ⟨w.heap.size, 0, none⟩) := fin 6 _ _ rfl rfl _ rfl
    rw [kn] at hx
    clear kn
    have kn : tm.getD 43 undef = .pointer (some ⟨w.heap.size, 3, none⟩) := fin 7 _ _ rfl rfl _ rfl
    rw [kn] at hx
    clear kn
    have kn : tm.getD 44 undef = .int .i64 (x.r.s : Int) := fin 8 _ _ rfl rfl _ rfl
    rw [kn] at hx
    clear kn
    have kn : tm.getD 45 undef = .pointer (some ⟨w.heap.size, 0, none⟩) := fin 9 _ _ rfl rfl _ rfl
    rw [kn] at hx
    clear kn
    have kn : tm.getD 46 undef = .pointer (some ⟨w.heap.size, 4, none⟩) := fin 10 _ _ rfl rfl _ rfl
    rw [kn] at hx
    clear kn
    have kn : tm.getD 47 undef = .string x.r.b := fin 11 _ _ rfl rfl _ rfl
    rw [kn] at hx
    clear kn
    have kn : tm.getD 48 undef = .agg #[.int .i64 (x.r.p : Int), .int .i64 (x.r.s : Int), .string x.r.b] := fin 12 _ _ rfl rfl _ rfl
    rw [kn] at hx
    clear kn
    have kn : tm.getD 49 undef = .slice (some ⟨((w.alloc (.cells #[.int .i64 (x.r.k : Int), .int .i64 (t : Int), .int .i64 (x.r.p : Int), .int .i64 (x.r.s : Int), .string x.r.b, .string x.r.a, .string x.r.i, .slice x.A x.r.ds.length x.c, .int .u64 (x.pl : Int)] 40)).setCell ⟨pb, 5 + t, none⟩ (.bool true)).heap.size, 0, none⟩) 1 1 := fin 13 _ _ rfl rfl _ rfl
    rw [kn] at hx
    clear kn
    have kn : tm.getD 50 undef = .slice A9 (l + 1) c9 := fin 14 _ _ rfl rfl _ rfl
    rw [kn] at hx
    clear kn
    have kn : tm.getD 51 undef = .pointer (some ⟨pb, 0, none⟩) := fin 15 _ _ rfl rfl _ rfl
    rw [kn] at hx
    clear kn
    have kn : tm.getD 52 undef = .pointer (some ⟨pb, 1, none⟩) := fin 16 _ _ rfl rfl _ rfl
    rw [kn] at hx
    clear kn
    have kn : tm.getD 53 undef = .pointer (some ⟨pb, 1 + t, none⟩) := fin 17 _ _ rfl rfl _ rfl
    rw [kn] at hx
    clear kn
    clear fin
    simp only [List.setIfInBounds_toArray, List.set_cons_succ, List.set_cons_zero] at hx
    subst hx
    unfold phased at hph
    rw [if_pos rfl] at hph
    obtain ⟨_, hph⟩ := hph
    obtain rfl := hph
    go_wp2
    go_end0
    exact ⟨rfl, _, _, HQ.out⟩
set_option maxHeartbeats 8000000 in
theorem follow_cut {A0 w : World} {F0 : Nat → Prop} {R : Res} {pb fr t l : Nat} {vs : Nat → Value} {os : Nat → Bool} {ls : Nat → List Ch} {x : Ei} (h : Ow A0 F0 w (PL R pb fr vs vs os ls)) (ht : x.r.t = t) (h4 : t < 4) (hll : (ls t).length = l) (hl : l ≤ 100000) (hk : x.r.k = 4) :
    Calls Try.prog 17 #[.pointer (some ⟨pb, 0, none⟩), .agg x.vc] w fun e w' => e = .returned (.tuple #[]) ∧ ∃ A9 c9, Ow A0 F0 w' (PL R pb fr (setN vs t (.slice A9 (l - 1) c9)) (setN vs t (.slice A9 (l - 1) c9)) os (setN ls t ((ls t).take (l - 1)))) := by
  have g2 : ((x.r.k : Int) == 2) = false := by rw [beq_eq_false_iff_ne]; omega
  have g3 : ((x.r.k : Int) == 3) = false := by rw [beq_eq_false_iff_ne]; omega
  have g4 : ((x.r.k : Int) == 4) = true := by rw [hk]; rfl
  obtain ⟨A, c, e⟩ := (h.rowsAt (i := 2) rfl h4).form
  rw [hll] at e
  unfold Ei.vc
  rw [ht]
  have SB := h.below ((Below.refl _ w).alloc (Nat.le_refl _) (.cells #[.int .i64 (x.r.k : Int), .int .i64 (t : Int), .int .i64 (x.r.p : Int), .int .i64 (x.r.s : Int), .string x.r.b, .string x.r.a, .string x.r.i, .slice x.A x.r.ds.length x.c, .int .u64 (x.pl : Int)] 40))
  have hpb : pb < w.heap.size := (h.blk (i := 1) rfl).lt
  have HXB : Blk (w.alloc (.cells #[.int .i64 (x.r.k : Int), .int .i64 (t : Int), .int .i64 (x.r.p : Int), .int .i64 (x.r.s : Int), .string x.r.b, .string x.r.a, .string x.r.i, .slice x.A x.r.ds.length x.c, .int .u64 (x.pl : Int)] 40)) w.heap.size 40 #[.int .i64 (x.r.k : Int), .int .i64 (t : Int), .int .i64 (x.r.p : Int), .int .i64 (x.r.s : Int), .string x.r.b, .string x.r.a, .string x.r.i, .slice x.A x.r.ds.length x.c, .int .u64 (x.pl : Int)] := heap_new w _
  obtain ⟨c1, c2, f1, f2⟩ := PL.cells SB h4
  rw [e] at c1
  have q4 : (t : Int) < 4 := by omega
  have q0 : (0 : Int) ≤ (t : Int) := by omega
  have ql : (l : Int) ≤ 100000 := by omega
  have H4 := hide h4
  have SP := SB
  obtain ⟨r, hr⟩ : ∃ r, l - 1 = r := ⟨_, rfl⟩
  simp only [hr]
  have hz : max ((l : Int) - 1) 0 = (r : Int) := by omega
  have hrl : r ≤ l := by omega
  have SD : Ow A0 F0 (w.alloc (.cells #[.int .i64 (x.r.k : Int), .int .i64 (t : Int), .int .i64 (x.r.p : Int), .int .i64 (x.r.s : Int), .string x.r.b, .string x.r.a, .string x.r.i, .slice x.A x.r.ds.length x.c, .int .u64 (x.pl : Int)] 40)).drew (PL R pb fr vs vs os ls) := SP.below (Below.refl _ _).drew
  have hdel := PL.delete (k := r) SD h4 hll hl (by omega)
  rw [e] at hdel
  have HD : Hid (Calls Try.prog 19 #[.slice A l c, .int .i64 (r : Int), .int .i64 (l : Int)] (w.alloc (.cells #[.int .i64 (x.r.k : Int), .int .i64 (t : Int), .int .i64 (x.r.p : Int), .int .i64 (x.r.s : Int), .string x.r.b, .string x.r.a, .string x.r.i, .slice x.A x.r.ds.length x.c, .int .u64 (x.pl : Int)] 40)).drew fun e w2 => ∃ v, e = .returned v ∧ ∃ A9 c9, v = .slice A9 r c9 ∧ Ow A0 F0 w2 (PL R pb fr vs (setN vs t (.slice A9 r c9)) os (setN ls t ((ls t).take r)))) := hide hdel
  obtain ⟨p1, p2, _⟩ := PL.cells SP h4
  rw [e] at p1
  clear hr
  clear SB h e h4 hk hll ht hpb HXB hl hdel SD SP
  go_enter Try.func17, Try.ntmps17
  go_upto_region 14 with (fail)
  refine region_phases (valV [some (.pointer (some ⟨pb, 0, none⟩)), some (.int .i64 (t : Int)), some (.slice A l c), some (.int .i64 (r : Int)), some (.slice A l c), some (.int .i64 (l : Int)), none, some (.pointer (some ⟨pb, 0, none⟩)), some (.pointer (some ⟨pb, 1, none⟩)), some (.pointer (some ⟨pb, 1 + t, none⟩)), none]) (phased [⟨10, 9, fun _ w2 => ∃ A9 c9, Ow A0 F0 w2 (PL R pb fr (setN vs t (.slice A9 r c9)) (setN vs t (.slice A9 r c9)) os (setN ls t ((ls t).take r)))⟩, ⟨6, 6, fun v w2 => ∃ A9 c9, v = .slice A9 r c9 ∧ Ow A0 F0 w2 (PL R pb fr vs (setN vs t (.slice A9 r c9)) os (setN ls t ((ls t).take r)))⟩] (fun w2 => w2 = (w.alloc (.cells #[.int .i64 (x.r.k : Int), .int .i64 (t : Int), .int .i64 (x.r.p : Int), .int .i64 (x.r.s : Int), .string x.r.b, .string x.r.a, .string x.r.i, .slice x.A x.r.ds.length x.c, .int .u64 (x.pl : Int)] 40)).drew)) (by kernel_rfl) (by kernel_rfl) (by kernel_rfl) (by kernel_rfl) (phased_ext (by kernel_rfl)) (rfl) ?_ ?_
  · intro i o ho L a w2 hph hsz hLi hnot hyes old dep
    match i, ho with
    | 0, ho =>
      obtain rfl := Option.some.inj ho
      rw [if_pos (wanted_none rfl)]
      have o0 := old 0 (by kernel_rfl)
      refine wp_yields (v := .pointer (some ⟨pb, 0, none⟩)) (w' := w2) ?_ (fun u hu => Option.some.inj (Option.some.inj hu)) (phased_quiet hLi (by rfl) hph)
      clear dep old ho hsz hph hnot hyes hLi
      go_simp
    | 1, ho =>
      obtain rfl := Option.some.inj ho
      rw [if_pos (wanted_none rfl)]
      have o4 := old 4 (by kernel_rfl)
      refine wp_yields (v := .int .i64 (t : Int)) (w' := w2) ?_ (fun u hu => Option.some.inj (Option.some.inj hu)) (phased_quiet hLi (by rfl) hph)
      clear dep old ho hsz hph hnot hyes hLi
      go_simp
    | 2, ho =>
      obtain rfl := Option.some.inj ho
      rw [if_pos (wanted_none rfl)]
      have o5 := old 5 (by kernel_rfl)
      refine wp_yields (v := .slice A l c) (w' := w2) ?_ (fun u hu => Option.some.inj (Option.some.inj hu)) (phased_quiet hLi (by rfl) hph)
      clear dep old ho hsz hph hnot hyes hLi
      go_simp
    | 3, ho =>
      obtain rfl := Option.some.inj ho
      rw [if_pos (wanted_none rfl)]
      have o6 := old 6 (by kernel_rfl)
      refine wp_yields (v := .int .i64 (r : Int)) (w' := w2) ?_ (fun u hu => Option.some.inj (Option.some.inj hu)) (phased_quiet hLi (by rfl) hph)
      clear dep old ho hsz hph hnot hyes hLi
      go_simp
    | 4, ho =>
      obtain rfl := Option.some.inj ho
      rw [if_pos (wanted_none rfl)]
      have o5 := old 5 (by kernel_rfl)
      refine wp_yields (v := .slice A l c) (w' := w2) ?_ (fun u hu => Option.some.inj (Option.some.inj hu)) (phased_quiet hLi (by rfl) hph)
      clear dep old ho hsz hph hnot hyes hLi
      go_simp
    | 5, ho =>
      obtain rfl := Option.some.inj ho
      rw [if_pos (wanted_none rfl)]
      have d4 : a.tmps.getD 63 undef = .slice A l c := dep 4 _ _ (by kernel_rfl) rfl rfl _ rfl
      have e4 : a.tmps[63]?.getD undef = .slice A l c := (Array.getD_eq_getD_getElem? ..).symm.trans d4
      refine wp_yields (v := .int .i64 (l : Int)) (w' := w2) ?_ (fun u hu => Option.some.inj (Option.some.inj hu)) (phased_quiet hLi (by rfl) hph)
      clear dep old ho hsz hph hnot hyes hLi
      go_simp
    | 6, ho =>
      obtain rfl := Option.some.inj ho
      rw [if_pos (wanted_none rfl)]
      have d2 : a.tmps.getD 61 undef = .slice A l c := dep 2 _ _ (by kernel_rfl) rfl rfl _ rfl
      have e2 : a.tmps[61]?.getD undef = .slice A l c := (Array.getD_eq_getD_getElem? ..).symm.trans d2
      have d3 : a.tmps.getD 62 undef = .int .i64 (r : Int) := dep 3 _ _ (by kernel_rfl) rfl rfl _ rfl
      have e3 : a.tmps[62]?.getD undef = .int .i64 (r : Int) := (Array.getD_eq_getD_getElem? ..).symm.trans d3
      have d5 : a.tmps.getD 64 undef = .int .i64 (l : Int) := dep 5 _ _ (by kernel_rfl) rfl rfl _ rfl
      have e5 : a.tmps[64]?.getD undef = .int .i64 (l : Int) := (Array.getD_eq_getD_getElem? ..).symm.trans d5
      unfold phased at hph
      rw [if_neg (by rw [hnot 10 (by kernel_rfl)]; decide)] at hph
      unfold phased at hph
      rw [if_neg (by rw [hLi]; decide)] at hph
      unfold phased at hph
      obtain rfl : w2 = (w.alloc (.cells #[.int .i64 (x.r.k : Int), .int .i64 (t : Int), .int .i64 (x.r.p : Int), .int .i64 (x.r.s : Int), .string x.r.b, .string x.r.a, .string x.r.i, .slice x.A x.r.ds.length x.c, .int .u64 (x.pl : Int)] 40)).drew := hph
      have hnt := hnot 10 (by kernel_rfl)
      refine Oper.wp_mono ?_ (last_enters (f := 19) (args := #[.slice A l c, .int .i64 (r : Int), .int .i64 (l : Int)]) ?_ HD.out)
      · rintro a' w' ⟨v, rfl, hR⟩
        refine ⟨v, rfl, (fun u hu => by cases Option.some.inj hu), ?_⟩
        unfold phased
        rw [if_neg (by simp [also, hnt])]
        unfold phased
        rw [if_pos (by simp [also])]
        exact ⟨by simp [also], hR⟩
      · clear dep old ho hsz hnot hyes hLi hnt
        go_simp
    | 7, ho =>
      obtain rfl := Option.some.inj ho
      rw [if_pos (wanted_none rfl)]
      have d0 : a.tmps.getD 59 undef = .pointer (some ⟨pb, 0, none⟩) := dep 0 _ _ (by kernel_rfl) rfl rfl _ rfl
      have e0 : a.tmps[59]?.getD undef = .pointer (some ⟨pb, 0, none⟩) := (Array.getD_eq_getD_getElem? ..).symm.trans d0
      refine wp_yields (v := .pointer (some ⟨pb, 0, none⟩)) (w' := w2) ?_ (fun u hu => Option.some.inj (Option.some.inj hu)) (phased_quiet hLi (by rfl) hph)
      clear dep old ho hsz hph hnot hyes hLi
      go_simp
    | 8, ho =>
      obtain rfl := Option.some.inj ho
      rw [if_pos (wanted_none rfl)]
      have d7 : a.tmps.getD 66 undef = .pointer (some ⟨pb, 0, none⟩) := dep 7 _ _ (by kernel_rfl) rfl rfl _ rfl
      have e7 : a.tmps[66]?.getD undef = .pointer (some ⟨pb, 0, none⟩) := (Array.getD_eq_getD_getElem? ..).symm.trans d7
      refine wp_yields (v := .pointer (some ⟨pb, 1, none⟩)) (w' := w2) ?_ (fun u hu => Option.some.inj (Option.some.inj hu)) (phased_quiet hLi (by rfl) hph)
      clear dep old ho hsz hph hnot hyes hLi
      go_simp
    | 9, ho =>
      obtain rfl := Option.some.inj ho
      rw [if_pos (wanted_none rfl)]
      have d1 : a.tmps.getD 60 undef = .int .i64 (t : Int) := dep 1 _ _ (by kernel_rfl) rfl rfl _ rfl
      have e1 : a.tmps[60]?.getD undef = .int .i64 (t : Int) := (Array.getD_eq_getD_getElem? ..).symm.trans d1
      have d8 : a.tmps.getD 67 undef = .pointer (some ⟨pb, 1, none⟩) := dep 8 _ _ (by kernel_rfl) rfl rfl _ rfl
      have e8 : a.tmps[67]?.getD undef = .pointer (some ⟨pb, 1, none⟩) := (Array.getD_eq_getD_getElem? ..).symm.trans d8
      refine wp_yields (v := .pointer (some ⟨pb, 1 + t, none⟩)) (w' := w2) ?_ (fun u hu => Option.some.inj (Option.some.inj hu)) (phased_quiet hLi (by rfl) hph)
      clear dep old ho hsz hph hnot hyes hLi
      go_simp
    | 10, ho =>
      obtain rfl := Option.some.inj ho
      rw [if_pos (wanted_none rfl)]
      have d9 : a.tmps.getD 68 undef = .pointer (some ⟨pb, 1 + t, none⟩) := dep 9 _ _ (by kernel_rfl) rfl rfl _ rfl
      have e9 : a.tmps[68]?.getD undef = .pointer (some ⟨pb, 1 + t, none⟩) := (Array.getD_eq_getD_getElem? ..).symm.trans d9
      unfold phased at hph
      rw [if_neg (by rw [hLi]; decide)] at hph
      unfold phased at hph
      rw [if_pos (hyes 6 (by kernel_rfl))] at hph
      obtain ⟨_, A2, cc2, ev, hs⟩ := hph
      have ev2 : a.tmps.getD 65 undef = .slice A2 r cc2 := ev
      have ev3 : a.tmps[65]?.getD undef = .slice A2 r cc2 := (Array.getD_eq_getD_getElem? ..).symm.trans ev2
      obtain ⟨c0, _, f0, _⟩ := PL.cells hs H4.out
      refine wp_skips (w' := w2.setCell ⟨pb, 1 + t, none⟩ (.slice A2 r cc2)) ?_ (fun u hu => by cases Option.some.inj hu) ?_
      · clear dep old ho hsz hnot hyes hLi ev ev2 hs
        go_simp
      · unfold phased
        rw [if_pos (by simp [also])]
        exact ⟨by simp [also, hyes 9 (by kernel_rfl)], A2, cc2, PL.storeLo hs H4.out _⟩
    | i + 11, ho => exact absurd ho (by simp)
  · intro a w4 hph hsz hdf fin keep
    obtain ⟨tm, df⟩ := a
    have hx := frame_of [59, 60, 61, 62, 63, 64, 65, 66, 67, 68] (by kernel_rfl) hsz keep
    dsimp only at hdf hx
    simp only [List.foldl_cons, List.foldl_nil] at hx
    subst hdf
    clear hsz keep
    have kn : tm.getD 59 undef = .pointer (some ⟨pb, 0, none⟩) := fin 0 _ _ rfl rfl _ rfl
    rw [kn] at hx
    clear kn
    have kn : tm.getD 60 undef = .int .i64 (t : Int) := fin 1 _ _ rfl rfl _ rfl
    rw [kn] at hx
    clear kn
    have kn : tm.getD 61 undef = .slice A l c := fin 2 _ _ rfl rfl _ rfl
    rw [kn] at hx
    clear kn
    have kn : tm.getD 62 undef = .int .i64 (r : Int) := fin 3 _ _ rfl rfl _ rfl
    rw [kn] at hx
    clear kn
    have kn : tm.getD 63 undef = .slice A l c := fin 4 _ _ rfl rfl _ rfl
    rw [kn] at hx
    clear kn
    have kn : tm.getD 64 undef = .int .i64 (l : Int) := fin 5 _ _ rfl rfl _ rfl
    rw [kn] at hx
    clear kn
    generalize tm.getD 65 undef = y65 at hx
    have kn : tm.getD 66 undef = .pointer (some ⟨pb, 0, none⟩) := fin 7 _ _ rfl rfl _ rfl
    rw [kn] at hx
    clear kn
    have kn : tm.getD 67 undef = .pointer (some ⟨pb, 1, none⟩) := fin 8 _ _ rfl rfl _ rfl
    rw [kn] at hx
    clear kn
    have kn : tm.getD 68 undef = .pointer (some ⟨pb, 1 + t, none⟩) := fin 9 _ _ rfl rfl _ rfl
    rw [kn] at hx
    clear kn
    clear fin
    simp only [List.setIfInBounds_toArray, List.set_cons_succ, List.set_cons_zero] at hx
    subst hx
    unfold phased at hph
    rw [if_pos rfl] at hph
    obtain ⟨_, hph⟩ := hph
    obtain ⟨A9, c9, hs⟩ := hph
    have HQ := hide hs
    clear hs
    go_wp2
    go_end0
    exact ⟨rfl, _, _, HQ.out⟩
set_option maxHeartbeats 8000000 in
theorem follow_all5 {A0 w : World} {F0 : Nat → Prop} {R : Res} {pb fr t l : Nat} {vs : Nat → Value} {os : Nat → Bool} {ls : Nat → List Ch} {x : Ei} (h : Ow A0 F0 w (PL R pb fr vs vs os ls)) (ht : x.r.t = t) (h4 : t < 4) (hll : (ls t).length = l) (hl : l ≤ 100000) (hk : x.r.k = 5) :
    Calls Try.prog 17 #[.pointer (some ⟨pb, 0, none⟩), .agg x.vc] w fun e w' => e = .returned (.tuple #[]) ∧ ∃ A9 c9, Ow A0 F0 w' (PL R pb fr (setN vs t (.slice A9 0 c9)) (setN vs t (.slice A9 0 c9)) (setN os t false) (setN ls t ((ls t).take 0))) := by
  have g2 : ((x.r.k : Int) == 2) = false := by rw [beq_eq_false_iff_ne]; omega
  have g3 : ((x.r.k : Int) == 3) = false := by rw [beq_eq_false_iff_ne]; omega
  have g4 : ((x.r.k : Int) == 4) = false := by rw [beq_eq_false_iff_ne]; omega
  have g5 : ((x.r.k : Int) == 5) = true := by rw [hk]; rfl
  obtain ⟨A, c, e⟩ := (h.rowsAt (i := 2) rfl h4).form
  rw [hll] at e
  unfold Ei.vc
  rw [ht]
  have SB := h.below ((Below.refl _ w).alloc (Nat.le_refl _) (.cells #[.int .i64 (x.r.k : Int), .int .i64 (t : Int), .int .i64 (x.r.p : Int), .int .i64 (x.r.s : Int), .string x.r.b, .string x.r.a, .string x.r.i, .slice x.A x.r.ds.length x.c, .int .u64 (x.pl : Int)] 40))
  have hpb : pb < w.heap.size := (h.blk (i := 1) rfl).lt
  have HXB : Blk (w.alloc (.cells #[.int .i64 (x.r.k : Int), .int .i64 (t : Int), .int .i64 (x.r.p : Int), .int .i64 (x.r.s : Int), .string x.r.b, .string x.r.a, .string x.r.i, .slice x.A x.r.ds.length x.c, .int .u64 (x.pl : Int)] 40)) w.heap.size 40 #[.int .i64 (x.r.k : Int), .int .i64 (t : Int), .int .i64 (x.r.p : Int), .int .i64 (x.r.s : Int), .string x.r.b, .string x.r.a, .string x.r.i, .slice x.A x.r.ds.length x.c, .int .u64 (x.pl : Int)] := heap_new w _
  obtain ⟨c1, c2, f1, f2⟩ := PL.cells SB h4
  rw [e] at c1
  have q4 : (t : Int) < 4 := by omega
  have q0 : (0 : Int) ≤ (t : Int) := by omega
  have ql : (l : Int) ≤ 100000 := by omega
  have H4 := hide h4
  have SP := PL.storeOp SB h4 false
  have SD : Ow A0 F0 ((w.alloc (.cells #[.int .i64 (x.r.k : Int), .int .i64 (t : Int), .int .i64 (x.r.p : Int), .int .i64 (x.r.s : Int), .string x.r.b, .string x.r.a, .string x.r.i, .slice x.A x.r.ds.length x.c, .int .u64 (x.pl : Int)] 40)).setCell ⟨pb, 5 + t, none⟩ (.bool false)).drew (PL R pb fr vs vs (setN os t false) ls) := SP.below (Below.refl _ _).drew
  have hdel := PL.delete (k := 0) SD h4 hll hl (by omega)
  rw [e] at hdel
  have HD : Hid (Calls Try.prog 19 #[.slice A l c, .int .i64 0, .int .i64 (l : Int)] ((w.alloc (.cells #[.int .i64 (x.r.k : Int), .int .i64 (t : Int), .int .i64 (x.r.p : Int), .int .i64 (x.r.s : Int), .string x.r.b, .string x.r.a, .string x.r.i, .slice x.A x.r.ds.length x.c, .int .u64 (x.pl : Int)] 40)).setCell ⟨pb, 5 + t, none⟩ (.bool false)).drew fun e w2 => ∃ v, e = .returned v ∧ ∃ A9 c9, v = .slice A9 0 c9 ∧ Ow A0 F0 w2 (PL R pb fr vs (setN vs t (.slice A9 0 c9)) (setN os t false) (setN ls t ((ls t).take 0)))) := hide hdel
  obtain ⟨p1, p2, _⟩ := PL.cells SP h4
  rw [e] at p1
  obtain ⟨z, hz⟩ : ∃ z, max ((l : Int) - 1) 0 = z := ⟨_, rfl⟩
  clear SB h e h4 hk hll ht hpb HXB hl hdel SD SP
  go_enter Try.func17, Try.ntmps17
  go_upto_region 14 with (fail)
  refine region_phases (valV [some (.pointer (some ⟨pb, 0, none⟩)), some (.int .i64 (t : Int)), some (.slice A l c), some (.int .i64 0), some (.slice A l c), some (.int .i64 (l : Int)), none, some (.pointer (some ⟨pb, 0, none⟩)), some (.pointer (some ⟨pb, 1, none⟩)), some (.pointer (some ⟨pb, 1 + t, none⟩)), none]) (phased [⟨10, 9, fun _ w2 => ∃ A9 c9, Ow A0 F0 w2 (PL R pb fr (setN vs t (.slice A9 0 c9)) (setN vs t (.slice A9 0 c9)) (setN os t false) (setN ls t ((ls t).take 0)))⟩, ⟨6, 6, fun v w2 => ∃ A9 c9, v = .slice A9 0 c9 ∧ Ow A0 F0 w2 (PL R pb fr vs (setN vs t (.slice A9 0 c9)) (setN os t false) (setN ls t ((ls t).take 0)))⟩] (fun w2 => w2 = ((w.alloc (.cells #[.int .i64 (x.r.k : Int), .int .i64 (t : Int), .int .i64 (x.r.p : Int), .int .i64 (x.r.s : Int), .string x.r.b, .string x.r.a, .string x.r.i, .slice x.A x.r.ds.length x.c, .int .u64 (x.pl : Int)] 40)).setCell ⟨pb, 5 + t, none⟩ (.bool false)).drew)) (by kernel_rfl) (by kernel_rfl) (by kernel_rfl) (by kernel_rfl) (phased_ext (by kernel_rfl)) (rfl) ?_ ?_
  · intro i o ho L a w2 hph hsz hLi hnot hyes old dep
    match i, ho with
    | 0, ho =>
      obtain rfl := Option.some.inj ho
      rw [if_pos (wanted_none rfl)]
      have o0 := old 0 (by kernel_rfl)
      refine wp_yields (v := .pointer (some ⟨pb, 0, none⟩)) (w' := w2) ?_ (fun u hu => Option.some.inj (Option.some.inj hu)) (phased_quiet hLi (by rfl) hph)
      clear dep old ho hsz hph hnot hyes hLi
      go_simp
    | 1, ho =>
      obtain rfl := Option.some.inj ho
      rw [if_pos (wanted_none rfl)]
      have o4 := old 4 (by kernel_rfl)
      refine wp_yields (v := .int .i64 (t : Int)) (w' := w2) ?_ (fun u hu => Option.some.inj (Option.some.inj hu)) (phased_quiet hLi (by rfl) hph)
      clear dep old ho hsz hph hnot hyes hLi
      go_simp
    | 2, ho =>
      obtain rfl := Option.some.inj ho
      rw [if_pos (wanted_none rfl)]
      have o5 := old 5 (by kernel_rfl)
      refine wp_yields (v := .slice A l c) (w' := w2) ?_ (fun u hu => Option.some.inj (Option.some.inj hu)) (phased_quiet hLi (by rfl) hph)
      clear dep old ho hsz hph hnot hyes hLi
      go_simp
    | 3, ho =>
      obtain rfl := Option.some.inj ho
      rw [if_pos (wanted_none rfl)]
      have o6 := old 6 (by kernel_rfl)
      refine wp_yields (v := .int .i64 0) (w' := w2) ?_ (fun u hu => Option.some.inj (Option.some.inj hu)) (phased_quiet hLi (by rfl) hph)
      clear dep old ho hsz hph hnot hyes hLi
      go_simp
    | 4, ho =>
      obtain rfl := Option.some.inj ho
      rw [if_pos (wanted_none rfl)]
      have o5 := old 5 (by kernel_rfl)
      refine wp_yields (v := .slice A l c) (w' := w2) ?_ (fun u hu => Option.some.inj (Option.some.inj hu)) (phased_quiet hLi (by rfl) hph)
      clear dep old ho hsz hph hnot hyes hLi
      go_simp
    | 5, ho =>
      obtain rfl := Option.some.inj ho
      rw [if_pos (wanted_none rfl)]
      have d4 : a.tmps.getD 63 undef = .slice A l c := dep 4 _ _ (by kernel_rfl) rfl rfl _ rfl
      have e4 : a.tmps[63]?.getD undef = .slice A l c := (Array.getD_eq_getD_getElem? ..).symm.trans d4
      refine wp_yields (v := .int .i64 (l : Int)) (w' := w2) ?_ (fun u hu => Option.some.inj (Option.some.inj hu)) (phased_quiet hLi (by rfl) hph)
      clear dep old ho hsz hph hnot hyes hLi
      go_simp
    | 6, ho =>
      obtain rfl := Option.some.inj ho
      rw [if_pos (wanted_none rfl)]
      have d2 : a.tmps.getD 61 undef = .slice A l c := dep 2 _ _ (by kernel_rfl) rfl rfl _ rfl
      have e2 : a.tmps[61]?.getD undef = .slice A l c := (Array.getD_eq_getD_getElem? ..).symm.trans d2
      have d3 : a.tmps.getD 62 undef = .int .i64 0 := dep 3 _ _ (by kernel_rfl) rfl rfl _ rfl
      have e3 : a.tmps[62]?.getD undef = .int .i64 0 := (Array.getD_eq_getD_getElem? ..).symm.trans d3
      have d5 : a.tmps.getD 64 undef = .int .i64 (l : Int) := dep 5 _ _ (by kernel_rfl) rfl rfl _ rfl
      have e5 : a.tmps[64]?.getD undef = .int .i64 (l : Int) := (Array.getD_eq_getD_getElem? ..).symm.trans d5
      unfold phased at hph
      rw [if_neg (by rw [hnot 10 (by kernel_rfl)]; decide)] at hph
      unfold phased at hph
      rw [if_neg (by rw [hLi]; decide)] at hph
      unfold phased at hph
      obtain rfl : w2 = ((w.alloc (.cells #[.int .i64 (x.r.k : Int), .int .i64 (t : Int), .int .i64 (x.r.p : Int), .int .i64 (x.r.s : Int), .string x.r.b, .string x.r.a, .string x.r.i, .slice x.A x.r.ds.length x.c, .int .u64 (x.pl : Int)] 40)).setCell ⟨pb, 5 + t, none⟩ (.bool false)).drew := hph
      have hnt := hnot 10 (by kernel_rfl)
      refine Oper.wp_mono ?_ (last_enters (f := 19) (args := #[.slice A l c, .int .i64 0, .int .i64 (l : Int)]) ?_ HD.out)
      · rintro a' w' ⟨v, rfl, hR⟩
        refine ⟨v, rfl, (fun u hu => by cases Option.some.inj hu), ?_⟩
        unfold phased
        rw [if_neg (by simp [also, hnt])]
        unfold phased
        rw [if_pos (by simp [also])]
        exact ⟨by simp [also], hR⟩
      · clear dep old ho hsz hnot hyes hLi hnt
        go_simp
    | 7, ho =>
      obtain rfl := Option.some.inj ho
      rw [if_pos (wanted_none rfl)]
      have d0 : a.tmps.getD 59 undef = .pointer (some ⟨pb, 0, none⟩) := dep 0 _ _ (by kernel_rfl) rfl rfl _ rfl
      have e0 : a.tmps[59]?.getD undef = .pointer (some ⟨pb, 0, none⟩) := (Array.getD_eq_getD_getElem? ..).symm.trans d0
      refine wp_yields (v := .pointer (some ⟨pb, 0, none⟩)) (w' := w2) ?_ (fun u hu => Option.some.inj (Option.some.inj hu)) (phased_quiet hLi (by rfl) hph)
      clear dep old ho hsz hph hnot hyes hLi
      go_simp
    | 8, ho =>
      obtain rfl := Option.some.inj ho
      rw [if_pos (wanted_none rfl)]
      have d7 : a.tmps.getD 66 undef = .pointer (some ⟨pb, 0, none⟩) := dep 7 _ _ (by kernel_rfl) rfl rfl _ rfl
      have e7 : a.tmps[66]?.getD undef = .pointer (some ⟨pb, 0, none⟩) := (Array.getD_eq_getD_getElem? ..).symm.trans d7
      refine wp_yields (v := .pointer (some ⟨pb, 1, none⟩)) (w' := w2) ?_ (fun u hu => Option.some.inj (Option.some.inj hu)) (phased_quiet hLi (by rfl) hph)
      clear dep old ho hsz hph hnot hyes hLi
      go_simp
    | 9, ho =>
      obtain rfl := Option.some.inj ho
      rw [if_pos (wanted_none rfl)]
      have d1 : a.tmps.getD 60 undef = .int .i64 (t : Int) := dep 1 _ _ (by kernel_rfl) rfl rfl _ rfl
      have e1 : a.tmps[60]?.getD undef = .int .i64 (t : Int) := (Array.getD_eq_getD_getElem? ..).symm.trans d1
      have d8 : a.tmps.getD 67 undef = .pointer (some ⟨pb, 1, none⟩) := dep 8 _ _ (by kernel_rfl) rfl rfl _ rfl
      have e8 : a.tmps[67]?.getD undef = .pointer (some ⟨pb, 1, none⟩) := (Array.getD_eq_getD_getElem? ..).symm.trans d8
      refine wp_yields (v := .pointer (some ⟨pb, 1 + t, none⟩)) (w' := w2) ?_ (fun u hu => Option.some.inj (Option.some.inj hu)) (phased_quiet hLi (by rfl) hph)
      clear dep old ho hsz hph hnot hyes hLi
      go_simp
    | 10, ho =>
      obtain rfl := Option.some.inj ho
      rw [if_pos (wanted_none rfl)]
      have d9 : a.tmps.getD 68 undef = .pointer (some ⟨pb, 1 + t, none⟩) := dep 9 _ _ (by kernel_rfl) rfl rfl _ rfl
      have e9 : a.tmps[68]?.getD undef = .pointer (some ⟨pb, 1 + t, none⟩) := (Array.getD_eq_getD_getElem? ..).symm.trans d9
      unfold phased at hph
      rw [if_neg (by rw [hLi]; decide)] at hph
      unfold phased at hph
      rw [if_pos (hyes 6 (by kernel_rfl))] at hph
      obtain ⟨_, A2, cc2, ev, hs⟩ := hph
      have ev2 : a.tmps.getD 65 undef = .slice A2 0 cc2 := ev
      have ev3 : a.tmps[65]?.getD undef = .slice A2 0 cc2 := (Array.getD_eq_getD_getElem? ..).symm.trans ev2
      obtain ⟨c0, _, f0, _⟩ := PL.cells hs H4.out
      refine wp_skips (w' := w2.setCell ⟨pb, 1 + t, none⟩ (.slice A2 0 cc2)) ?_ (fun u hu => by cases Option.some.inj hu) ?_
      · clear dep old ho hsz hnot hyes hLi ev ev2 hs
        go_simp
      · unfold phased
        rw [if_pos (by simp [also])]
        exact ⟨by simp [also, hyes 9 (by kernel_rfl)], A2, cc2, PL.storeLo hs H4.out _⟩
    | i + 11, ho => exact absurd ho (by simp)
  · intro a w4 hph hsz hdf fin keep
    obtain ⟨tm, df⟩ := a
    have hx := frame_of [59, 60, 61, 62, 63, 64, 65, 66, 67, 68] (by kernel_rfl) hsz keep
    dsimp only at hdf hx
    simp only [List.foldl_cons, List.foldl_nil] at hx
    subst hdf
    clear hsz keep
    have kn : tm.getD 59 undef = .pointer (some ⟨pb, 0, none⟩) := fin 0 _ _ rfl rfl _ rfl
    rw [kn] at hx
    clear kn
    have kn : tm.getD 60 undef = .int .i64 (t : Int) := fin 1 _ _ rfl rfl _ rfl
    rw [kn] at hx
    clear kn
    have kn : tm.getD 61 undef = .slice A l c := fin 2 _ _ rfl rfl _ rfl
    rw [kn] at hx
    clear kn
    have kn : tm.getD 62 undef = .int .i64 0 := fin 3 _ _ rfl rfl _ rfl
    rw [kn] at hx
    clear kn
    have kn : tm.getD 63 undef = .slice A l c := fin 4 _ _ rfl rfl _ rfl
    rw [kn] at hx
    clear kn
    have kn : tm.getD 64 undef = .int .i64 (l : Int) := fin 5 _ _ rfl rfl _ rfl
    rw [kn] at hx
    clear kn
    generalize tm.getD 65 undef = y65 at hx
    have kn : tm.getD 66 undef = .pointer (some ⟨pb, 0, none⟩) := fin 7 _ _ rfl rfl _ rfl
    rw [kn] at hx
    clear kn
    have kn : tm.getD 67 undef = .pointer (some ⟨pb, 1, none⟩) := fin 8 _ _ rfl rfl _ rfl
    rw [kn] at hx
    clear kn
    have kn : tm.getD 68 undef = .pointer (some ⟨pb, 1 + t, none⟩) := fin 9 _ _ rfl rfl _ rfl
    rw [kn] at hx
    clear kn
    clear fin
    simp only [List.setIfInBounds_toArray, List.set_cons_succ, List.set_cons_zero] at hx
    subst hx
    unfold phased at hph
    rw [if_pos rfl] at hph
    obtain ⟨_, hph⟩ := hph
    obtain ⟨A9, c9, hs⟩ := hph
    have HQ := hide hs
    clear hs
    go_wp2
    go_end0
    exact ⟨rfl, _, _, HQ.out⟩
set_option maxHeartbeats 8000000 in
theorem follow_all6 {A0 w : World} {F0 : Nat → Prop} {R : Res} {pb fr t l : Nat} {vs : Nat → Value} {os : Nat → Bool} {ls : Nat → List Ch} {x : Ei} (h : Ow A0 F0 w (PL R pb fr vs vs os ls)) (ht : x.r.t = t) (h4 : t < 4) (hll : (ls t).length = l) (hl : l ≤ 100000) (hk : x.r.k = 6) :
    Calls Try.prog 17 #[.pointer (some ⟨pb, 0, none⟩), .agg x.vc] w fun e w' => e = .returned (.tuple #[]) ∧ ∃ A9 c9, Ow A0 F0 w' (PL R pb fr (setN vs t (.slice A9 0 c9)) (setN vs t (.slice A9 0 c9)) (setN os t false) (setN ls t ((ls t).take 0))) := by
  have g2 : ((x.r.k : Int) == 2) = false := by rw [beq_eq_false_iff_ne]; omega
  have g3 : ((x.r.k : Int) == 3) = false := by rw [beq_eq_false_iff_ne]; omega
  have g4 : ((x.r.k : Int) == 4) = false := by rw [beq_eq_false_iff_ne]; omega
  have g5 : ((x.r.k : Int) == 5) = false := by rw [beq_eq_false_iff_ne]; omega
  have g6 : ((x.r.k : Int) == 6) = true := by rw [hk]; rfl
  obtain ⟨A, c, e⟩ := (h.rowsAt (i := 2) rfl h4).form
  rw [hll] at e
  unfold Ei.vc
  rw [ht]
  have SB := h.below ((Below.refl _ w).alloc (Nat.le_refl _) (.cells #[.int .i64 (x.r.k : Int), .int .i64 (t : Int), .int .i64 (x.r.p : Int), .int .i64 (x.r.s : Int), .string x.r.b, .string x.r.a, .string x.r.i, .slice x.A x.r.ds.length x.c, .int .u64 (x.pl : Int)] 40))
  have hpb : pb < w.heap.size := (h.blk (i := 1) rfl).lt
  have HXB : Blk (w.alloc (.cells #[.int .i64 (x.r.k : Int), .int .i64 (t : Int), .int .i64 (x.r.p : Int), .int .i64 (x.r.s : Int), .string x.r.b, .string x.r.a, .string x.r.i, .slice x.A x.r.ds.length x.c, .int .u64 (x.pl : Int)] 40)) w.heap.size 40 #[.int .i64 (x.r.k : Int), .int .i64 (t : Int), .int .i64 (x.r.p : Int), .int .i64 (x.r.s : Int), .string x.r.b, .string x.r.a, .string x.r.i, .slice x.A x.r.ds.length x.c, .int .u64 (x.pl : Int)] := heap_new w _
  obtain ⟨c1, c2, f1, f2⟩ := PL.cells SB h4
  rw [e] at c1
  have q4 : (t : Int) < 4 := by omega
  have q0 : (0 : Int) ≤ (t : Int) := by omega
  have ql : (l : Int) ≤ 100000 := by omega
  have H4 := hide h4
  have SP := PL.storeOp SB h4 false
  have SD : Ow A0 F0 ((w.alloc (.cells #[.int .i64 (x.r.k : Int), .int .i64 (t : Int), .int .i64 (x.r.p : Int), .int .i64 (x.r.s : Int), .string x.r.b, .string x.r.a, .string x.r.i, .slice x.A x.r.ds.length x.c, .int .u64 (x.pl : Int)] 40)).setCell ⟨pb, 5 + t, none⟩ (.bool false)).drew (PL R pb fr vs vs (setN os t false) ls) := SP.below (Below.refl _ _).drew
  have hdel := PL.delete (k := 0) SD h4 hll hl (by omega)
  rw [e] at hdel
  have HD : Hid (Calls Try.prog 19 #[.slice A l c, .int .i64 0, .int .i64 (l : Int)] ((w.alloc (.cells #[.int .i64 (x.r.k : Int), .int .i64 (t : Int), .int .i64 (x.r.p : Int), .int .i64 (x.r.s : Int), .string x.r.b, .string x.r.a, .string x.r.i, .slice x.A x.r.ds.length x.c, .int .u64 (x.pl : Int)] 40)).setCell ⟨pb, 5 + t, none⟩ (.bool false)).drew fun e w2 => ∃ v, e = .returned v ∧ ∃ A9 c9, v = .slice A9 0 c9 ∧ Ow A0 F0 w2 (PL R pb fr vs (setN vs t (.slice A9 0 c9)) (setN os t false) (setN ls t ((ls t).take 0)))) := hide hdel
  obtain ⟨p1, p2, _⟩ := PL.cells SP h4
  rw [e] at p1
  obtain ⟨z, hz⟩ : ∃ z, max ((l : Int) - 1) 0 = z := ⟨_, rfl⟩
  clear SB h e h4 hk hll ht hpb HXB hl hdel SD SP
  go_enter Try.func17, Try.ntmps17
  go_upto_region 14 with (fail)
  refine region_phases (valV [some (.pointer (some ⟨pb, 0, none⟩)), some (.int .i64 (t : Int)), some (.slice A l c), some (.int .i64 0), some (.slice A l c), some (.int .i64 (l : Int)), none, some (.pointer (some ⟨pb, 0, none⟩)), some (.pointer (some ⟨pb, 1, none⟩)), some (.pointer (some ⟨pb, 1 + t, none⟩)), none]) (phased [⟨10, 9, fun _ w2 => ∃ A9 c9, Ow A0 F0 w2 (PL R pb fr (setN vs t (.slice A9 0 c9)) (setN vs t (.slice A9 0 c9)) (setN os t false) (setN ls t ((ls t).take 0)))⟩, ⟨6, 6, fun v w2 => ∃ A9 c9, v = .slice A9 0 c9 ∧ Ow A0 F0 w2 (PL R pb fr vs (setN vs t (.slice A9 0 c9)) (setN os t false) (setN ls t ((ls t).take 0)))⟩] (fun w2 => w2 = ((w.alloc (.cells #[.int .i64 (x.r.k : Int), .int .i64 (t : Int), .int .i64 (x.r.p : Int), .int .i64 (x.r.s : Int), .string x.r.b, .string x.r.a, .string x.r.i, .slice x.A x.r.ds.length x.c, .int .u64 (x.pl : Int)] 40)).setCell ⟨pb, 5 + t, none⟩ (.bool false)).drew)) (by kernel_rfl) (by kernel_rfl) (by kernel_rfl) (by kernel_rfl) (phased_ext (by kernel_rfl)) (rfl) ?_ ?_
  · intro i o ho L a w2 hph hsz hLi hnot hyes old dep
    match i, ho with
    | 0, ho =>
      obtain rfl := Option.some.inj ho
      rw [if_pos (wanted_none rfl)]
      have o0 := old 0 (by kernel_rfl)
      refine wp_yields (v := .pointer (some ⟨pb, 0, none⟩)) (w' := w2) ?_ (fun u hu => Option.some.inj (Option.some.inj hu)) (phased_quiet hLi (by rfl) hph)
      clear dep old ho hsz hph hnot hyes hLi
      go_simp
    | 1, ho =>
      obtain rfl := Option.some.inj ho
      rw [if_pos (wanted_none rfl)]
      have o4 := old 4 (by kernel_rfl)
      refine wp_yields (v := .int .i64 (t : Int)) (w' := w2) ?_ (fun u hu => Option.some.inj (Option.some.inj hu)) (phased_quiet hLi (by rfl) hph)
      clear dep old ho hsz hph hnot hyes hLi
      go_simp
    | 2, ho =>
      obtain rfl := Option.some.inj ho
      rw [if_pos (wanted_none rfl)]
      have o5 := old 5 (by kernel_rfl)
      refine wp_yields (v := .slice A l c) (w' := w2) ?_ (fun u hu => Option.some.inj (Option.some.inj hu)) (phased_quiet hLi (by rfl) hph)
      clear dep old ho hsz hph hnot hyes hLi
      go_simp
    | 3, ho =>
      obtain rfl := Option.some.inj ho
      rw [if_pos (wanted_none rfl)]
      have o6 := old 6 (by kernel_rfl)
      refine wp_yields (v := .int .i64 0) (w' := w2) ?_ (fun u hu => Option.some.inj (Option.some.inj hu)) (phased_quiet hLi (by rfl) hph)
      clear dep old ho hsz hph hnot hyes hLi
      go_simp
    | 4, ho =>
      obtain rfl := Option.some.inj ho
      rw [if_pos (wanted_none rfl)]
      have o5 := old 5 (by kernel_rfl)
      refine wp_yields (v := .slice A l c) (w' := w2) ?_ (fun u hu => Option.some.inj (Option.some.inj hu)) (phased_quiet hLi (by rfl) hph)
      clear dep old ho hsz hph hnot hyes hLi
      go_simp
    | 5, ho =>
      obtain rfl := Option.some.inj ho
      rw [if_pos (wanted_none rfl)]
      have d4 : a.tmps.getD 63 undef = .slice A l c := dep 4 _ _ (by kernel_rfl) rfl rfl _ rfl
      have e4 : a.tmps[63]?.getD undef = .slice A l c := (Array.getD_eq_getD_getElem? ..).symm.trans d4
      refine wp_yields (v := .int .i64 (l : Int)) (w' := w2) ?_ (fun u hu => Option.some.inj (Option.some.inj hu)) (phased_quiet hLi (by rfl) hph)
      clear dep old ho hsz hph hnot hyes hLi
      go_simp
    | 6, ho =>
      obtain rfl := Option.some.inj ho
      rw [if_pos (wanted_none rfl)]
      have d2 : a.tmps.getD 61 undef = .slice A l c := dep 2 _ _ (by kernel_rfl) rfl rfl _ rfl
      have e2 : a.tmps[61]?.getD undef = .slice A l c := (Array.getD_eq_getD_getElem? ..).symm.trans d2
      have d3 : a.tmps.getD 62 undef = .int .i64 0 := dep 3 _ _ (by kernel_rfl) rfl rfl _ rfl
      have e3 : a.tmps[62]?.getD undef = .int .i64 0 := (Array.getD_eq_getD_getElem? ..).symm.trans d3
      have d5 : a.tmps.getD 64 undef = .int .i64 (l : Int) := dep 5 _ _ (by kernel_rfl) rfl rfl _ rfl
      have e5 : a.tmps[64]?.getD undef = .int .i64 (l : Int) := (Array.getD_eq_getD_getElem? ..).symm.trans d5
      unfold phased at hph
      rw [if_neg (by rw [hnot 10 (by kernel_rfl)]; decide)] at hph
      unfold phased at hph
      rw [if_neg (by rw [hLi]; decide)] at hph
      unfold phased at hph
      obtain rfl : w2 = ((w.alloc (.cells #[.int .i64 (x.r.k : Int), .int .i64 (t : Int), .int .i64 (x.r.p : Int), .int .i64 (x.r.s : Int), .string x.r.b, .string x.r.a, .string x.r.i, .slice x.A x.r.ds.length x.c, .int .u64 (x.pl : Int)] 40)).setCell ⟨pb, 5 + t, none⟩ (.bool false)).drew := hph
      have hnt := hnot 10 (by kernel_rfl)
      refine Oper.wp_mono ?_ (last_enters (f := 19) (args := #[.slice A l c, .int .i64 0, .int .i64 (l : Int)]) ?_ HD.out)
      · rintro a' w' ⟨v, rfl, hR⟩
        refine ⟨v, rfl, (fun u hu => by cases Option.some.inj hu), ?_⟩
        unfold phased
        rw [if_neg (by simp [also, hnt])]
        unfold phased
        rw [if_pos (by simp [also])]
        exact ⟨by simp [also], hR⟩
      · clear dep old ho hsz hnot hyes hLi hnt
        go_simp
    | 7, ho =>
      obtain rfl := Option.some.inj ho
      rw [if_pos (wanted_none rfl)]
      have d0 : a.tmps.getD 59 undef = .pointer (some ⟨pb, 0, none⟩) := dep 0 _ _ (by kernel_rfl) rfl rfl _ rfl
      have e0 : a.tmps[59]?.getD undef = .pointer (some ⟨pb, 0, none⟩) := (Array.getD_eq_getD_getElem? ..).symm.trans d0
      refine wp_yields (v := .pointer (some ⟨pb, 0, none⟩)) (w' := w2) ?_ (fun u hu => Option.some.inj (Option.some.inj hu)) (phased_quiet hLi (by rfl) hph)
      clear dep old ho hsz hph hnot hyes hLi
      go_simp
    | 8, ho =>
      obtain rfl := Option.some.inj ho
      rw [if_pos (wanted_none rfl)]
      have d7 : a.tmps.getD 66 undef = .pointer (some ⟨pb, 0, none⟩) := dep 7 _ _ (by kernel_rfl) rfl rfl _ rfl
      have e7 : a.tmps[66]?.getD undef = .pointer (some ⟨pb, 0, none⟩) := (Array.getD_eq_getD_getElem? ..).symm.trans d7
      refine wp_yields (v := .pointer (some ⟨pb, 1, none⟩)) (w' := w2) ?_ (fun u hu => Option.some.inj (Option.some.inj hu)) (phased_quiet hLi (by rfl) hph)
      clear dep old ho hsz hph hnot hyes hLi
      go_simp
    | 9, ho =>
      obtain rfl := Option.some.inj ho
      rw [if_pos (wanted_none rfl)]
      have d1 : a.tmps.getD 60 undef = .int .i64 (t : Int) := dep 1 _ _ (by kernel_rfl) rfl rfl _ rfl
      have e1 : a.tmps[60]?.getD undef = .int .i64 (t : Int) := (Array.getD_eq_getD_getElem? ..).symm.trans d1
      have d8 : a.tmps.getD 67 undef = .pointer (some ⟨pb, 1, none⟩) := dep 8 _ _ (by kernel_rfl) rfl rfl _ rfl
      have e8 : a.tmps[67]?.getD undef = .pointer (some ⟨pb, 1, none⟩) := (Array.getD_eq_getD_getElem? ..).symm.trans d8
      refine wp_yields (v := .pointer (some ⟨pb, 1 + t, none⟩)) (w' := w2) ?_ (fun u hu => Option.some.inj (Option.some.inj hu)) (phased_quiet hLi (by rfl) hph)
      clear dep old ho hsz hph hnot hyes hLi
      go_simp
    | 10, ho =>
      obtain rfl := Option.some.inj ho
      rw [if_pos (wanted_none rfl)]
      have d9 : a.tmps.getD 68 undef = .pointer (some ⟨pb, 1 + t, none⟩) := dep 9 _ _ (by kernel_rfl) rfl rfl _ rfl
      have e9 : a.tmps[68]?.getD undef = .pointer (some ⟨pb, 1 + t, none⟩) := (Array.getD_eq_getD_getElem? ..).symm.trans d9
      unfold phased at hph
      rw [if_neg (by rw [hLi]; decide)] at hph
      unfold phased at hph
      rw [if_pos (hyes 6 (by kernel_rfl))] at hph
      obtain ⟨_, A2, cc2, ev, hs⟩ := hph
      have ev2 : a.tmps.getD 65 undef = .slice A2 0 cc2 := ev
      have ev3 : a.tmps[65]?.getD undef = .slice A2 0 cc2 := (Array.getD_eq_getD_getElem? ..).symm.trans ev2
      obtain ⟨c0, _, f0, _⟩ := PL.cells hs H4.out
      refine wp_skips (w' := w2.setCell ⟨pb, 1 + t, none⟩ (.slice A2 0 cc2)) ?_ (fun u hu => by cases Option.some.inj hu) ?_
      · clear dep old ho hsz hnot hyes hLi ev ev2 hs
        go_simp
      · unfold phased
        rw [if_pos (by simp [also])]
        exact ⟨by simp [also, hyes 9 (by kernel_rfl)], A2, cc2, PL.storeLo hs H4.out _⟩
    | i + 11, ho => exact absurd ho (by simp)
  · intro a w4 hph hsz hdf fin keep
    obtain ⟨tm, df⟩ := a
    have hx := frame_of [59, 60, 61, 62, 63, 64, 65, 66, 67, 68] (by kernel_rfl) hsz keep
    dsimp only at hdf hx
    simp only [List.foldl_cons, List.foldl_nil] at hx
    subst hdf
    clear hsz keep
    have kn : tm.getD 59 undef = .pointer (some ⟨pb, 0, none⟩) := fin 0 _ _ rfl rfl _ rfl
    rw [kn] at hx
    clear kn
    have kn : tm.getD 60 undef = .int .i64 (t : Int) := fin 1 _ _ rfl rfl _ rfl
    rw [kn] at hx
    clear kn
    have kn : tm.getD 61 undef = .slice A l c := fin 2 _ _ rfl rfl _ rfl
    rw [kn] at hx
    clear kn
    have kn : tm.getD 62 undef = .int .i64 0 := fin 3 _ _ rfl rfl _ rfl
    rw [kn] at hx
    clear kn
    have kn : tm.getD 63 undef = .slice A l c := fin 4 _ _ rfl rfl _ rfl
    rw [kn] at hx
    clear kn
    have kn : tm.getD 64 undef = .int .i64 (l : Int) := fin 5 _ _ rfl rfl _ rfl
    rw [kn] at hx
    clear kn
    generalize tm.getD 65 undef = y65 at hx
    have kn : tm.getD 66 undef = .pointer (some ⟨pb, 0, none⟩) := fin 7 _ _ rfl rfl _ rfl
    rw [kn] at hx
    clear kn
    have kn : tm.getD 67 undef = .pointer (some ⟨pb, 1, none⟩) := fin 8 _ _ rfl rfl _ rfl
    rw [kn] at hx
    clear kn
    have kn : tm.getD 68 undef = .pointer (some ⟨pb, 1 + t, none⟩) := fin 9 _ _ rfl rfl _ rfl
    rw [kn] at hx
    clear kn
    clear fin
    simp only [List.setIfInBounds_toArray, List.set_cons_succ, List.set_cons_zero] at hx
    subst hx
    unfold phased at hph
    rw [if_pos rfl] at hph
    obtain ⟨_, hph⟩ := hph
    obtain ⟨A9, c9, hs⟩ := hph
    have HQ := hide hs
    clear hs
    go_wp2
    go_end0
    exact ⟨rfl, _, _, HQ.out⟩
theorem setN_self {β : Type} {f : Nat → β} {t : Nat} {x : β} (h : f t = x) : setN f t x = f := by rw [← h]; exact setN_same f t
/-- One of a transaction, whatever it is. -/
theorem follow_any {A0 w : World} {F0 : Nat → Prop} {R : Res} {pb fr t : Nat} {vs : Nat → Value} {os : Nat → Bool} {ls : Nat → List Ch} {x : Ei} (h : Ow A0 F0 w (PL R pb fr vs vs os ls)) (ht : x.r.t = t) (h4 : t < 4) (hl : (ls t).length ≤ 100000) :
    Calls Try.prog 17 #[.pointer (some ⟨pb, 0, none⟩), .agg x.vc] w fun e w' => e = .returned (.tuple #[]) ∧ ∃ vs', Ow A0 F0 w' (PL R pb fr vs' vs' (setN os t (opS t (os t) x.r)) (setN ls t (loS t (ls t) x.r))) := by
  by_cases k2 : x.r.k = 2
  · rw [show opS t (os t) x.r = true by unfold opS; rw [if_pos ht, if_pos (.inl k2)], show loS t (ls t) x.r = ls t ++ [chOf x.r] by unfold loS; rw [if_pos ht, if_pos (.inl k2)]]
    exact (follow_add2 h ht h4 rfl hl k2).mono fun _ _ ⟨h1, A9, c9, h2⟩ => ⟨h1, _, h2⟩
  by_cases k3 : x.r.k = 3
  · rw [show opS t (os t) x.r = true by unfold opS; rw [if_pos ht, if_pos (.inr k3)], show loS t (ls t) x.r = ls t ++ [chOf x.r] by unfold loS; rw [if_pos ht, if_pos (.inr k3)]]
    exact (follow_add3 h ht h4 rfl hl k3).mono fun _ _ ⟨h1, A9, c9, h2⟩ => ⟨h1, _, h2⟩
  have k23 : ¬ (x.r.k = 2 ∨ x.r.k = 3) := fun e => e.elim k2 k3
  by_cases k4 : x.r.k = 4
  · rw [show opS t (os t) x.r = os t by unfold opS; rw [if_pos ht, if_neg k23, if_neg (by omega)], show loS t (ls t) x.r = (ls t).take ((ls t).length - 1) by unfold loS; rw [if_pos ht, if_neg k23, if_pos k4, List.dropLast_eq_take], setN_same]
    exact (follow_cut h ht h4 rfl hl k4).mono fun _ _ ⟨h1, A9, c9, h2⟩ => ⟨h1, _, h2⟩
  by_cases k5 : x.r.k = 5
  · rw [show opS t (os t) x.r = false by unfold opS; rw [if_pos ht, if_neg k23, if_pos (.inl k5)], show loS t (ls t) x.r = (ls t).take 0 by unfold loS; rw [if_pos ht, if_neg k23, if_neg k4, if_pos (.inl k5)]; rfl]
    exact (follow_all5 h ht h4 rfl hl k5).mono fun _ _ ⟨h1, A9, c9, h2⟩ => ⟨h1, _, h2⟩
  by_cases k6 : x.r.k = 6
  · rw [show opS t (os t) x.r = false by unfold opS; rw [if_pos ht, if_neg k23, if_pos (.inr k6)], show loS t (ls t) x.r = (ls t).take 0 by unfold loS; rw [if_pos ht, if_neg k23, if_neg k4, if_pos (.inr k6)]; rfl]
    exact (follow_all6 h ht h4 rfl hl k6).mono fun _ _ ⟨h1, A9, c9, h2⟩ => ⟨h1, _, h2⟩
  · rw [show opS t (os t) x.r = os t by unfold opS; rw [if_pos ht, if_neg k23, if_neg (by omega)], show loS t (ls t) x.r = ls t by unfold loS; rw [if_pos ht, if_neg k23, if_neg k4, if_neg (by omega)], setN_same, setN_same]
    exact (follow_none h ht h4 rfl hl ⟨k2, k3, k4, k5, k6⟩).mono fun _ _ ⟨h1, h2⟩ => ⟨h1, _, h2⟩
end Go.Proofs.Ytoifghofkjomnaa
