/-
  The walk of IndexRuns.
-/
import Derived.Test.YtkcomkllnhdohaaLoop9
namespace Go.Proofs.Ytkcomkllnhdohaa
open Go.RowKit Go.Shelf
set_option linter.unusedSimpArgs false
set_option linter.unusedVariables false
attribute [local go_sem] Oper.semAt_some

set_option maxRecDepth 20000 in
set_option maxHeartbeats 16000000 in
theorem runs_walk (v : Value) (cs : List ICall) (w : World) (hv : ICallRow w w.heap.size v cs) : Calls Try.prog 3 #[v] w fun e w' => e = .returned (.bool true) ∧ Below w.heap.size w w' := by
  have S0 : Hid (Ow w (fun _ => False) (w.alloc (.cells #[.bool false] 4)) [.blk w.heap.size 4 #[.bool false]]) := hide ((Ow.start w).box 4 #[.bool false])
  obtain ⟨⟨A0, cap, rfl, hlc, _⟩, _⟩ := id hv
  have HV := hide hv
  clear hv
  have hmm := @run_makeMap Try.prog
  cases hl : lightB cs
  · have HL := hide hl
    clear hl hlc hmm
    refine (callsIn_wide (n := 4)).1 ?_
    refine callsIn_of_wp_marks Try.func3 rfl trivial ?_ rfl
    refine wpIn_wide.2 ?_
    simp only [Try.ntmps3, List.size_toArray, List.length_cons, List.length_nil, Nat.reduceAdd, Nat.reduceSub, Array.replicate_succ, Array.replicate_zero, List.push_toArray, List.append_toArray, List.nil_append, List.cons_append]
    go_wp2_with (first
      | (go_at_call 10; (with_reducible refine (fit_any _).mono ?_); rintro e w1 ⟨rfl, hb⟩; have S1 := hide (S0.out.below hb); clear hb)
      | (go_at_call 11; (with_reducible refine (light_any (HV.out.below_all S1.out.bel)).mono ?_); rw [HL.out]; rintro e w2 ⟨rfl, hb⟩; have S2 := hide (S1.out.below hb); have r0 := (S2.out.blk (i := 0) rfl).cell 0 _ rfl; have r1 := (S2.out.blk (i := 0) rfl).frozen 0; have rl := (S2.out.blk (i := 0) rfl).lt; clear hb))
    exact ⟨.bool true, by simp [results, Try.results3, go_sem, r0, r1], rfl, (S2.out.set_ (i := 0) rfl 0 (.bool true)).bel⟩
  · have HL := hide hl
    have HFEW := hide (lightB_few hl)
    have hfew : (cs.length : Int) ≤ 120 := by have := lightB_few hl; omega
    clear hl hlc
    refine (callsIn_wide (n := 4)).1 ?_
    refine callsIn_of_wp_marks Try.func3 rfl trivial ?_ rfl
    refine wpIn_wide.2 ?_
    simp only [Try.ntmps3, List.size_toArray, List.length_cons, List.length_nil, Nat.reduceAdd, Nat.reduceSub, Array.replicate_succ, Array.replicate_zero, List.push_toArray, List.append_toArray, List.nil_append, List.cons_append]
    go_wp2_with (first
      | (go_at_call 10; (with_reducible refine (fit_any _).mono ?_); rintro e w1 ⟨rfl, hb⟩; have S1 := hide (S0.out.below hb); clear hb)
      | (go_at_call 11; (with_reducible refine (light_any (HV.out.below_all S1.out.bel)).mono ?_); rw [HL.out]; rintro e w2 ⟨rfl, hb⟩; have S2 := hide (S1.out.below hb); have r0 := (S2.out.blk (i := 0) rfl).cell 0 _ rfl; have r1 := (S2.out.blk (i := 0) rfl).frozen 0; have rl := (S2.out.blk (i := 0) rfl).lt; clear hb))
    have S3 : Hid (Ow w (fun _ => False) ((w2.alloc (.cells #[.slice none 0 0] 27)).alloc (.map #[] 0)) [.blk w.heap.size 4 #[.bool false], .ix w2.heap.size [], .map (w2.heap.size + 1) 0 (fun _ => none) 0]) := hide (by
      have h := S2.out.newix.newmap
      rw [World.size_alloc] at h
      exact h)
    clear r0 r1 rl S2 S1 S0 hmm
    generalize ((w2.alloc (.cells #[.slice none 0 0] 27)).alloc (.map #[] 0)) = w3 at *
    generalize hb0 : w2.heap.size + 1 = b at *
    generalize w2.heap.size = g at *
    clear hb0
    go_loopw [22] (fun i wr => ∃ (n k : Nat) (xs : List It) (f : ByteArray → Option It) (c : Nat), n ≤ cs.length ∧ i = .int .i64 n ∧ Hid (Ow w (fun _ => False) wr [.blk w.heap.size 4 #[.bool false], .ix g xs, .map b k f c]) ∧ Hid (TieI f c xs) ∧ Hid (c ≤ n) ∧ Hid (k ≤ n)) (fun i _ => cs.length - (intOf i).toNat)
    case atStart => exact ⟨0, 0, [], _, 0, by omega, rfl, S3, hide TieI.nil, hide (Nat.le_refl _), hide (Nat.le_refl _)⟩
    case round =>
      obtain ⟨n, k, xs, f, c, hk, rfl, hs, htie, hcn, hkn⟩ := hrel
      by_cases hlt : n < cs.length
      · obtain ⟨cl, hc⟩ : ∃ cl, cs[n]? = some cl := ⟨_, List.getElem?_eq_getElem hlt⟩
        obtain ⟨_, b1, o1, rfl, ⟨i0, i1, i2, i3, i4, i5⟩, _, hok⟩ := icall_cells HV.out hs.out.bel hc
        obtain ⟨ck, it⟩ := cl
        dsimp only at *
        obtain ⟨m, hm4, hand⟩ := and3 it.t
        obtain ⟨x, hx⟩ : ∃ x, x = it.low m := ⟨_, rfl⟩
        have HIN : Hid x.In := hide (by rw [hx]; exact it.low_in hm4)
        have HKEY : Hid (x.key.size ≤ 140737488351232) := hide (by rw [hx]; exact hok.key)
        have ex : (m : Int) = x.t ∧ it.key = x.key ∧ it.val = x.val ∧ it.p = x.p ∧ it.s = x.s := by rw [hx]; exact ⟨rfl, rfl, rfl, rfl, rfl⟩
        obtain ⟨e1, e2, e3, e4, e5⟩ := ex
        rw [e1] at hand
        rw [e2] at i2
        rw [e3] at i3
        rw [e4] at i4
        rw [e5] at i5
        have q0 : (0 : Int) ≤ (n : Int) := by omega
        have q1 : (n : Int) < (cs.length : Int) := by omega
        have HLT := hide hlt
        have HNL : Hid (k < maxLen) := hide (by have := hkn.out; have := HFEW.out; unfold maxLen; omega)
        have HXL : Hid (xs.length < 1000) := hide (by have := htie.out.len; have := hcn.out; have := HFEW.out; omega)
        clear hok hc e1 e2 e3 e4 e5 hx hm4 hlt
        have SB := hide (hs.out.box 34 #[.int .i64 ck, .int .i64 x.t, .string x.key, .string x.val, .int .i64 x.p, .int .i64 x.s])
        rcases and1 ck with hk1 | hk1
        · go_wp2_with (go_at_call 12; (with_reducible refine (ow_put SB.out (i := 1) rfl x HXL.out).mono ?_); rintro e W ⟨rfl, hm⟩; have SP := hide hm; clear hm)
          refine region_phases (ops := _) (valV [some (.map (some b)), some (.pointer (some ⟨wr.heap.size, 1, none⟩)), some (.agg #[.int .i64 x.t, .string x.key, .string x.val, .int .i64 x.p, .int .i64 x.s]), some (.string (nm x)), some (.pointer (some ⟨wr.heap.size, 1, none⟩)), some (.agg #[.int .i64 x.t, .string x.key, .string x.val, .int .i64 x.p, .int .i64 x.s]), none]) (phased [⟨6, 3, fun _ w => ∃ u, Abv W u ∧ MapS It.v w b (k + 1) (fun t => if t = nm x then some x else f t) (if (f (nm x)).isSome then c else c + 1) ∧ u.mapTurned w b⟩] (fun w => Abv W w)) (by kernel_rfl) (by kernel_rfl) (by kernel_rfl) (by kernel_rfl) (phased_ext (by kernel_rfl)) ?_ ?_ ?_
          · exact (Abv.refl _).drew
          · intro i o ho L a w2 hph hsz hLi hnot hyes old dep
            match i, ho with
            | 0, ho =>
              obtain rfl := Option.some.inj ho
              rw [if_pos (wanted_none rfl)]
              have o4 := old 4 (by kernel_rfl)
              refine wp_yields (v := .map (some b)) (w' := w2) ?_ (fun u hu => Option.some.inj (Option.some.inj hu)) (phased_quiet hLi (by rfl) hph)
              clear dep old ho hsz hph hnot hyes hLi
              go_simp
            | 1, ho =>
              obtain rfl := Option.some.inj ho
              rw [if_pos (wanted_none rfl)]
              have o6 := old 6 (by kernel_rfl)
              refine wp_yields (v := .pointer (some ⟨wr.heap.size, 1, none⟩)) (w' := w2) ?_ (fun u hu => Option.some.inj (Option.some.inj hu)) (phased_quiet hLi (by rfl) hph)
              clear dep old ho hsz hph hnot hyes hLi
              go_simp
            | 2, ho =>
              obtain rfl := Option.some.inj ho
              rw [if_pos (wanted_none rfl)]
              have d1 : a.tmps.getD 42 undef = .pointer (some ⟨wr.heap.size, 1, none⟩) := dep 1 _ _ (by kernel_rfl) rfl rfl _ rfl
              have e1 : a.tmps[42]?.getD undef = .pointer (some ⟨wr.heap.size, 1, none⟩) := (Array.getD_eq_getD_getElem? ..).symm.trans d1
              have hA : Abv W w2 := phased_first (fun p hp => by simp only [List.mem_cons, List.not_mem_nil, or_false] at hp; rcases hp with rfl; exact hnot 6 (by kernel_rfl)) hph
              obtain ⟨c0, c1, c2, c3, c4, c5⟩ := call_cells ((SP.out.blk (i := 3) rfl).below hA)
              refine wp_yields (v := .agg #[.int .i64 x.t, .string x.key, .string x.val, .int .i64 x.p, .int .i64 x.s]) (w' := w2) ?_ (fun u hu => Option.some.inj (Option.some.inj hu)) (phased_quiet hLi (by rfl) hph)
              clear dep old ho hsz hph hnot hyes hLi hA
              go_simp
            | 3, ho =>
              obtain rfl := Option.some.inj ho
              rw [if_pos (wanted_none rfl)]
              have d2 : a.tmps.getD 43 undef = .agg #[.int .i64 x.t, .string x.key, .string x.val, .int .i64 x.p, .int .i64 x.s] := dep 2 _ _ (by kernel_rfl) rfl rfl _ rfl
              have e2 : a.tmps[43]?.getD undef = .agg #[.int .i64 x.t, .string x.key, .string x.val, .int .i64 x.p, .int .i64 x.s] := (Array.getD_eq_getD_getElem? ..).symm.trans d2
              have hA : Abv W w2 := phased_first (fun p hp => by simp only [List.mem_cons, List.not_mem_nil, or_false] at hp; rcases hp with rfl; exact hnot 6 (by kernel_rfl)) hph
              refine wp_enters9 (f := 13) (args := #[.agg #[.int .i64 x.t, .string x.key, .string x.val, .int .i64 x.p, .int .i64 x.s]]) ?_ ((name_any x HIN.out HKEY.out w2).mono fun e w3 h => ?_)
              · clear dep old ho hsz hph hnot hyes hLi hA
                go_simp
              · obtain ⟨rfl, hb⟩ := h
                refine ⟨_, rfl, (fun u hu => Option.some.inj (Option.some.inj hu)), ?_⟩
                unfold phased
                rw [if_neg (by simp [also, hnot 6 (by kernel_rfl)])]
                exact hA.trans hb
            | 4, ho =>
              obtain rfl := Option.some.inj ho
              rw [if_pos (wanted_none rfl)]
              have o6 := old 6 (by kernel_rfl)
              refine wp_yields (v := .pointer (some ⟨wr.heap.size, 1, none⟩)) (w' := w2) ?_ (fun u hu => Option.some.inj (Option.some.inj hu)) (phased_quiet hLi (by rfl) hph)
              clear dep old ho hsz hph hnot hyes hLi
              go_simp
            | 5, ho =>
              obtain rfl := Option.some.inj ho
              rw [if_pos (wanted_none rfl)]
              have d4 : a.tmps.getD 45 undef = .pointer (some ⟨wr.heap.size, 1, none⟩) := dep 4 _ _ (by kernel_rfl) rfl rfl _ rfl
              have e4 : a.tmps[45]?.getD undef = .pointer (some ⟨wr.heap.size, 1, none⟩) := (Array.getD_eq_getD_getElem? ..).symm.trans d4
              have hA : Abv W w2 := phased_first (fun p hp => by simp only [List.mem_cons, List.not_mem_nil, or_false] at hp; rcases hp with rfl; exact hnot 6 (by kernel_rfl)) hph
              obtain ⟨c0, c1, c2, c3, c4, c5⟩ := call_cells ((SP.out.blk (i := 3) rfl).below hA)
              refine wp_yields (v := .agg #[.int .i64 x.t, .string x.key, .string x.val, .int .i64 x.p, .int .i64 x.s]) (w' := w2) ?_ (fun u hu => Option.some.inj (Option.some.inj hu)) (phased_quiet hLi (by rfl) hph)
              clear dep old ho hsz hph hnot hyes hLi hA
              go_simp
            | 6, ho =>
              obtain rfl := Option.some.inj ho
              rw [if_pos (wanted_none rfl)]
              have d0 : a.tmps.getD 41 undef = .map (some b) := dep 0 _ _ (by kernel_rfl) rfl rfl _ rfl
              have e0 : a.tmps[41]?.getD undef = .map (some b) := (Array.getD_eq_getD_getElem? ..).symm.trans d0
              have d3 : a.tmps.getD 44 undef = .string (nm x) := dep 3 _ _ (by kernel_rfl) rfl rfl _ rfl
              have e3 : a.tmps[44]?.getD undef = .string (nm x) := (Array.getD_eq_getD_getElem? ..).symm.trans d3
              have d5 : a.tmps.getD 46 undef = .agg #[.int .i64 x.t, .string x.key, .string x.val, .int .i64 x.p, .int .i64 x.s] := dep 5 _ _ (by kernel_rfl) rfl rfl _ rfl
              have e5 : a.tmps[46]?.getD undef = .agg #[.int .i64 x.t, .string x.key, .string x.val, .int .i64 x.p, .int .i64 x.s] := (Array.getD_eq_getD_getElem? ..).symm.trans d5
              unfold phased at hph
              rw [if_neg (by rw [hLi]; decide)] at hph
              have hA : Abv W w2 := hph
              obtain ⟨w', hr, hm', ht⟩ := MapS.store ((SP.out.map (i := 2) rfl).below hA) Try.underlying28 HNL.out (nm x) (nm_size HKEY.out) x
              refine wp_skips (w' := w') ?_ (fun u hu => by cases Option.some.inj hu) ?_
              · have hr2 : (Instr.mapUpdate 28 (.map (some b)) (.string (nm x)) (.agg #[.int .i64 x.t, .string x.key, .string x.val, .int .i64 x.p, .int .i64 x.s])).run Try.prog w2 = .ok () w' := hr
                clear dep old ho hsz hnot hyes hLi hph hA hr hm' ht
                go_simp
              · unfold phased
                rw [if_pos (by simp [also])]
                exact ⟨by simp [also, hyes 3 (by kernel_rfl)], w2, hA, hm', ht⟩
            | i + 7, ho => exact absurd ho (by simp)
          · intro a w3 hph hsz hdf fin keep
            unfold phased at hph
            rw [if_pos rfl] at hph
            obtain ⟨_, u, hA, hm', ht⟩ := hph
            have S3 := hide ((SP.out.below hA).mapped (i := 2) rfl hm' ht)
            obtain ⟨tm, df⟩ := a
            dsimp only at hdf
            subst hdf
            clear fin hA hm' ht u
            have hx := frame_of [41, 42, 43, 44, 45, 46] (by kernel_rfl) hsz keep
            dsimp only at hx
            simp only [List.foldl_cons, List.foldl_nil] at hx
            clear hsz keep
            generalize tm.getD 41 undef = y41 at hx
            generalize tm.getD 42 undef = y42 at hx
            generalize tm.getD 43 undef = y43 at hx
            generalize tm.getD 44 undef = y44 at hx
            generalize tm.getD 45 undef = y45 at hx
            generalize tm.getD 46 undef = y46 at hx
            simp only [List.setIfInBounds_toArray, List.set_cons_succ, List.set_cons_zero] at hx
            subst hx
            have HT2 := hide (htie.out.put HIN.out)
            have HC2 : Hid ((if (f (nm x)).isSome then c else c + 1) ≤ n + 1) := hide (by have := hcn.out; split <;> omega)
            have HK2 : Hid (k + 1 ≤ n + 1) := hide (by have := hkn.out; omega)
            have hf := tie_find HT2.out HIN.out
            generalize hz : ((fun t => if t = nm x then some x else f t) (nm x)).getD default = z at hf
            generalize hbb : ((fun t => if t = nm x then some x else f t) (nm x)).isSome = bb at hf
            have HF := hide hf
            have HZ := hide hz
            have HBB := hide hbb
            obtain ⟨p0, p1, p2, p3, p4, p5⟩ := call_cells (S3.out.blk (i := 3) rfl)
            clear hf hz hbb
            generalize (fun t => if t = nm x then some x else f t) = f2 at *
            generalize (if (f (nm x)).isSome then c else c + 1) = c2 at *
            generalize putL x xs = ys at *
            generalize k + 1 = k2 at *
            clear hs htie SP SB hkn hcn HNL HXL
            go_wp2_with (first
              | (go_at_call 15; (with_reducible refine (ow_find S3.out (i := 1) rfl x.t x.key HF.out.1 HF.out.2).mono ?_); rintro e W7 ⟨rfl, hm⟩; have S4 := hide hm; obtain ⟨p0, p1, p2, p3, p4, p5⟩ := call_cells (hm.blk (i := 3) rfl); have p6 := (hm.blk (i := 3) rfl).lt; clear hm)
              | (go_at_call 13; (with_reducible refine (name_agg x HIN.out HKEY.out _).mono ?_); rintro e W8 ⟨rfl, hb⟩; have S5 := hide ((S4.out.box 32 #[.int .i64 z.t, .string z.key, .string z.val, .int .i64 z.p, .int .i64 z.s]).below hb); have hlk := MapS.look_ok (S5.out.map (i := 2) rfl) Try.underlying28 (z := default) zeroI (nm x) (nm_size HKEY.out) W8 rfl; rw [HZ.out, HBB.out] at hlk; unfold It.v at hlk; obtain ⟨y0, y1, y2, y3, y4⟩ := item_cells (S5.out.blk (i := 4) rfl); have y5 := (S5.out.blk (i := 4) rfl).lt; have S6 := hide (S5.out.box 32 #[.int .i64 z.t, .string z.key, .string z.val, .int .i64 z.p, .int .i64 z.s]); have hln := fun ty => MapS.len (S6.out.map (i := 2) rfl) Try.underlying28 ty _ rfl; have hlc : (c2 : Int) = (ys.length : Int) := (by have := HT2.out.len; omega); clear hb)
              | (go_at_call 16; (with_reducible refine (ow_len S6.out (i := 1) rfl).mono ?_); rintro e w9 ⟨rfl, rfl⟩))
            go_roundw
            case rel => exact ⟨n + 1, k2, ys, f2, c2, by have := HLT.out; omega, by go_num, hide (S6.out.take 3), HT2, HC2, HK2⟩
            case measure => simp [intOf]; have := HLT.out; omega
        · go_wp2_with (first
            | (go_at_call 14; (with_reducible refine (ow_remove SB.out (i := 1) rfl x).mono ?_); rintro e W ⟨rfl, hm⟩; have SP := hide hm; obtain ⟨p0, p1, p2, p3, p4, p5⟩ := call_cells (hm.blk (i := 3) rfl); clear hm)
            | (go_at_call 13; (with_reducible refine (name_agg x HIN.out HKEY.out _).mono ?_); rintro e W5 ⟨rfl, hb⟩; obtain ⟨W6, hd, hm6, ht6⟩ := MapS.drop ((SP.out.below hb).map (i := 2) rfl) Try.underlying28 (nm x) (nm_size HKEY.out) 0; have S3 := hide ((SP.out.below hb).mapped (i := 2) rfl hm6 ht6); have HT2 := hide (htie.out.del HIN.out); have HC2 : Hid ((if (f (nm x)).isSome then c - 1 else c) ≤ n + 1) := hide (by (have := hcn.out; split <;> omega)); obtain ⟨k2, hk2⟩ : ∃ k2, k2 = k := ⟨_, rfl⟩; have HK2 : Hid (k2 ≤ n + 1) := hide (by (have := hkn.out; omega)); rw [← hk2] at S3; generalize (fun t => if t = nm x then none else f t) = f2 at S3 HT2; generalize (if (f (nm x)).isSome then c - 1 else c) = c2 at S3 HT2 HC2; generalize delL x xs = ys at S3 HT2; have hf := tie_find HT2.out HIN.out; generalize hz : (f2 (nm x)).getD default = z at hf; generalize hbb : (f2 (nm x)).isSome = bb at hf; have HF := hide hf; have HZ := hide hz; have HBB := hide hbb; obtain ⟨p0, p1, p2, p3, p4, p5⟩ := call_cells (S3.out.blk (i := 3) rfl); clear hf hz hbb; clear SP hb hm6 ht6 hk2)
            | (go_at_call 15; (with_reducible refine (ow_find S3.out (i := 1) rfl x.t x.key HF.out.1 HF.out.2).mono ?_); rintro e W7 ⟨rfl, hm⟩; have S4 := hide hm; obtain ⟨p0, p1, p2, p3, p4, p5⟩ := call_cells (hm.blk (i := 3) rfl); have p6 := (hm.blk (i := 3) rfl).lt; clear hm)
            | (go_at_call 13; (with_reducible refine (name_agg x HIN.out HKEY.out _).mono ?_); rintro e W8 ⟨rfl, hb⟩; have S5 := hide ((S4.out.box 32 #[.int .i64 z.t, .string z.key, .string z.val, .int .i64 z.p, .int .i64 z.s]).below hb); have hlk := MapS.look_ok (S5.out.map (i := 2) rfl) Try.underlying28 (z := default) zeroI (nm x) (nm_size HKEY.out) W8 rfl; rw [HZ.out, HBB.out] at hlk; unfold It.v at hlk; obtain ⟨y0, y1, y2, y3, y4⟩ := item_cells (S5.out.blk (i := 4) rfl); have y5 := (S5.out.blk (i := 4) rfl).lt; have S6 := hide (S5.out.box 32 #[.int .i64 z.t, .string z.key, .string z.val, .int .i64 z.p, .int .i64 z.s]); have hln := fun ty => MapS.len (S6.out.map (i := 2) rfl) Try.underlying28 ty _ rfl; have hlc : (c2 : Int) = (ys.length : Int) := (by have := HT2.out.len; omega); clear hb)
            | (go_at_call 16; (with_reducible refine (ow_len S6.out (i := 1) rfl).mono ?_); rintro e w9 ⟨rfl, rfl⟩))
          go_roundw
          case rel => exact ⟨n + 1, k2, ys, f2, c2, by have := HLT.out; omega, by go_num, hide (S6.out.take 3), HT2, HC2, HK2⟩
          case measure => simp [intOf]; have := HLT.out; omega
      · obtain rfl : n = cs.length := by omega
        clear hlt hk
        have HC : Hid (c ≤ 200) := hide (by have := hcn.out; have := HFEW.out; omega)
        have HXL : Hid (xs.length < 1000) := hide (by have := htie.out.len; have := hcn.out; have := HFEW.out; omega)
        go_wp2_with (go_at_call 17; (with_reducible refine (ow_sorted hs.out (i := 2) rfl htie.out HC.out).mono ?_); rintro e W ⟨v, rfl, hm⟩; obtain ⟨A1, c1, rfl⟩ := (hm.its (i := 3) rfl).form; have S4 := hide hm; clear hm)
        have S5 : Hid (Ow w (fun _ => False) ((W.alloc (.cells #[.slice A1 xs.length c1] 25)).alloc (.cells #[.int .i64 0] 3)) [.blk w.heap.size 4 #[.bool false], .ix g xs, .map b k f c, .its (.slice A1 xs.length c1) xs, .blk W.heap.size 25 #[.slice A1 xs.length c1], .blk (W.heap.size + 1) 3 #[.int .i64 (0 : Nat)]]) := hide (by
          have h := (S4.out.box 25 #[.slice A1 xs.length c1]).box 3 #[.int .i64 (0 : Nat)]
          rw [World.size_alloc] at h
          exact h)
        clear S4 hs S3 HV HL htie hcn hkn HC HFEW hfew
        generalize ((W.alloc (.cells #[.slice A1 xs.length c1] 25)).alloc (.cells #[.int .i64 0] 3)) = w5 at *
        generalize W.heap.size = wb at *
        have HLD : Hid (w.heap.size + 0 < w5.heap.size) := hide (S5.out.blk (i := 0) rfl).lt
        obtain ⟨F, hF⟩ := S5.out
        have hwD := hF.kept.size
        refine wpIn_wide.1 (range_all (n := 4) (by omega) xs rfl rfl ?hit (fun q F A => OwF w (fun _ => False) F A [.blk w.heap.size 4 #[.bool false], .ix g xs, .map b k f c, .its (.slice A1 xs.length c1) xs, .blk wb 25 #[.slice A1 xs.length c1], .blk (wb + 1) 3 #[.int .i64 (q : Nat)]]) (fun _ _ _ => False)
          (fun q F A B h e1 e2 hc => h.calm hc e1 e2 hwD) (fun _ _ _ _ h _ => h) ⟨F, hF, hF.lt⟩ ?round ?done ?stop)
        case hit =>
          intro l W2 J Jx hW hR h0
          obtain ⟨r, hX⟩ := Ow.ix (i := 1) ⟨F, hF⟩ rfl
          exact All_in 3 l (by omega) (hX.below hW) hR h0
        case round =>
          clear hF S5
          rintro q F x A hx hA e1 e2 hlA
          have hlt := (List.getElem?_eq_some_iff.1 hx).1
          obtain ⟨gw, hb1⟩ : ∃ gw, A1 = some ⟨gw, 0, none⟩ := by
            obtain ⟨g', c', h, _⟩ := (Ow.its (i := 3) ⟨F, hA⟩ rfl).block (by omega)
            injection h with h
            exact ⟨g', h⟩
          subst hb1
          have HX := hide hx
          have HQ := hide (show (0 : Int) ≤ (q : Int) ∧ (q : Int) < (xs.length : Int) by omega)
          have HNE := hide (show ¬ (q : Int) = (xs.length : Int) by omega)
          have q0 : (0 : Int) ≤ (q : Int) := by omega
          have q1 : (q : Int) < 1000 := by have := HXL.out; omega
          have HA := hide hA
          have E1 := hide e1
          have E2 := hide e2
          have HLA := hide hlA
          clear hA hx e1 e2 hlA hlt
          unfold It.v
          dsimp only
          gi_wp2
          refine ⟨(Below.refl _ _).alloc (Nat.le_refl _) _, fun C hC hs2 => ?_⟩
          obtain ⟨F1, hF1, hnew⟩ := HA.out.round_in _ _ E1.out E2.out hwD HLA.out hC
          have HST := hide hF1.restart
          have HF1 := hide hF1
          have HNEW := hide hnew
          have HCS := hide (show A.heap.size ≤ C.heap.size by rw [hs2]; simp)
          clear hF1 hnew hC hs2
          gi_wp2
          refine region_growsD [Say.is (.int .i64 (q : Int)), Say.is (.slice (some ⟨gw, 0, none⟩) xs.length c1), Say.is (.int .i64 (xs.length : Int)), Say.is (.bool false), Say.is (.bool false), Say.is (.agg #[.int .i64 x.t, .string x.key, .string x.val, .int .i64 x.p, .int .i64 x.s]), Say.is (.slice (some ⟨gw, 0, none⟩) xs.length c1), Say.is (.int .i64 (q : Int)), Say.is (.pointer (some ⟨gw, q * 5, none⟩)), Say.is (.agg #[.int .i64 x.t, .string x.key, .string x.val, .int .i64 x.p, .int .i64 x.s]), Say.is (.bool false), Say.is (.bool false)] (by kernel_rfl) (by kernel_rfl) (by kernel_rfl) (by kernel_rfl) (by kernel_rfl) ?_ ?_
          · intro i o ho a w2 hb hsz old dep
            match i, ho with
            | 0, ho =>
              obtain rfl := Option.some.inj ho
              have o12 : a.tmps.getD 12 undef = _ := old 12 (by kernel_rfl)
              rw [if_pos (wanted_none rfl)]
              have g0 := ((HST.out.below hb).blk (i := 5) rfl).cell 0 _ rfl
              refine grow_same (v := .int .i64 (q : Int)) ?_ rfl
              clear old dep ho hsz hb
              go_simp
            | 1, ho =>
              obtain rfl := Option.some.inj ho
              have o11 : a.tmps.getD 11 undef = _ := old 11 (by kernel_rfl)
              rw [if_pos (wanted_none rfl)]
              have g0 := ((HST.out.below hb).blk (i := 4) rfl).cell 0 _ rfl
              refine grow_same (v := .slice (some ⟨gw, 0, none⟩) xs.length c1) ?_ rfl
              clear old dep ho hsz hb
              go_simp
            | 2, ho =>
              obtain rfl := Option.some.inj ho
              have d1 : a.tmps.getD 100 undef = .slice (some ⟨gw, 0, none⟩) xs.length c1 := dep 1 _ _ (by kernel_rfl) rfl rfl
              have e1 : a.tmps[100]?.getD undef = _ := (Array.getD_eq_getD_getElem? ..).symm.trans d1
              rw [if_pos (wanted_none rfl)]
              refine grow_same (v := .int .i64 (xs.length : Int)) ?_ rfl
              clear old dep ho hsz hb
              go_simp
            | 3, ho =>
              obtain rfl := Option.some.inj ho
              have d0 : a.tmps.getD 99 undef = .int .i64 (q : Int) := dep 0 _ _ (by kernel_rfl) rfl rfl
              have e0 : a.tmps[99]?.getD undef = _ := (Array.getD_eq_getD_getElem? ..).symm.trans d0
              have d2 : a.tmps.getD 101 undef = .int .i64 (xs.length : Int) := dep 2 _ _ (by kernel_rfl) rfl rfl
              have e2 : a.tmps[101]?.getD undef = _ := (Array.getD_eq_getD_getElem? ..).symm.trans d2
              rw [if_pos (wanted_none rfl)]
              have g0 := HNE.out
              refine grow_same (v := .bool false) ?_ rfl
              clear old dep ho hsz hb
              go_simp
            | 4, ho =>
              obtain rfl := Option.some.inj ho
              have d3 : a.tmps.getD 102 undef = .bool false := dep 3 _ _ (by kernel_rfl) rfl rfl
              have e3 : a.tmps[102]?.getD undef = _ := (Array.getD_eq_getD_getElem? ..).symm.trans d3
              rw [if_pos (wanted_none rfl)]
              refine grow_same (v := .bool false) ?_ rfl
              clear old dep ho hsz hb
              go_simp
            | 5, ho =>
              obtain rfl := Option.some.inj ho
              have o13 : a.tmps.getD 13 undef = _ := old 13 (by kernel_rfl)
              have d4 : a.tmps.getD 103 undef = .bool false := dep 4 _ _ (by kernel_rfl) rfl rfl
              have e4 : a.tmps[103]?.getD undef = _ := (Array.getD_eq_getD_getElem? ..).symm.trans d4
              rw [if_pos (wanted_some rfl rfl rfl (by rw [hsz]; exact of_decide_eq_true rfl) d4)]
              obtain ⟨g0, g1, g2, g3, g4⟩ := item_cells ((HST.out.below hb).blk (i := 6) rfl)
              refine grow_same (v := .agg #[.int .i64 x.t, .string x.key, .string x.val, .int .i64 x.p, .int .i64 x.s]) ?_ rfl
              clear old dep ho hsz hb
              go_simp
            | 6, ho =>
              obtain rfl := Option.some.inj ho
              have o11 : a.tmps.getD 11 undef = _ := old 11 (by kernel_rfl)
              have d4 : a.tmps.getD 103 undef = .bool false := dep 4 _ _ (by kernel_rfl) rfl rfl
              have e4 : a.tmps[103]?.getD undef = _ := (Array.getD_eq_getD_getElem? ..).symm.trans d4
              rw [if_pos (wanted_some rfl rfl rfl (by rw [hsz]; exact of_decide_eq_true rfl) d4)]
              have g0 := ((HST.out.below hb).blk (i := 4) rfl).cell 0 _ rfl
              refine grow_same (v := .slice (some ⟨gw, 0, none⟩) xs.length c1) ?_ rfl
              clear old dep ho hsz hb
              go_simp
            | 7, ho =>
              obtain rfl := Option.some.inj ho
              have o12 : a.tmps.getD 12 undef = _ := old 12 (by kernel_rfl)
              have d4 : a.tmps.getD 103 undef = .bool false := dep 4 _ _ (by kernel_rfl) rfl rfl
              have e4 : a.tmps[103]?.getD undef = _ := (Array.getD_eq_getD_getElem? ..).symm.trans d4
              rw [if_pos (wanted_some rfl rfl rfl (by rw [hsz]; exact of_decide_eq_true rfl) d4)]
              have g0 := ((HST.out.below hb).blk (i := 5) rfl).cell 0 _ rfl
              refine grow_same (v := .int .i64 (q : Int)) ?_ rfl
              clear old dep ho hsz hb
              go_simp
            | 8, ho =>
              obtain rfl := Option.some.inj ho
              have d6 : a.tmps.getD 105 undef = .slice (some ⟨gw, 0, none⟩) xs.length c1 := dep 6 _ _ (by kernel_rfl) rfl rfl
              have e6 : a.tmps[105]?.getD undef = _ := (Array.getD_eq_getD_getElem? ..).symm.trans d6
              have d7 : a.tmps.getD 106 undef = .int .i64 (q : Int) := dep 7 _ _ (by kernel_rfl) rfl rfl
              have e7 : a.tmps[106]?.getD undef = _ := (Array.getD_eq_getD_getElem? ..).symm.trans d7
              have d4 : a.tmps.getD 103 undef = .bool false := dep 4 _ _ (by kernel_rfl) rfl rfl
              have e4 : a.tmps[103]?.getD undef = _ := (Array.getD_eq_getD_getElem? ..).symm.trans d4
              rw [if_pos (wanted_some rfl rfl rfl (by rw [hsz]; exact of_decide_eq_true rfl) d4)]
              have g0 := HQ.out.1
              have g1 := HQ.out.2
              refine grow_same (v := .pointer (some ⟨gw, q * 5, none⟩)) ?_ rfl
              clear old dep ho hsz hb
              go_simp
            | 9, ho =>
              obtain rfl := Option.some.inj ho
              have d8 : a.tmps.getD 107 undef = .pointer (some ⟨gw, q * 5, none⟩) := dep 8 _ _ (by kernel_rfl) rfl rfl
              have e8 : a.tmps[107]?.getD undef = _ := (Array.getD_eq_getD_getElem? ..).symm.trans d8
              have d4 : a.tmps.getD 103 undef = .bool false := dep 4 _ _ (by kernel_rfl) rfl rfl
              have e4 : a.tmps[103]?.getD undef = _ := (Array.getD_eq_getD_getElem? ..).symm.trans d4
              rw [if_pos (wanted_some rfl rfl rfl (by rw [hsz]; exact of_decide_eq_true rfl) d4)]
              obtain ⟨g0, g1, g2, g3, g4⟩ := Its.cells ((HST.out.below hb).its (i := 3) rfl) rfl HX.out
              refine grow_same (v := .agg #[.int .i64 x.t, .string x.key, .string x.val, .int .i64 x.p, .int .i64 x.s]) ?_ rfl
              clear old dep ho hsz hb
              go_simp
            | 10, ho =>
              obtain rfl := Option.some.inj ho
              have d5 : a.tmps.getD 104 undef = .agg #[.int .i64 x.t, .string x.key, .string x.val, .int .i64 x.p, .int .i64 x.s] := dep 5 _ _ (by kernel_rfl) rfl rfl
              have e5 : a.tmps[104]?.getD undef = _ := (Array.getD_eq_getD_getElem? ..).symm.trans d5
              have d9 : a.tmps.getD 108 undef = .agg #[.int .i64 x.t, .string x.key, .string x.val, .int .i64 x.p, .int .i64 x.s] := dep 9 _ _ (by kernel_rfl) rfl rfl
              have e9 : a.tmps[108]?.getD undef = _ := (Array.getD_eq_getD_getElem? ..).symm.trans d9
              have d4 : a.tmps.getD 103 undef = .bool false := dep 4 _ _ (by kernel_rfl) rfl rfl
              have e4 : a.tmps[103]?.getD undef = _ := (Array.getD_eq_getD_getElem? ..).symm.trans d4
              rw [if_pos (wanted_some rfl rfl rfl (by rw [hsz]; exact of_decide_eq_true rfl) d4)]
              refine grow_same (v := .bool false) ?_ rfl
              clear old dep ho hsz hb
              go_simp
            | 11, ho =>
              obtain rfl := Option.some.inj ho
              have d4 : a.tmps.getD 103 undef = .bool false := dep 4 _ _ (by kernel_rfl) rfl rfl
              have e4 : a.tmps[103]?.getD undef = _ := (Array.getD_eq_getD_getElem? ..).symm.trans d4
              have d10 : a.tmps.getD 109 undef = .bool false := dep 10 _ _ (by kernel_rfl) rfl rfl
              have e10 : a.tmps[109]?.getD undef = _ := (Array.getD_eq_getD_getElem? ..).symm.trans d10
              rw [if_pos (wanted_none rfl)]
              refine grow_same (v := .bool false) ?_ rfl
              clear old dep ho hsz hb
              go_simp
            | i + 12, ho => exact absurd ho (by simp)
          · intro a w9 hb hsz hdf fin keep
            obtain ⟨tm, df⟩ := a
            have hx := frame_of [99, 100, 101, 102, 103, 104, 105, 106, 107, 108, 109, 110] (by kernel_rfl) hsz keep
            dsimp only at hdf hx
            simp only [List.foldl_cons, List.foldl_nil] at hx
            subst hdf
            clear hsz keep
            have kn : tm.getD 99 undef = .int .i64 (q : Int) := fin 0 _ _ rfl rfl
            rw [kn] at hx
            clear kn
            have kn : tm.getD 100 undef = .slice (some ⟨gw, 0, none⟩) xs.length c1 := fin 1 _ _ rfl rfl
            rw [kn] at hx
            clear kn
            have kn : tm.getD 101 undef = .int .i64 (xs.length : Int) := fin 2 _ _ rfl rfl
            rw [kn] at hx
            clear kn
            have kn : tm.getD 102 undef = .bool false := fin 3 _ _ rfl rfl
            rw [kn] at hx
            clear kn
            have kn : tm.getD 103 undef = .bool false := fin 4 _ _ rfl rfl
            rw [kn] at hx
            clear kn
            have kn : tm.getD 104 undef = .agg #[.int .i64 x.t, .string x.key, .string x.val, .int .i64 x.p, .int .i64 x.s] := fin 5 _ _ rfl rfl
            rw [kn] at hx
            clear kn
            have kn : tm.getD 105 undef = .slice (some ⟨gw, 0, none⟩) xs.length c1 := fin 6 _ _ rfl rfl
            rw [kn] at hx
            clear kn
            have kn : tm.getD 106 undef = .int .i64 (q : Int) := fin 7 _ _ rfl rfl
            rw [kn] at hx
            clear kn
            have kn : tm.getD 107 undef = .pointer (some ⟨gw, q * 5, none⟩) := fin 8 _ _ rfl rfl
            rw [kn] at hx
            clear kn
            have kn : tm.getD 108 undef = .agg #[.int .i64 x.t, .string x.key, .string x.val, .int .i64 x.p, .int .i64 x.s] := fin 9 _ _ rfl rfl
            rw [kn] at hx
            clear kn
            have kn : tm.getD 109 undef = .bool false := fin 10 _ _ rfl rfl
            rw [kn] at hx
            clear kn
            have kn : tm.getD 110 undef = .bool false := fin 11 _ _ rfl rfl
            rw [kn] at hx
            clear kn
            clear fin
            simp only [List.setIfInBounds_toArray, List.set_cons_succ, List.set_cons_zero] at hx
            subst hx
            have j0 := ((HST.out.below hb).blk (i := 5) rfl).cell 0 _ rfl
            have jf := ((HST.out.below hb).blk (i := 5) rfl).frozen 0
            have HB := hide hb
            clear hb
            gi_wp2
            exact HF1.out.round_out HNEW.out (show Ow C F1 _ [.blk w.heap.size 4 #[.bool false], .ix g xs, .map b k f c, .its (.slice (some ⟨gw, 0, none⟩) xs.length c1) xs, .blk wb 25 #[.slice (some ⟨gw, 0, none⟩) xs.length c1], .blk (wb + 1) 3 #[.int .i64 (q + 1 : Nat)]] from ((HST.out.below HB.out).set_ (i := 5) rfl 0 _).take 6) HCS.out
        case done =>
          clear hF S5
          rintro F A hA e1 hK
          have HA := hide hA
          have HK := hide hK
          have i0 := (Ow.blk (i := 5) ⟨_, hA⟩ rfl).cell 0 _ rfl
          have v0 := (Ow.blk (i := 4) ⟨_, hA⟩ rfl).cell 0 _ rfl
          have z0 := (Ow.blk (i := 0) ⟨_, hA⟩ rfl).cell 0 _ rfl
          have zf := (Ow.blk (i := 0) ⟨_, hA⟩ rfl).frozen 0
          clear hA hK
          go_wp2
          have hK9 := (Below.heap_setCell A ⟨w.heap.size, 0, none⟩ (.bool true) w5.heap.size (by show w5.heap.size ≠ w.heap.size; have := HLD.out; omega)).trans HK.out
          have R9 := Ow.set_ (i := 0) ⟨_, HA.out⟩ rfl 0 (.bool true)
          refine ⟨by simp, .inl ⟨_, _, rfl, run_takeDeferred hK9, ?_⟩⟩
          have BZ := ((Calm.put w5.heap.size w5.heap.size (A.setCell ⟨w.heap.size, 0, none⟩ (.bool true)) (.deferred none) (.inl rfl)).blk (Ow.blk (i := 0) R9 rfl) (by have := HLD.out; omega) (by have := HLD.out; omega)).cell 0 _ rfl
          exact ⟨.bool true, by simp [results, Try.results3, go_sem, BZ], rfl, ow_end R9 hwD⟩
        case stop => intro c k A h; exact h.elim
end Go.Proofs.Ytkcomkllnhdohaa
