/-
  The walk of IndexScans.
-/
import Derived.Test.YtkcomkllnhdohaaScanP9
import Derived.Deep.CutBlock
namespace Go.Proofs.Ytkcomkllnhdohaa
open Go.RowKit Go.Shelf
set_option linter.unusedSimpArgs false
set_option linter.unusedVariables false
attribute [local go_sem] Oper.semAt_some

set_option maxRecDepth 20000 in
set_option maxHeartbeats 16000000 in
theorem scans_walk (v : Value) (cs : List ICall) (sa sb : ByteArray) (h0 h1 : Int) (w : World) (hv : ICallRow w w.heap.size v cs) (hsa : sa.size ≤ 140737488351232) (hsb : sb.size ≤ 140737488351232) (_ : (Lit.int .i64 h0).wf = true) (_ : (Lit.int .i64 h1).wf = true) : Calls Try.prog 4 #[v, .agg #[.string sa, .string sb], .agg #[.int .i64 h0, .int .i64 h1]] w fun e w' => e = .returned (.bool true) ∧ Below w.heap.size w w' := by
  have S0 : Hid (Ow w (fun _ => False) (((w.alloc (.cells #[.string sa, .string sb] 43)).alloc (.cells #[.int .i64 h0, .int .i64 h1] 44)).alloc (.cells #[.bool false] 4)) [.blk w.heap.size 43 #[.string sa, .string sb], .blk (w.heap.size + 1) 44 #[.int .i64 h0, .int .i64 h1], .blk (w.heap.size + 2) 4 #[.bool false]]) := hide (by
    have h := (((Ow.start w).box 43 #[.string sa, .string sb]).box 44 #[.int .i64 h0, .int .i64 h1]).box 4 #[.bool false]
    simp only [World.size_alloc] at h
    exact h)
  obtain ⟨⟨A0, cap, rfl, hlc, _⟩, _⟩ := id hv
  have HV := hide hv
  have sa1 : (sa.size : Int) ≤ 140737488351232 := by omega
  have sb1 : (sb.size : Int) ≤ 140737488351232 := by omega
  clear hv hsa hsb
  have hmm := @run_makeMap Try.prog
  cases hl : lightB cs
  · have HL := hide hl
    clear hl hlc hmm
    refine (callsIn_wide (n := 4)).1 ?_
    refine callsIn_of_wp_marks Try.func4 rfl trivial ?_ rfl
    refine wpIn_wide.2 ?_
    simp only [Try.ntmps4, List.size_toArray, List.length_cons, List.length_nil, Nat.reduceAdd, Nat.reduceSub, Array.replicate_succ, Array.replicate_zero, List.push_toArray, List.append_toArray, List.nil_append, List.cons_append]
    go_wp2_with (first
      | (go_at_call 10; (with_reducible refine (fit_any _).mono ?_); rintro e w1 ⟨rfl, hb⟩; have S1 := hide (S0.out.below hb); clear hb)
      | (go_at_call 11; (with_reducible refine (light_any (HV.out.below_all S1.out.bel)).mono ?_); rw [HL.out]; rintro e w2 ⟨rfl, hb⟩; have S2 := hide (S1.out.below hb); have r0 := (S2.out.blk (i := 2) rfl).cell 0 _ rfl; have r1 := (S2.out.blk (i := 2) rfl).frozen 0; have rl := (S2.out.blk (i := 2) rfl).lt; have n0 := (S2.out.blk (i := 0) rfl).cell 0 _ rfl; have n1 := (S2.out.blk (i := 0) rfl).cell 1 _ rfl; have nl := (S2.out.blk (i := 0) rfl).lt; clear hb))
    exact ⟨.bool true, by simp [results, Try.results4, go_sem, r0, r1], rfl, (S2.out.set_ (i := 2) rfl 0 (.bool true)).bel⟩
  · have HL := hide hl
    have HFEW := hide (lightB_few hl)
    have hfew : (cs.length : Int) ≤ 120 := by have := lightB_few hl; omega
    clear hl hlc
    by_cases h50 : 100 < sa.size + sb.size
    · have h50i : (100 : Int) < (sa.size : Int) + (sb.size : Int) := by omega
      refine (callsIn_wide (n := 4)).1 ?_
      refine callsIn_of_wp_marks Try.func4 rfl trivial ?_ rfl
      refine wpIn_wide.2 ?_
      simp only [Try.ntmps4, List.size_toArray, List.length_cons, List.length_nil, Nat.reduceAdd, Nat.reduceSub, Array.replicate_succ, Array.replicate_zero, List.push_toArray, List.append_toArray, List.nil_append, List.cons_append]
      go_wp2_with (first
        | (go_at_call 10; (with_reducible refine (fit_any _).mono ?_); rintro e w1 ⟨rfl, hb⟩; have S1 := hide (S0.out.below hb); clear hb)
        | (go_at_call 11; (with_reducible refine (light_any (HV.out.below_all S1.out.bel)).mono ?_); rw [HL.out]; rintro e w2 ⟨rfl, hb⟩; have S2 := hide (S1.out.below hb); have r0 := (S2.out.blk (i := 2) rfl).cell 0 _ rfl; have r1 := (S2.out.blk (i := 2) rfl).frozen 0; have rl := (S2.out.blk (i := 2) rfl).lt; have n0 := (S2.out.blk (i := 0) rfl).cell 0 _ rfl; have n1 := (S2.out.blk (i := 0) rfl).cell 1 _ rfl; have nl := (S2.out.blk (i := 0) rfl).lt; clear hb))
      exact ⟨.bool true, by simp [results, Try.results4, go_sem, r0, r1], rfl, (S2.out.set_ (i := 2) rfl 0 (.bool true)).bel⟩
    have h50i : ¬ (100 : Int) < (sa.size : Int) + (sb.size : Int) := by omega
    clear h50
    refine (callsIn_wide (n := 4)).1 ?_
    refine callsIn_of_wp_marks Try.func4 rfl trivial ?_ rfl
    refine wpIn_wide.2 ?_
    simp only [Try.ntmps4, List.size_toArray, List.length_cons, List.length_nil, Nat.reduceAdd, Nat.reduceSub, Array.replicate_succ, Array.replicate_zero, List.push_toArray, List.append_toArray, List.nil_append, List.cons_append]
    go_wp2_with (first
      | (go_at_call 10; (with_reducible refine (fit_any _).mono ?_); rintro e w1 ⟨rfl, hb⟩; have S1 := hide (S0.out.below hb); clear hb)
      | (go_at_call 11; (with_reducible refine (light_any (HV.out.below_all S1.out.bel)).mono ?_); rw [HL.out]; rintro e w2 ⟨rfl, hb⟩; have S2 := hide (S1.out.below hb); have r0 := (S2.out.blk (i := 2) rfl).cell 0 _ rfl; have r1 := (S2.out.blk (i := 2) rfl).frozen 0; have rl := (S2.out.blk (i := 2) rfl).lt; have n0 := (S2.out.blk (i := 0) rfl).cell 0 _ rfl; have n1 := (S2.out.blk (i := 0) rfl).cell 1 _ rfl; have nl := (S2.out.blk (i := 0) rfl).lt; clear hb))
    have S3 : Hid (Ow w (fun _ => False) ((w2.alloc (.cells #[.slice none 0 0] 27)).alloc (.map #[] 0)) [.blk w.heap.size 43 #[.string sa, .string sb], .blk (w.heap.size + 1) 44 #[.int .i64 h0, .int .i64 h1], .blk (w.heap.size + 2) 4 #[.bool false], .ix w2.heap.size [], .map (w2.heap.size + 1) 0 (fun _ => none) 0]) := hide (by
      have h := S2.out.newix.newmap
      rw [World.size_alloc] at h
      exact h)
    clear r0 r1 rl n0 n1 nl S2 S1 S0 hmm
    generalize ((w2.alloc (.cells #[.slice none 0 0] 27)).alloc (.map #[] 0)) = w3 at *
    generalize hb0 : w2.heap.size + 1 = b at *
    generalize w2.heap.size = g at *
    clear hb0
    go_loopw [39] (fun i wr => ∃ (k : Nat) (xs : List It) (f : ByteArray → Option It) (c : Nat), k ≤ cs.length ∧ i = .int .i64 k ∧ Hid (Ow w (fun _ => False) wr [.blk w.heap.size 43 #[.string sa, .string sb], .blk (w.heap.size + 1) 44 #[.int .i64 h0, .int .i64 h1], .blk (w.heap.size + 2) 4 #[.bool false], .ix g xs, .map b k f c]) ∧ Hid (TieI f c xs) ∧ Hid (c ≤ k)) (fun i _ => cs.length - (intOf i).toNat)
    case atStart => exact ⟨0, [], _, 0, by omega, rfl, S3, hide TieI.nil, hide (Nat.le_refl _)⟩
    case round =>
      obtain ⟨n, xs, f, c, hk, rfl, hs, htie, hcn⟩ := hrel
      by_cases hlt : n < cs.length
      · obtain ⟨cl, hc⟩ : ∃ cl, cs[n]? = some cl := ⟨_, List.getElem?_eq_getElem hlt⟩
        obtain ⟨_, b1, o1, rfl, ⟨i0, i1, i2, i3, i4, i5⟩, _, hok⟩ := icall_cells HV.out hs.out.bel hc
        obtain ⟨ck, it⟩ := cl
        dsimp only at *
        obtain ⟨m, hm4, hand⟩ := and3 it.t
        obtain ⟨x, hx⟩ : ∃ x, x = it.low m := ⟨_, rfl⟩
        have HIN : Hid x.In := hide (by rw [hx]; exact it.low_in hm4)
        have HKEY : Hid (x.key.size ≤ 140737488351232) := hide (by rw [hx]; exact hok.key)
        have ex : (m : Int) = x.t ∧ it.key = x.key ∧ it.val = x.val ∧ it.p = x.p ∧ it.s = x.s := by rw [hx]; exact ⟨rfl, rfl, rfl, rfl, rfl⟩
        obtain ⟨e1, e2, e3, e4, e5⟩ := ex
        rw [e1] at hand
        rw [e2] at i2
        rw [e3] at i3
        rw [e4] at i4
        rw [e5] at i5
        have q0 : (0 : Int) ≤ (n : Int) := by omega
        have q1 : (n : Int) < (cs.length : Int) := by omega
        have HLT := hide hlt
        have HNL : Hid (n < maxLen) := hide (by have := HFEW.out; unfold maxLen; omega)
        have HXL : Hid (xs.length < 1000) := hide (by have := htie.out.len; have := hcn.out; have := HFEW.out; omega)
        clear hok hc e1 e2 e3 e4 e5 hx hm4 hlt
        have SB := hide (hs.out.box 34 #[.int .i64 ck, .int .i64 x.t, .string x.key, .string x.val, .int .i64 x.p, .int .i64 x.s])
        go_wp2_with (go_at_call 12; (with_reducible refine (ow_put SB.out (i := 3) rfl x HXL.out).mono ?_); rintro e W ⟨rfl, hm⟩; have SP := hide hm; clear hm)
        refine region_phases (ops := _) (valV [some (.map (some b)), some (.pointer (some ⟨wr.heap.size, 1, none⟩)), some (.agg #[.int .i64 x.t, .string x.key, .string x.val, .int .i64 x.p, .int .i64 x.s]), some (.string (nm x)), some (.pointer (some ⟨wr.heap.size, 1, none⟩)), some (.agg #[.int .i64 x.t, .string x.key, .string x.val, .int .i64 x.p, .int .i64 x.s]), none]) (phased [⟨6, 3, fun _ w => ∃ u, Abv W u ∧ MapS It.v w b (n + 1) (fun t => if t = nm x then some x else f t) (if (f (nm x)).isSome then c else c + 1) ∧ u.mapTurned w b⟩] (fun w => Abv W w)) (by kernel_rfl) (by kernel_rfl) (by kernel_rfl) (by kernel_rfl) (phased_ext (by kernel_rfl)) ?_ ?_ ?_
        · exact (Abv.refl _).drew
        · intro i o ho L a w2 hph hsz hLi hnot hyes old dep
          match i, ho with
          | 0, ho =>
            obtain rfl := Option.some.inj ho
            rw [if_pos (wanted_none rfl)]
            have o8 := old 8 (by kernel_rfl)
            refine wp_yields (v := .map (some b)) (w' := w2) ?_ (fun u hu => Option.some.inj (Option.some.inj hu)) (phased_quiet hLi (by rfl) hph)
            clear dep old ho hsz hph hnot hyes hLi
            go_simp
          | 1, ho =>
            obtain rfl := Option.some.inj ho
            rw [if_pos (wanted_none rfl)]
            have o10 := old 10 (by kernel_rfl)
            refine wp_yields (v := .pointer (some ⟨wr.heap.size, 1, none⟩)) (w' := w2) ?_ (fun u hu => Option.some.inj (Option.some.inj hu)) (phased_quiet hLi (by rfl) hph)
            clear dep old ho hsz hph hnot hyes hLi
            go_simp
          | 2, ho =>
            obtain rfl := Option.some.inj ho
            rw [if_pos (wanted_none rfl)]
            have d1 : a.tmps.getD 55 undef = .pointer (some ⟨wr.heap.size, 1, none⟩) := dep 1 _ _ (by kernel_rfl) rfl rfl _ rfl
            have e1 : a.tmps[55]?.getD undef = .pointer (some ⟨wr.heap.size, 1, none⟩) := (Array.getD_eq_getD_getElem? ..).symm.trans d1
            have hA : Abv W w2 := phased_first (fun p hp => by simp only [List.mem_cons, List.not_mem_nil, or_false] at hp; rcases hp with rfl; exact hnot 6 (by kernel_rfl)) hph
            obtain ⟨c0, c1, c2, c3, c4, c5⟩ := call_cells ((SP.out.blk (i := 5) rfl).below hA)
            refine wp_yields (v := .agg #[.int .i64 x.t, .string x.key, .string x.val, .int .i64 x.p, .int .i64 x.s]) (w' := w2) ?_ (fun u hu => Option.some.inj (Option.some.inj hu)) (phased_quiet hLi (by rfl) hph)
            clear dep old ho hsz hph hnot hyes hLi hA
            go_simp
          | 3, ho =>
            obtain rfl := Option.some.inj ho
            rw [if_pos (wanted_none rfl)]
            have d2 : a.tmps.getD 56 undef = .agg #[.int .i64 x.t, .string x.key, .string x.val, .int .i64 x.p, .int .i64 x.s] := dep 2 _ _ (by kernel_rfl) rfl rfl _ rfl
            have e2 : a.tmps[56]?.getD undef = .agg #[.int .i64 x.t, .string x.key, .string x.val, .int .i64 x.p, .int .i64 x.s] := (Array.getD_eq_getD_getElem? ..).symm.trans d2
            have hA : Abv W w2 := phased_first (fun p hp => by simp only [List.mem_cons, List.not_mem_nil, or_false] at hp; rcases hp with rfl; exact hnot 6 (by kernel_rfl)) hph
            refine wp_enters9 (f := 13) (args := #[.agg #[.int .i64 x.t, .string x.key, .string x.val, .int .i64 x.p, .int .i64 x.s]]) ?_ ((name_any x HIN.out HKEY.out w2).mono fun e w3 h => ?_)
            · clear dep old ho hsz hph hnot hyes hLi hA
              go_simp
            · obtain ⟨rfl, hb⟩ := h
              refine ⟨_, rfl, (fun u hu => Option.some.inj (Option.some.inj hu)), ?_⟩
              unfold phased
              rw [if_neg (by simp [also, hnot 6 (by kernel_rfl)])]
              exact hA.trans hb
          | 4, ho =>
            obtain rfl := Option.some.inj ho
            rw [if_pos (wanted_none rfl)]
            have o10 := old 10 (by kernel_rfl)
            refine wp_yields (v := .pointer (some ⟨wr.heap.size, 1, none⟩)) (w' := w2) ?_ (fun u hu => Option.some.inj (Option.some.inj hu)) (phased_quiet hLi (by rfl) hph)
            clear dep old ho hsz hph hnot hyes hLi
            go_simp
          | 5, ho =>
            obtain rfl := Option.some.inj ho
            rw [if_pos (wanted_none rfl)]
            have d4 : a.tmps.getD 58 undef = .pointer (some ⟨wr.heap.size, 1, none⟩) := dep 4 _ _ (by kernel_rfl) rfl rfl _ rfl
            have e4 : a.tmps[58]?.getD undef = .pointer (some ⟨wr.heap.size, 1, none⟩) := (Array.getD_eq_getD_getElem? ..).symm.trans d4
            have hA : Abv W w2 := phased_first (fun p hp => by simp only [List.mem_cons, List.not_mem_nil, or_false] at hp; rcases hp with rfl; exact hnot 6 (by kernel_rfl)) hph
            obtain ⟨c0, c1, c2, c3, c4, c5⟩ := call_cells ((SP.out.blk (i := 5) rfl).below hA)
            refine wp_yields (v := .agg #[.int .i64 x.t, .string x.key, .string x.val, .int .i64 x.p, .int .i64 x.s]) (w' := w2) ?_ (fun u hu => Option.some.inj (Option.some.inj hu)) (phased_quiet hLi (by rfl) hph)
            clear dep old ho hsz hph hnot hyes hLi hA
            go_simp
          | 6, ho =>
            obtain rfl := Option.some.inj ho
            rw [if_pos (wanted_none rfl)]
            have d0 : a.tmps.getD 54 undef = .map (some b) := dep 0 _ _ (by kernel_rfl) rfl rfl _ rfl
            have e0 : a.tmps[54]?.getD undef = .map (some b) := (Array.getD_eq_getD_getElem? ..).symm.trans d0
            have d3 : a.tmps.getD 57 undef = .string (nm x) := dep 3 _ _ (by kernel_rfl) rfl rfl _ rfl
            have e3 : a.tmps[57]?.getD undef = .string (nm x) := (Array.getD_eq_getD_getElem? ..).symm.trans d3
            have d5 : a.tmps.getD 59 undef = .agg #[.int .i64 x.t, .string x.key, .string x.val, .int .i64 x.p, .int .i64 x.s] := dep 5 _ _ (by kernel_rfl) rfl rfl _ rfl
            have e5 : a.tmps[59]?.getD undef = .agg #[.int .i64 x.t, .string x.key, .string x.val, .int .i64 x.p, .int .i64 x.s] := (Array.getD_eq_getD_getElem? ..).symm.trans d5
            unfold phased at hph
            rw [if_neg (by rw [hLi]; decide)] at hph
            have hA : Abv W w2 := hph
            obtain ⟨w', hr, hm', ht⟩ := MapS.store ((SP.out.map (i := 4) rfl).below hA) Try.underlying28 HNL.out (nm x) (nm_size HKEY.out) x
            refine wp_skips (w' := w') ?_ (fun u hu => by cases Option.some.inj hu) ?_
            · have hr2 : (Instr.mapUpdate 28 (.map (some b)) (.string (nm x)) (.agg #[.int .i64 x.t, .string x.key, .string x.val, .int .i64 x.p, .int .i64 x.s])).run Try.prog w2 = .ok () w' := hr
              clear dep old ho hsz hnot hyes hLi hph hA hr hm' ht
              go_simp
            · unfold phased
              rw [if_pos (by simp [also])]
              exact ⟨by simp [also, hyes 3 (by kernel_rfl)], w2, hA, hm', ht⟩
          | i + 7, ho => exact absurd ho (by simp)
        · intro a w3 hph hsz hdf fin keep
          unfold phased at hph
          rw [if_pos rfl] at hph
          obtain ⟨_, u, hA, hm', ht⟩ := hph
          have S3 := hide ((SP.out.below hA).mapped (i := 4) rfl hm' ht)
          obtain ⟨tm, df⟩ := a
          dsimp only at hdf
          subst hdf
          clear fin hA hm' ht u
          have hx := frame_of [54, 55, 56, 57, 58, 59] (by kernel_rfl) hsz keep
          dsimp only at hx
          simp only [List.foldl_cons, List.foldl_nil] at hx
          clear hsz keep
          generalize tm.getD 54 undef = y54 at hx
          generalize tm.getD 55 undef = y55 at hx
          generalize tm.getD 56 undef = y56 at hx
          generalize tm.getD 57 undef = y57 at hx
          generalize tm.getD 58 undef = y58 at hx
          generalize tm.getD 59 undef = y59 at hx
          simp only [List.setIfInBounds_toArray, List.set_cons_succ, List.set_cons_zero] at hx
          subst hx
          go_wp2
          go_roundw
          case rel => exact ⟨n + 1, putL x xs, _, _, by have := HLT.out; omega, by go_num, hide (S3.out.take 5), hide (htie.out.put HIN.out), hide (by have := hcn.out; split <;> omega)⟩
          case measure => simp [intOf]; have := HLT.out; omega
      · obtain rfl : n = cs.length := by omega
        clear hlt hk
        obtain ⟨m, hm4, handa⟩ := and3 h0
        obtain ⟨ms, hm8, handb⟩ := and7 h1
        obtain ⟨ts, hts⟩ : ∃ ts : Int, ts = (m : Int) := ⟨_, rfl⟩
        rw [← hts] at handa
        clear hts hm4
        have HC : Hid (c ≤ 200) := hide (by have := hcn.out; have := HFEW.out; omega)
        have HXL : Hid (xs.length ≤ 200) := hide (by have := htie.out.len; have := hcn.out; have := HFEW.out; omega)
        have HSR := hide htie.out.srt
        have hw0 := (hs.out.blk (i := 1) rfl).cell 0 _ rfl
        have hw1 := (hs.out.blk (i := 1) rfl).cell 1 _ rfl
        have hwl := (hs.out.blk (i := 1) rfl).lt
        go_wp2
        go_region
        have S5 : Hid (Ow w (fun _ => False) (wr.alloc (.cells #[.int .i64 (ms : Int)] 3)).drew [.blk w.heap.size 43 #[.string sa, .string sb], .blk (w.heap.size + 1) 44 #[.int .i64 h0, .int .i64 h1], .blk (w.heap.size + 2) 4 #[.bool false], .ix g xs, .map b cs.length f c, .blk wr.heap.size 3 #[.int .i64 ms]]) := hide ((hs.out.box 3 #[.int .i64 (ms : Int)]).below (Below.refl _ _).drew)
        clear hw0 hw1 hwl hs S3 HV HL hcn HFEW
        generalize (wr.alloc (.cells #[.int .i64 (ms : Int)] 3)).drew = w4 at *
        generalize wr.heap.size = tb at *
        have S6 := hide (S5.out.nil_its.box 25 #[.slice none 0 0])
        go_upto_block 2 with (go_at_call 17; (with_reducible refine (ow_sorted S6.out (i := 4) rfl htie.out HC.out).mono ?_); rintro e W ⟨v, rfl, hm⟩; obtain ⟨A1, c1, rfl⟩ := (hm.its (i := 8) rfl).form; have S7 := hide hm; clear hm)
        clear S5 S6
        generalize w4.heap.size = wb at *
        refine scans_loop S7.out HXL.out rfl rfl rfl rfl rfl rfl rfl rfl ?_
        intro tm' wq v2 hkeep hq0
        have hq := hide hq0
        obtain ⟨mm, y15, hml0, hx⟩ := slp_frame hkeep rfl
        obtain ⟨y70, y71, y72, y73, y74, y75, y76, y77, y78, y79, y80, y81, y82, y83, y84, y85, y86, y87, y88, y89, y90, y91, y92, y93, y94, y95, y96, y97, y98, y99, y100, y101, y102, y103, y104, y105, rfl⟩ := slots36 hml0
        clear hkeep hq0 hml0
        simp only [List.set_cons_succ, List.set_cons_zero, List.take_succ_cons, List.take_zero, List.drop_succ_cons, List.drop_zero, List.cons_append, List.nil_append] at hx
        subst hx
        rw [← scan_p HSR.out] at hq
        obtain ⟨A2, c2, hv2⟩ := (hq.out.its (i := 6) rfl).form
        subst hv2
        have HMF := hide (few_facts (scanL (sought ts sa) (sought ts sb) xs) ms)
        have HYL : Hid ((scanL (sought ts sa) (sought ts sb) xs).length ≤ 200) := hide (by have := scanL_length (sought ts sa) (sought ts sb) xs; have := HXL.out; omega)
        have HM8 : Hid (ms < 8) := hide hm8
        have hml := hm8
        generalize (scanL (sought ts sa) (sought ts sb) xs).take ms = M at *
        have n0 := (hq.out.blk (i := 0) rfl).cell 0 _ rfl
        have n1 := (hq.out.blk (i := 0) rfl).cell 1 _ rfl
        have nl := (hq.out.blk (i := 0) rfl).lt
        have S4 : Hid (Ow w (fun _ => False) (wq.alloc (.cells #[.int .i64 0] 3)) [.blk w.heap.size 43 #[.string sa, .string sb], .blk (w.heap.size + 1) 44 #[.int .i64 h0, .int .i64 h1], .blk (w.heap.size + 2) 4 #[.bool false], .ix g xs, .map b cs.length f c, .blk tb 3 #[.int .i64 ms], .its (.slice A2 M.length c2) M, .blk wb 25 #[(.slice A2 M.length c2)], .its (.slice A1 xs.length c1) xs, .blk wq.heap.size 3 #[.int .i64 (0 : Nat)]]) := hide (by
          have h := hq.out.box 3 #[.int .i64 (0 : Nat)]
          exact h)
        go_wp2_with (go_at_call 19; (with_reducible refine (Scan_any _ _ _ _ _).mono ?_); rintro e WS ⟨rfl, hsc⟩; have HSC := hide hsc; clear hsc)
        have hsz : (wq.alloc (.cells #[.int .i64 0] 3)).heap.size = wq.heap.size + 1 := by simp
        have p1 := HSC.out.x
        have p2 := HSC.out.lo
        have p3 := HSC.out.hi
        rw [hsz] at p1 p2 p3
        have S5 := hide (S4.out.below HSC.out.bel)
        clear HSC S4 hq S7 hsz n0 n1 nl hm8
        generalize wq.heap.size = nb at *
        generalize hY : (scanL (sought ts sa) (sought ts sb) xs) = Y at *
        obtain ⟨F, hF⟩ := S5.out
        have hwD := hF.kept.size
        refine wpIn_wide.1 (range_scan (n := 4) (by omega) Y rfl rfl ?hit (fun q F A => OwF w (fun _ => False) F A [.blk w.heap.size 43 #[.string sa, .string sb], .blk (w.heap.size + 1) 44 #[.int .i64 h0, .int .i64 h1], .blk (w.heap.size + 2) 4 #[.bool false], .ix g xs, .map b cs.length f c, .blk tb 3 #[.int .i64 ms], .its (.slice A2 M.length c2) M, .blk wb 25 #[(.slice A2 M.length c2)], .its (.slice A1 xs.length c1) xs, .blk nb 3 #[.int .i64 (q : Nat)]] ∧ q ≤ ms) (fun cd k A => cd = .exit 4 ∧ k = ms ∧ k < Y.length ∧ ∃ F, OwF w (fun _ => False) F A [.blk w.heap.size 43 #[.string sa, .string sb], .blk (w.heap.size + 1) 44 #[.int .i64 h0, .int .i64 h1], .blk (w.heap.size + 2) 4 #[.bool false], .ix g xs, .map b cs.length f c, .blk tb 3 #[.int .i64 ms], .its (.slice A2 M.length c2) M, .blk wb 25 #[(.slice A2 M.length c2)], .its (.slice A1 xs.length c1) xs, .blk nb 3 #[.int .i64 (ms : Nat)]] ∧ ¬ F WS.heap.size ∧ ¬ F (WS.heap.size + 1))
          (fun q F A B h e1 e2 hc => ⟨h.1.calm hc e1 e2 hwD, h.2⟩) (fun cd k A B h hc => let ⟨h1, h2, h3, F, h4, h5, h6⟩ := h; ⟨h1, h2, h3, F, h4.calm hc h5 h6 hwD, h5, h6⟩) ⟨F, ⟨hF, Nat.zero_le _⟩, hF.lt⟩ ?round ?done ?stop)
        case hit =>
          intro l W2 J Jx hW hR h0
          obtain ⟨r, hX⟩ := Ow.ix (i := 3) ⟨F, hF⟩ rfl
          subst hY
          exact Scan1_in 3 l (by omega) (hX.below hW) (Blk.below p1 hW) (Blk.below p2 hW) (Blk.below p3 hW) (J := J) (Jx := Jx) hR h0
        case round =>
          clear hF S5
          rintro q F x A hx ⟨hA, hqm⟩ e1 e2 hlA
          have hlt := (List.getElem?_eq_some_iff.1 hx).1
          have HX0 := hide hx
          have HLT := hide hlt
          have HQM := hide hqm
          have q0 : (0 : Int) ≤ (q : Int) := by omega
          have q1 : (q : Int) < 100 := by omega
          have HA := hide hA
          have E1 := hide e1
          have E2 := hide e2
          have HLA := hide hlA
          clear hA hx e1 e2 hlA hqm hlt hml
          unfold It.v
          dsimp only
          gi_wp2
          refine ⟨(Below.refl _ _).alloc (Nat.le_refl _) _, fun C hC hs2 => ?_⟩
          obtain ⟨F1, hF1, hnew⟩ := HA.out.round_in _ _ E1.out E2.out hwD HLA.out hC
          have hst := hF1.restart
          have i0 := (hst.blk (i := 9) rfl).cell 0 _ rfl
          have s0 := (hst.blk (i := 5) rfl).cell 0 _ rfl
          have HST := hide hst
          have HF1 := hide hF1
          have HNEW := hide hnew
          have HCS := hide (show A.heap.size ≤ C.heap.size by rw [hs2]; simp)
          clear hst hF1 hnew hC hs2
          by_cases hqs : (q : Int) = (ms : Int)
          · gi_wp2
            obtain rfl : q = ms := by omega
            exact ⟨Kept.refl _ _, rfl, rfl, HLT.out, F1, HF1.out.take 10, fun h => by (rcases HNEW.out _ h with h | h; exact E1.out h; have := HLA.out; omega), fun h => by (rcases HNEW.out _ h with h | h; exact E2.out h; have := HLA.out; omega)⟩
          · have hx := HMF.out.1 q x HX0.out (by have := HQM.out; omega)
            have hml := (List.getElem?_eq_some_iff.1 hx).1
            obtain ⟨gw, hb1⟩ : ∃ gw, A2 = some ⟨gw, 0, none⟩ := by
              obtain ⟨g', c', h, _⟩ := (HST.out.its (i := 6) rfl).block (by omega)
              injection h with h
              exact ⟨g', h⟩
            subst hb1
            have HX := hide hx
            have HQ := hide (show (0 : Int) ≤ (q : Int) ∧ (q : Int) < (M.length : Int) by omega)
            have HNE := hide (show ¬ (q : Int) = (M.length : Int) by omega)
            have HQS := hide (show ¬ q = ms by omega)
            clear hx hml
            gi_wp2
            refine region_growsD [Say.is (.int .i64 (q : Int)), Say.is (.slice (some ⟨gw, 0, none⟩) M.length c2), Say.is (.int .i64 (M.length : Int)), Say.is (.bool false), Say.is (.bool false), Say.is (.agg #[.int .i64 x.t, .string x.key, .string x.val, .int .i64 x.p, .int .i64 x.s]), Say.is (.slice (some ⟨gw, 0, none⟩) M.length c2), Say.is (.int .i64 (q : Int)), Say.is (.pointer (some ⟨gw, q * 5, none⟩)), Say.is (.agg #[.int .i64 x.t, .string x.key, .string x.val, .int .i64 x.p, .int .i64 x.s]), Say.is (.bool false), Say.is (.bool false)] (by kernel_rfl) (by kernel_rfl) (by kernel_rfl) (by kernel_rfl) (by kernel_rfl) ?_ ?_
            · intro i o ho a w2 hb hsz old dep
              match i, ho with
              | 0, ho =>
                obtain rfl := Option.some.inj ho
                have o16 : a.tmps.getD 16 undef = _ := old 16 (by kernel_rfl)
                rw [if_pos (wanted_none rfl)]
                have g0 := ((HST.out.below hb).blk (i := 9) rfl).cell 0 _ rfl
                refine grow_same (v := .int .i64 (q : Int)) ?_ rfl
                clear old dep ho hsz hb
                go_simp
              | 1, ho =>
                obtain rfl := Option.some.inj ho
                have o13 : a.tmps.getD 13 undef = _ := old 13 (by kernel_rfl)
                rw [if_pos (wanted_none rfl)]
                have g0 := ((HST.out.below hb).blk (i := 7) rfl).cell 0 _ rfl
                refine grow_same (v := .slice (some ⟨gw, 0, none⟩) M.length c2) ?_ rfl
                clear old dep ho hsz hb
                go_simp
              | 2, ho =>
                obtain rfl := Option.some.inj ho
                have d1 : a.tmps.getD 117 undef = .slice (some ⟨gw, 0, none⟩) M.length c2 := dep 1 _ _ (by kernel_rfl) rfl rfl
                have e1 : a.tmps[117]?.getD undef = _ := (Array.getD_eq_getD_getElem? ..).symm.trans d1
                rw [if_pos (wanted_none rfl)]
                refine grow_same (v := .int .i64 (M.length : Int)) ?_ rfl
                clear old dep ho hsz hb
                go_simp
              | 3, ho =>
                obtain rfl := Option.some.inj ho
                have d0 : a.tmps.getD 116 undef = .int .i64 (q : Int) := dep 0 _ _ (by kernel_rfl) rfl rfl
                have e0 : a.tmps[116]?.getD undef = _ := (Array.getD_eq_getD_getElem? ..).symm.trans d0
                have d2 : a.tmps.getD 118 undef = .int .i64 (M.length : Int) := dep 2 _ _ (by kernel_rfl) rfl rfl
                have e2 : a.tmps[118]?.getD undef = _ := (Array.getD_eq_getD_getElem? ..).symm.trans d2
                rw [if_pos (wanted_none rfl)]
                have g0 := HNE.out
                refine grow_same (v := .bool false) ?_ rfl
                clear old dep ho hsz hb
                go_simp
              | 4, ho =>
                obtain rfl := Option.some.inj ho
                have d3 : a.tmps.getD 119 undef = .bool false := dep 3 _ _ (by kernel_rfl) rfl rfl
                have e3 : a.tmps[119]?.getD undef = _ := (Array.getD_eq_getD_getElem? ..).symm.trans d3
                rw [if_pos (wanted_none rfl)]
                refine grow_same (v := .bool false) ?_ rfl
                clear old dep ho hsz hb
                go_simp
              | 5, ho =>
                obtain rfl := Option.some.inj ho
                have o17 : a.tmps.getD 17 undef = _ := old 17 (by kernel_rfl)
                have d4 : a.tmps.getD 120 undef = .bool false := dep 4 _ _ (by kernel_rfl) rfl rfl
                have e4 : a.tmps[120]?.getD undef = _ := (Array.getD_eq_getD_getElem? ..).symm.trans d4
                rw [if_pos (wanted_some rfl rfl rfl (by rw [hsz]; exact of_decide_eq_true rfl) d4)]
                obtain ⟨g0, g1, g2, g3, g4⟩ := item_cells ((HST.out.below hb).blk (i := 10) rfl)
                refine grow_same (v := .agg #[.int .i64 x.t, .string x.key, .string x.val, .int .i64 x.p, .int .i64 x.s]) ?_ rfl
                clear old dep ho hsz hb
                go_simp
              | 6, ho =>
                obtain rfl := Option.some.inj ho
                have o13 : a.tmps.getD 13 undef = _ := old 13 (by kernel_rfl)
                have d4 : a.tmps.getD 120 undef = .bool false := dep 4 _ _ (by kernel_rfl) rfl rfl
                have e4 : a.tmps[120]?.getD undef = _ := (Array.getD_eq_getD_getElem? ..).symm.trans d4
                rw [if_pos (wanted_some rfl rfl rfl (by rw [hsz]; exact of_decide_eq_true rfl) d4)]
                have g0 := ((HST.out.below hb).blk (i := 7) rfl).cell 0 _ rfl
                refine grow_same (v := .slice (some ⟨gw, 0, none⟩) M.length c2) ?_ rfl
                clear old dep ho hsz hb
                go_simp
              | 7, ho =>
                obtain rfl := Option.some.inj ho
                have o16 : a.tmps.getD 16 undef = _ := old 16 (by kernel_rfl)
                have d4 : a.tmps.getD 120 undef = .bool false := dep 4 _ _ (by kernel_rfl) rfl rfl
                have e4 : a.tmps[120]?.getD undef = _ := (Array.getD_eq_getD_getElem? ..).symm.trans d4
                rw [if_pos (wanted_some rfl rfl rfl (by rw [hsz]; exact of_decide_eq_true rfl) d4)]
                have g0 := ((HST.out.below hb).blk (i := 9) rfl).cell 0 _ rfl
                refine grow_same (v := .int .i64 (q : Int)) ?_ rfl
                clear old dep ho hsz hb
                go_simp
              | 8, ho =>
                obtain rfl := Option.some.inj ho
                have d6 : a.tmps.getD 122 undef = .slice (some ⟨gw, 0, none⟩) M.length c2 := dep 6 _ _ (by kernel_rfl) rfl rfl
                have e6 : a.tmps[122]?.getD undef = _ := (Array.getD_eq_getD_getElem? ..).symm.trans d6
                have d7 : a.tmps.getD 123 undef = .int .i64 (q : Int) := dep 7 _ _ (by kernel_rfl) rfl rfl
                have e7 : a.tmps[123]?.getD undef = _ := (Array.getD_eq_getD_getElem? ..).symm.trans d7
                have d4 : a.tmps.getD 120 undef = .bool false := dep 4 _ _ (by kernel_rfl) rfl rfl
                have e4 : a.tmps[120]?.getD undef = _ := (Array.getD_eq_getD_getElem? ..).symm.trans d4
                rw [if_pos (wanted_some rfl rfl rfl (by rw [hsz]; exact of_decide_eq_true rfl) d4)]
                have g0 := HQ.out.1
                have g1 := HQ.out.2
                refine grow_same (v := .pointer (some ⟨gw, q * 5, none⟩)) ?_ rfl
                clear old dep ho hsz hb
                go_simp
              | 9, ho =>
                obtain rfl := Option.some.inj ho
                have d8 : a.tmps.getD 124 undef = .pointer (some ⟨gw, q * 5, none⟩) := dep 8 _ _ (by kernel_rfl) rfl rfl
                have e8 : a.tmps[124]?.getD undef = _ := (Array.getD_eq_getD_getElem? ..).symm.trans d8
                have d4 : a.tmps.getD 120 undef = .bool false := dep 4 _ _ (by kernel_rfl) rfl rfl
                have e4 : a.tmps[120]?.getD undef = _ := (Array.getD_eq_getD_getElem? ..).symm.trans d4
                rw [if_pos (wanted_some rfl rfl rfl (by rw [hsz]; exact of_decide_eq_true rfl) d4)]
                obtain ⟨g0, g1, g2, g3, g4⟩ := Its.cells ((HST.out.below hb).its (i := 6) rfl) rfl HX.out
                refine grow_same (v := .agg #[.int .i64 x.t, .string x.key, .string x.val, .int .i64 x.p, .int .i64 x.s]) ?_ rfl
                clear old dep ho hsz hb
                go_simp
              | 10, ho =>
                obtain rfl := Option.some.inj ho
                have d5 : a.tmps.getD 121 undef = .agg #[.int .i64 x.t, .string x.key, .string x.val, .int .i64 x.p, .int .i64 x.s] := dep 5 _ _ (by kernel_rfl) rfl rfl
                have e5 : a.tmps[121]?.getD undef = _ := (Array.getD_eq_getD_getElem? ..).symm.trans d5
                have d9 : a.tmps.getD 125 undef = .agg #[.int .i64 x.t, .string x.key, .string x.val, .int .i64 x.p, .int .i64 x.s] := dep 9 _ _ (by kernel_rfl) rfl rfl
                have e9 : a.tmps[125]?.getD undef = _ := (Array.getD_eq_getD_getElem? ..).symm.trans d9
                have d4 : a.tmps.getD 120 undef = .bool false := dep 4 _ _ (by kernel_rfl) rfl rfl
                have e4 : a.tmps[120]?.getD undef = _ := (Array.getD_eq_getD_getElem? ..).symm.trans d4
                rw [if_pos (wanted_some rfl rfl rfl (by rw [hsz]; exact of_decide_eq_true rfl) d4)]
                refine grow_same (v := .bool false) ?_ rfl
                clear old dep ho hsz hb
                go_simp
              | 11, ho =>
                obtain rfl := Option.some.inj ho
                have d4 : a.tmps.getD 120 undef = .bool false := dep 4 _ _ (by kernel_rfl) rfl rfl
                have e4 : a.tmps[120]?.getD undef = _ := (Array.getD_eq_getD_getElem? ..).symm.trans d4
                have d10 : a.tmps.getD 126 undef = .bool false := dep 10 _ _ (by kernel_rfl) rfl rfl
                have e10 : a.tmps[126]?.getD undef = _ := (Array.getD_eq_getD_getElem? ..).symm.trans d10
                rw [if_pos (wanted_none rfl)]
                refine grow_same (v := .bool false) ?_ rfl
                clear old dep ho hsz hb
                go_simp
              | i + 12, ho => exact absurd ho (by simp)
            · intro a w9 hb hsz hdf fin keep
              obtain ⟨tm, df⟩ := a
              have hx := frame_of [116, 117, 118, 119, 120, 121, 122, 123, 124, 125, 126, 127] (by kernel_rfl) hsz keep
              dsimp only at hdf hx
              simp only [List.foldl_cons, List.foldl_nil] at hx
              subst hdf
              clear hsz keep
              have kn : tm.getD 116 undef = .int .i64 (q : Int) := fin 0 _ _ rfl rfl
              rw [kn] at hx
              clear kn
              have kn : tm.getD 117 undef = .slice (some ⟨gw, 0, none⟩) M.length c2 := fin 1 _ _ rfl rfl
              rw [kn] at hx
              clear kn
              have kn : tm.getD 118 undef = .int .i64 (M.length : Int) := fin 2 _ _ rfl rfl
              rw [kn] at hx
              clear kn
              have kn : tm.getD 119 undef = .bool false := fin 3 _ _ rfl rfl
              rw [kn] at hx
              clear kn
              have kn : tm.getD 120 undef = .bool false := fin 4 _ _ rfl rfl
              rw [kn] at hx
              clear kn
              have kn : tm.getD 121 undef = .agg #[.int .i64 x.t, .string x.key, .string x.val, .int .i64 x.p, .int .i64 x.s] := fin 5 _ _ rfl rfl
              rw [kn] at hx
              clear kn
              have kn : tm.getD 122 undef = .slice (some ⟨gw, 0, none⟩) M.length c2 := fin 6 _ _ rfl rfl
              rw [kn] at hx
              clear kn
              have kn : tm.getD 123 undef = .int .i64 (q : Int) := fin 7 _ _ rfl rfl
              rw [kn] at hx
              clear kn
              have kn : tm.getD 124 undef = .pointer (some ⟨gw, q * 5, none⟩) := fin 8 _ _ rfl rfl
              rw [kn] at hx
              clear kn
              have kn : tm.getD 125 undef = .agg #[.int .i64 x.t, .string x.key, .string x.val, .int .i64 x.p, .int .i64 x.s] := fin 9 _ _ rfl rfl
              rw [kn] at hx
              clear kn
              have kn : tm.getD 126 undef = .bool false := fin 10 _ _ rfl rfl
              rw [kn] at hx
              clear kn
              have kn : tm.getD 127 undef = .bool false := fin 11 _ _ rfl rfl
              rw [kn] at hx
              clear kn
              clear fin
              simp only [List.setIfInBounds_toArray, List.set_cons_succ, List.set_cons_zero] at hx
              subst hx
              have j0 := ((HST.out.below hb).blk (i := 9) rfl).cell 0 _ rfl
              have jf := ((HST.out.below hb).blk (i := 9) rfl).frozen 0
              have HB := hide hb
              clear hb
              gi_wp2
              obtain ⟨k1, F', k2, k3⟩ := HF1.out.round_out HNEW.out (show Ow C F1 _ [.blk w.heap.size 43 #[.string sa, .string sb], .blk (w.heap.size + 1) 44 #[.int .i64 h0, .int .i64 h1], .blk (w.heap.size + 2) 4 #[.bool false], .ix g xs, .map b cs.length f c, .blk tb 3 #[.int .i64 ms], .its (.slice (some ⟨gw, 0, none⟩) M.length c2) M, .blk wb 25 #[(.slice (some ⟨gw, 0, none⟩) M.length c2)], .its (.slice A1 xs.length c1) xs, .blk nb 3 #[.int .i64 (q + 1 : Nat)]] from ((HST.out.below HB.out).set_ (i := 9) rfl 0 _).take 10) HCS.out
              exact ⟨k1, F', ⟨k2, by have := HQM.out; have := HQS.out; omega⟩, k3⟩
        case done =>
          clear hF S5
          rintro F A ⟨hA, hqm⟩ e1 hK
          have hml2 := HMF.out.2.1 hqm
          rw [← hml2] at hA
          clear hml2 hqm p1 p2 p3
          have S4 := hide (hA.adopt e1 hwD hK)
          clear hA hK e1 hwD
          generalize WS.heap.size = d1 at *
          go_wp2_with (go_at_call 19; (with_reducible refine (Scan_any _ _ _ _ _).mono ?_); rintro e WT ⟨rfl, hsc⟩; have HSC := hide hsc; clear hsc)
          have p1 := HSC.out.x
          have S5 := hide (S4.out.below HSC.out.bel)
          clear HSC S4
          obtain ⟨F, hF⟩ := S5.out
          have hwD := hF.kept.size
          refine wpIn_wide.1 (range_scan (n := 4) (by omega) ([] : List It) rfl rfl ?hit1 (fun q F A => OwF w (fun _ => False) F A _) (fun _ _ _ => False)
            (fun q F A B h e1 e2 hc => h.calm hc e1 e2 hwD) (fun _ _ _ _ h _ => h) ⟨F, hF, hF.lt⟩ ?round1 ?done1 ?stop1)
          case hit1 =>
            intro l W2 J Jx hW hR h0
            exact Scan1_nil 3 l (by omega) (Blk.below p1 hW) hR h0
          case round1 =>
            intro q F x A hx
            exact absurd hx (by simp)
          case done1 =>
            clear hF S5
            rintro F w9 hA e1 hK
            have S9 := hide (hA.adopt e1 hwD hK)
            clear hA hK e1 p1 hwD
            go_wp2_with (first
              | (go_at_call 12; (with_reducible refine (put_nil0 _).mono ?_); rintro e W5 ⟨rfl, hb⟩; have T1 := hide (S9.out.below hb); clear hb)
              | (go_at_call 14; (with_reducible refine (Remove_nil _ _ _).mono ?_); rintro e W6 ⟨rfl, hb⟩; have T2 := hide (T1.out.below hb); clear hb)
              | (go_at_call 15; (with_reducible refine (Find_nil _ _ _).mono ?_); rintro e W7 ⟨rfl, hb⟩; have T3 := hide (T2.out.below hb); have i0 := (T3.out.blk (i := 9) rfl).cell 0 _ rfl; have il := (T3.out.blk (i := 9) rfl).lt; have v0 := (T3.out.blk (i := 7) rfl).cell 0 _ rfl; have vl := (T3.out.blk (i := 7) rfl).lt; have z0 := (T3.out.blk (i := 2) rfl).cell 0 _ rfl; have zf := (T3.out.blk (i := 2) rfl).frozen 0; have zl := (T3.out.blk (i := 2) rfl).lt; clear hb)
              | (go_at_call 16; (with_reducible refine (len_nil _).mono ?_); rintro e W8 ⟨rfl, rfl⟩))
            have R0 := (T3.out.set_ (i := 2) rfl 0 (.bool true)).box 32 #[.int .i64 0, .string ⟨#[]⟩, .string ⟨#[]⟩, .int .i64 0, .int .i64 0]
            have hK0 := R0.obj (i := 11) rfl
            have R1 := R0.taken (i := 11) rfl (.deferred none)
            have hK1 := R1.obj (i := 10) rfl
            have R2 := R1.taken (i := 10) rfl (.deferred none)
            refine ⟨by simp, .inl ⟨_, _, rfl, run_takeDeferred hK0, ?_⟩⟩
            refine ⟨by simp, .inl ⟨_, _, rfl, run_takeDeferred hK1, ?_⟩⟩
            have BZ := (R2.blk (i := 2) rfl).cell 0 _ rfl
            exact ⟨.bool true, by simp [results, Try.results4, go_sem, BZ], rfl, R2.bel⟩
          case stop1 => intro c k A h; exact h.elim
        case stop =>
          clear hF S5
          rintro cd k A ⟨rfl, rfl, hkl, F, hA, e1, e2⟩ hK
          refine wpIn_wide.2 ?_
          have hml2 := HMF.out.2.2.1 hkl
          rw [← hml2] at hA
          clear hml2 hkl e2 p1 p2 p3
          have S4 := hide (hA.adopt e1 hwD hK)
          clear hA hK e1 hwD
          generalize WS.heap.size = d1 at *
          go_wp2_with (go_at_call 19; (with_reducible refine (Scan_any _ _ _ _ _).mono ?_); rintro e WT ⟨rfl, hsc⟩; have HSC := hide hsc; clear hsc)
          have p1 := HSC.out.x
          have S5 := hide (S4.out.below HSC.out.bel)
          clear HSC S4
          obtain ⟨F, hF⟩ := S5.out
          have hwD := hF.kept.size
          refine wpIn_wide.1 (range_scan (n := 4) (by omega) ([] : List It) rfl rfl ?hit2 (fun q F A => OwF w (fun _ => False) F A _) (fun _ _ _ => False)
            (fun q F A B h e1 e2 hc => h.calm hc e1 e2 hwD) (fun _ _ _ _ h _ => h) ⟨F, hF, hF.lt⟩ ?round2 ?done2 ?stop2)
          case hit2 =>
            intro l W2 J Jx hW hR h0
            exact Scan1_nil 3 l (by omega) (Blk.below p1 hW) hR h0
          case round2 =>
            intro q F x A hx
            exact absurd hx (by simp)
          case done2 =>
            clear hF S5
            rintro F w9 hA e1 hK
            have S9 := hide (hA.adopt e1 hwD hK)
            clear hA hK e1 p1 hwD
            go_wp2_with (first
              | (go_at_call 12; (with_reducible refine (put_nil0 _).mono ?_); rintro e W5 ⟨rfl, hb⟩; have T1 := hide (S9.out.below hb); clear hb)
              | (go_at_call 14; (with_reducible refine (Remove_nil _ _ _).mono ?_); rintro e W6 ⟨rfl, hb⟩; have T2 := hide (T1.out.below hb); clear hb)
              | (go_at_call 15; (with_reducible refine (Find_nil _ _ _).mono ?_); rintro e W7 ⟨rfl, hb⟩; have T3 := hide (T2.out.below hb); have i0 := (T3.out.blk (i := 9) rfl).cell 0 _ rfl; have il := (T3.out.blk (i := 9) rfl).lt; have v0 := (T3.out.blk (i := 7) rfl).cell 0 _ rfl; have vl := (T3.out.blk (i := 7) rfl).lt; have z0 := (T3.out.blk (i := 2) rfl).cell 0 _ rfl; have zf := (T3.out.blk (i := 2) rfl).frozen 0; have zl := (T3.out.blk (i := 2) rfl).lt; clear hb)
              | (go_at_call 16; (with_reducible refine (len_nil _).mono ?_); rintro e W8 ⟨rfl, rfl⟩))
            have R0 := (T3.out.set_ (i := 2) rfl 0 (.bool true)).box 32 #[.int .i64 0, .string ⟨#[]⟩, .string ⟨#[]⟩, .int .i64 0, .int .i64 0]
            have hK0 := R0.obj (i := 11) rfl
            have R1 := R0.taken (i := 11) rfl (.deferred none)
            have hK1 := R1.obj (i := 10) rfl
            have R2 := R1.taken (i := 10) rfl (.deferred none)
            refine ⟨by simp, .inl ⟨_, _, rfl, run_takeDeferred hK0, ?_⟩⟩
            refine ⟨by simp, .inl ⟨_, _, rfl, run_takeDeferred hK1, ?_⟩⟩
            have BZ := (R2.blk (i := 2) rfl).cell 0 _ rfl
            exact ⟨.bool true, by simp [results, Try.results4, go_sem, BZ], rfl, R2.bel⟩
          case stop2 => intro c k A h; exact h.elim
end Go.Proofs.Ytkcomkllnhdohaa
