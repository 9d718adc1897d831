/-
  The walk of IndexStops.
-/
import Derived.Test.YtkcomkllnhdohaaLoop9
namespace Go.Proofs.Ytkcomkllnhdohaa
open Go.RowKit Go.Shelf
set_option linter.unusedSimpArgs false
set_option linter.unusedVariables false
attribute [local go_sem] Oper.semAt_some

set_option maxRecDepth 20000 in
set_option maxHeartbeats 16000000 in
theorem stops_walk (v : Value) (cs : List ICall) (sn : Int) (w : World) (hv : ICallRow w w.heap.size v cs) (_ : (Lit.int .i64 sn).wf = true) : Calls Try.prog 9 #[v, .int .i64 sn] w fun e w' => e = .returned (.bool true) ∧ Below w.heap.size w w' := by
  have S0 : Hid (Ow w (fun _ => False) ((w.alloc (.cells #[.int .i64 sn] 3)).alloc (.cells #[.bool false] 4)) [.blk w.heap.size 3 #[.int .i64 sn], .blk (w.heap.size + 1) 4 #[.bool false]]) := hide (by
    have h := ((Ow.start w).box 3 #[.int .i64 sn]).box 4 #[.bool false]
    rw [World.size_alloc] at h
    exact h)
  obtain ⟨⟨A0, cap, rfl, hlc, _⟩, _⟩ := id hv
  have HV := hide hv
  clear hv
  have hmm := @run_makeMap Try.prog
  cases hl : lightB cs
  · have HL := hide hl
    clear hl hlc hmm
    refine (callsIn_wide (n := 4)).1 ?_
    refine callsIn_of_wp_marks Try.func9 rfl trivial ?_ rfl
    refine wpIn_wide.2 ?_
    simp only [Try.ntmps9, List.size_toArray, List.length_cons, List.length_nil, Nat.reduceAdd, Nat.reduceSub, Array.replicate_succ, Array.replicate_zero, List.push_toArray, List.append_toArray, List.nil_append, List.cons_append]
    go_wp2_with (first
      | (go_at_call 10; (with_reducible refine (fit_any _).mono ?_); rintro e w1 ⟨rfl, hb⟩; have S1 := hide (S0.out.below hb); clear hb)
      | (go_at_call 11; (with_reducible refine (light_any (HV.out.below_all S1.out.bel)).mono ?_); rw [HL.out]; rintro e w2 ⟨rfl, hb⟩; have S2 := hide (S1.out.below hb); have r0 := (S2.out.blk (i := 1) rfl).cell 0 _ rfl; have r1 := (S2.out.blk (i := 1) rfl).frozen 0; have rl := (S2.out.blk (i := 1) rfl).lt; clear hb))
    exact ⟨.bool true, by simp [results, Try.results9, go_sem, r0, r1], rfl, (S2.out.set_ (i := 1) rfl 0 (.bool true)).bel⟩
  · have HL := hide hl
    have HFEW := hide (lightB_few hl)
    have hfew : (cs.length : Int) ≤ 120 := by have := lightB_few hl; omega
    clear hl hlc
    refine (callsIn_wide (n := 4)).1 ?_
    refine callsIn_of_wp_marks Try.func9 rfl trivial ?_ rfl
    refine wpIn_wide.2 ?_
    simp only [Try.ntmps9, List.size_toArray, List.length_cons, List.length_nil, Nat.reduceAdd, Nat.reduceSub, Array.replicate_succ, Array.replicate_zero, List.push_toArray, List.append_toArray, List.nil_append, List.cons_append]
    go_wp2_with (first
      | (go_at_call 10; (with_reducible refine (fit_any _).mono ?_); rintro e w1 ⟨rfl, hb⟩; have S1 := hide (S0.out.below hb); clear hb)
      | (go_at_call 11; (with_reducible refine (light_any (HV.out.below_all S1.out.bel)).mono ?_); rw [HL.out]; rintro e w2 ⟨rfl, hb⟩; have S2 := hide (S1.out.below hb); have r0 := (S2.out.blk (i := 1) rfl).cell 0 _ rfl; have r1 := (S2.out.blk (i := 1) rfl).frozen 0; have rl := (S2.out.blk (i := 1) rfl).lt; clear hb))
    have S3 : Hid (Ow w (fun _ => False) ((w2.alloc (.cells #[.slice none 0 0] 27)).alloc (.map #[] 0)) [.blk w.heap.size 3 #[.int .i64 sn], .blk (w.heap.size + 1) 4 #[.bool false], .ix w2.heap.size [], .map (w2.heap.size + 1) 0 (fun _ => none) 0]) := hide (by
      have h := S2.out.newix.newmap
      rw [World.size_alloc] at h
      exact h)
    clear r0 r1 rl S2 S1 S0 hmm
    generalize (w2.alloc (.cells #[.slice none 0 0] 27)).alloc (.map #[] 0) = w3 at *
    generalize hb0 : w2.heap.size + 1 = b at *
    generalize w2.heap.size = g at *
    clear hb0
    go_loopw [20] (fun i wr => ∃ (k : Nat) (xs : List It) (f : ByteArray → Option It) (c : Nat), k ≤ cs.length ∧ i = .int .i64 k ∧ Hid (Ow w (fun _ => False) wr [.blk w.heap.size 3 #[.int .i64 sn], .blk (w.heap.size + 1) 4 #[.bool false], .ix g xs, .map b k f c]) ∧ Hid (TieI f c xs) ∧ Hid (c ≤ k)) (fun i _ => cs.length - (intOf i).toNat)
    case atStart => exact ⟨0, [], _, 0, by omega, rfl, S3, hide TieI.nil, hide (Nat.le_refl _)⟩
    case round =>
      obtain ⟨n, xs, f, c, hk, rfl, hs, htie, hcn⟩ := hrel
      by_cases hlt : n < cs.length
      · obtain ⟨cl, hc⟩ : ∃ cl, cs[n]? = some cl := ⟨_, List.getElem?_eq_getElem hlt⟩
        obtain ⟨_, b1, o1, rfl, ⟨i0, i1, i2, i3, i4, i5⟩, _, hok⟩ := icall_cells HV.out hs.out.bel hc
        obtain ⟨ck, it⟩ := cl
        dsimp only at *
        obtain ⟨m, hm4, hand⟩ := and3 it.t
        obtain ⟨x, hx⟩ : ∃ x, x = it.low m := ⟨_, rfl⟩
        have HIN : Hid x.In := hide (by rw [hx]; exact it.low_in hm4)
        have HKEY : Hid (x.key.size ≤ 140737488351232) := hide (by rw [hx]; exact hok.key)
        have ex : (m : Int) = x.t ∧ it.key = x.key ∧ it.val = x.val ∧ it.p = x.p ∧ it.s = x.s := by rw [hx]; exact ⟨rfl, rfl, rfl, rfl, rfl⟩
        obtain ⟨e1, e2, e3, e4, e5⟩ := ex
        rw [e1] at hand
        rw [e2] at i2
        rw [e3] at i3
        rw [e4] at i4
        rw [e5] at i5
        have q0 : (0 : Int) ≤ (n : Int) := by omega
        have q1 : (n : Int) < (cs.length : Int) := by omega
        have HLT := hide hlt
        have HNL : Hid (n < maxLen) := hide (by have := HFEW.out; unfold maxLen; omega)
        have HXL : Hid (xs.length < 1000) := hide (by have := htie.out.len; have := hcn.out; have := HFEW.out; omega)
        clear hok hc e1 e2 e3 e4 e5 hx hm4 hlt
        have SB := hide (hs.out.box 34 #[.int .i64 ck, .int .i64 x.t, .string x.key, .string x.val, .int .i64 x.p, .int .i64 x.s])
        go_wp2_with (go_at_call 12; (with_reducible refine (ow_put SB.out (i := 2) rfl x HXL.out).mono ?_); rintro e W ⟨rfl, hm⟩; have SP := hide hm; clear hm)
        refine region_phases (ops := _) (valV [some (.map (some b)), some (.pointer (some ⟨wr.heap.size, 1, none⟩)), some (.agg #[.int .i64 x.t, .string x.key, .string x.val, .int .i64 x.p, .int .i64 x.s]), some (.string (nm x)), some (.pointer (some ⟨wr.heap.size, 1, none⟩)), some (.agg #[.int .i64 x.t, .string x.key, .string x.val, .int .i64 x.p, .int .i64 x.s]), none]) (phased [⟨6, 3, fun _ w => ∃ u, Abv W u ∧ MapS It.v w b (n + 1) (fun t => if t = nm x then some x else f t) (if (f (nm x)).isSome then c else c + 1) ∧ u.mapTurned w b⟩] (fun w => Abv W w)) (by kernel_rfl) (by kernel_rfl) (by kernel_rfl) (by kernel_rfl) (phased_ext (by kernel_rfl)) ?_ ?_ ?_
        · exact (Abv.refl _).drew
        · intro i o ho L a w2 hph hsz hLi hnot hyes old dep
          match i, ho with
          | 0, ho =>
            obtain rfl := Option.some.inj ho
            rw [if_pos (wanted_none rfl)]
            have o6 := old 6 (by kernel_rfl)
            refine wp_yields (v := .map (some b)) (w' := w2) ?_ (fun u hu => Option.some.inj (Option.some.inj hu)) (phased_quiet hLi (by rfl) hph)
            clear dep old ho hsz hph hnot hyes hLi
            go_simp
          | 1, ho =>
            obtain rfl := Option.some.inj ho
            rw [if_pos (wanted_none rfl)]
            have o8 := old 8 (by kernel_rfl)
            refine wp_yields (v := .pointer (some ⟨wr.heap.size, 1, none⟩)) (w' := w2) ?_ (fun u hu => Option.some.inj (Option.some.inj hu)) (phased_quiet hLi (by rfl) hph)
            clear dep old ho hsz hph hnot hyes hLi
            go_simp
          | 2, ho =>
            obtain rfl := Option.some.inj ho
            rw [if_pos (wanted_none rfl)]
            have d1 : a.tmps.getD 36 undef = .pointer (some ⟨wr.heap.size, 1, none⟩) := dep 1 _ _ (by kernel_rfl) rfl rfl _ rfl
            have e1 : a.tmps[36]?.getD undef = .pointer (some ⟨wr.heap.size, 1, none⟩) := (Array.getD_eq_getD_getElem? ..).symm.trans d1
            have hA : Abv W w2 := phased_first (fun p hp => by simp only [List.mem_cons, List.not_mem_nil, or_false] at hp; rcases hp with rfl; exact hnot 6 (by kernel_rfl)) hph
            obtain ⟨c0, c1, c2, c3, c4, c5⟩ := call_cells ((SP.out.blk (i := 4) rfl).below hA)
            refine wp_yields (v := .agg #[.int .i64 x.t, .string x.key, .string x.val, .int .i64 x.p, .int .i64 x.s]) (w' := w2) ?_ (fun u hu => Option.some.inj (Option.some.inj hu)) (phased_quiet hLi (by rfl) hph)
            clear dep old ho hsz hph hnot hyes hLi hA
            go_simp
          | 3, ho =>
            obtain rfl := Option.some.inj ho
            rw [if_pos (wanted_none rfl)]
            have d2 : a.tmps.getD 37 undef = .agg #[.int .i64 x.t, .string x.key, .string x.val, .int .i64 x.p, .int .i64 x.s] := dep 2 _ _ (by kernel_rfl) rfl rfl _ rfl
            have e2 : a.tmps[37]?.getD undef = .agg #[.int .i64 x.t, .string x.key, .string x.val, .int .i64 x.p, .int .i64 x.s] := (Array.getD_eq_getD_getElem? ..).symm.trans d2
            have hA : Abv W w2 := phased_first (fun p hp => by simp only [List.mem_cons, List.not_mem_nil, or_false] at hp; rcases hp with rfl; exact hnot 6 (by kernel_rfl)) hph
            refine wp_enters9 (f := 13) (args := #[.agg #[.int .i64 x.t, .string x.key, .string x.val, .int .i64 x.p, .int .i64 x.s]]) ?_ ((name_any x HIN.out HKEY.out w2).mono fun e w3 h => ?_)
            · clear dep old ho hsz hph hnot hyes hLi hA
              go_simp
            · obtain ⟨rfl, hb⟩ := h
              refine ⟨_, rfl, (fun u hu => Option.some.inj (Option.some.inj hu)), ?_⟩
              unfold phased
              rw [if_neg (by simp [also, hnot 6 (by kernel_rfl)])]
              exact hA.trans hb
          | 4, ho =>
            obtain rfl := Option.some.inj ho
            rw [if_pos (wanted_none rfl)]
            have o8 := old 8 (by kernel_rfl)
            refine wp_yields (v := .pointer (some ⟨wr.heap.size, 1, none⟩)) (w' := w2) ?_ (fun u hu => Option.some.inj (Option.some.inj hu)) (phased_quiet hLi (by rfl) hph)
            clear dep old ho hsz hph hnot hyes hLi
            go_simp
          | 5, ho =>
            obtain rfl := Option.some.inj ho
            rw [if_pos (wanted_none rfl)]
            have d4 : a.tmps.getD 39 undef = .pointer (some ⟨wr.heap.size, 1, none⟩) := dep 4 _ _ (by kernel_rfl) rfl rfl _ rfl
            have e4 : a.tmps[39]?.getD undef = .pointer (some ⟨wr.heap.size, 1, none⟩) := (Array.getD_eq_getD_getElem? ..).symm.trans d4
            have hA : Abv W w2 := phased_first (fun p hp => by simp only [List.mem_cons, List.not_mem_nil, or_false] at hp; rcases hp with rfl; exact hnot 6 (by kernel_rfl)) hph
            obtain ⟨c0, c1, c2, c3, c4, c5⟩ := call_cells ((SP.out.blk (i := 4) rfl).below hA)
            refine wp_yields (v := .agg #[.int .i64 x.t, .string x.key, .string x.val, .int .i64 x.p, .int .i64 x.s]) (w' := w2) ?_ (fun u hu => Option.some.inj (Option.some.inj hu)) (phased_quiet hLi (by rfl) hph)
            clear dep old ho hsz hph hnot hyes hLi hA
            go_simp
          | 6, ho =>
            obtain rfl := Option.some.inj ho
            rw [if_pos (wanted_none rfl)]
            have d0 : a.tmps.getD 35 undef = .map (some b) := dep 0 _ _ (by kernel_rfl) rfl rfl _ rfl
            have e0 : a.tmps[35]?.getD undef = .map (some b) := (Array.getD_eq_getD_getElem? ..).symm.trans d0
            have d3 : a.tmps.getD 38 undef = .string (nm x) := dep 3 _ _ (by kernel_rfl) rfl rfl _ rfl
            have e3 : a.tmps[38]?.getD undef = .string (nm x) := (Array.getD_eq_getD_getElem? ..).symm.trans d3
            have d5 : a.tmps.getD 40 undef = .agg #[.int .i64 x.t, .string x.key, .string x.val, .int .i64 x.p, .int .i64 x.s] := dep 5 _ _ (by kernel_rfl) rfl rfl _ rfl
            have e5 : a.tmps[40]?.getD undef = .agg #[.int .i64 x.t, .string x.key, .string x.val, .int .i64 x.p, .int .i64 x.s] := (Array.getD_eq_getD_getElem? ..).symm.trans d5
            unfold phased at hph
            rw [if_neg (by rw [hLi]; decide)] at hph
            have hA : Abv W w2 := hph
            obtain ⟨w', hr, hm', ht⟩ := MapS.store ((SP.out.map (i := 3) rfl).below hA) Try.underlying28 HNL.out (nm x) (nm_size HKEY.out) x
            refine wp_skips (w' := w') ?_ (fun u hu => by cases Option.some.inj hu) ?_
            · have hr2 : (Instr.mapUpdate 28 (.map (some b)) (.string (nm x)) (.agg #[.int .i64 x.t, .string x.key, .string x.val, .int .i64 x.p, .int .i64 x.s])).run Try.prog w2 = .ok () w' := hr
              clear dep old ho hsz hnot hyes hLi hph hA hr hm' ht
              go_simp
            · unfold phased
              rw [if_pos (by simp [also])]
              exact ⟨by simp [also, hyes 3 (by kernel_rfl)], w2, hA, hm', ht⟩
          | i + 7, ho => exact absurd ho (by simp)
        · intro a w3 hph hsz hdf fin keep
          unfold phased at hph
          rw [if_pos rfl] at hph
          obtain ⟨_, u, hA, hm', ht⟩ := hph
          have S3 := hide ((SP.out.below hA).mapped (i := 3) rfl hm' ht)
          obtain ⟨tm, df⟩ := a
          dsimp only at hdf
          subst hdf
          clear fin hA hm' ht u
          have hx := frame_of [35, 36, 37, 38, 39, 40] (by kernel_rfl) hsz keep
          dsimp only at hx
          simp only [List.foldl_cons, List.foldl_nil] at hx
          clear hsz keep
          generalize tm.getD 35 undef = y35 at hx
          generalize tm.getD 36 undef = y36 at hx
          generalize tm.getD 37 undef = y37 at hx
          generalize tm.getD 38 undef = y38 at hx
          generalize tm.getD 39 undef = y39 at hx
          generalize tm.getD 40 undef = y40 at hx
          simp only [List.setIfInBounds_toArray, List.set_cons_succ, List.set_cons_zero] at hx
          subst hx
          go_wp2
          go_roundw
          case rel => exact ⟨n + 1, putL x xs, _, _, by have := HLT.out; omega, by go_num, hide (S3.out.take 4), hide (htie.out.put HIN.out), hide (by have := hcn.out; split <;> omega)⟩
          case measure => simp [intOf]; have := HLT.out; omega
      · obtain rfl : n = cs.length := by omega
        clear hlt hk
        have HC : Hid (c ≤ 200) := hide (by have := hcn.out; have := HFEW.out; omega)
        obtain ⟨ms, hm32, hand⟩ := and31 sn
        go_wp2_with (go_at_call 17; (with_reducible refine (ow_sorted hs.out (i := 3) rfl htie.out HC.out).mono ?_); rintro e W ⟨v, rfl, hm⟩; obtain ⟨A1, c1, rfl⟩ := (hm.its (i := 4) rfl).form; have S4 := hide hm; have r0 := (S4.out.blk (i := 0) rfl).cell 0 _ rfl; have rf := (S4.out.blk (i := 0) rfl).frozen 0; have rl := (S4.out.blk (i := 0) rfl).lt; clear hm)
        have S5 : Hid (Ow w (fun _ => False) (((W.setCell ⟨w.heap.size, 0, none⟩ (.int .i64 ms)).alloc (.cells #[.slice A1 xs.length c1] 25)).alloc (.cells #[.int .i64 0] 3)) [.blk w.heap.size 3 #[.int .i64 ms], .blk (w.heap.size + 1) 4 #[.bool false], .ix g xs, .map b cs.length f c, .its (.slice A1 xs.length c1) xs, .blk W.heap.size 25 #[.slice A1 xs.length c1], .blk (W.heap.size + 1) 3 #[.int .i64 (0 : Nat)]]) := hide (by
          have h := ((S4.out.set_ (i := 0) rfl 0 (.int .i64 ms)).box 25 #[.slice A1 xs.length c1]).box 3 #[.int .i64 (0 : Nat)]
          have e : (W.setCell ⟨w.heap.size, 0, none⟩ (.int .i64 ms)).heap.size = W.heap.size := by simp [World.setCell]
          rw [World.size_alloc, e] at h
          exact h)
        clear r0 rf rl S4 hs S3 HV HL htie hcn HC HFEW hfew
        have HWB := hide (show (((W.setCell ⟨w.heap.size, 0, none⟩ (.int .i64 ms)).alloc (.cells #[.slice A1 xs.length c1] 25)).alloc (.cells #[.int .i64 0] 3)).heap.size = W.heap.size + 2 by simp [World.setCell])
        generalize (((W.setCell ⟨w.heap.size, 0, none⟩ (.int .i64 ms)).alloc (.cells #[.slice A1 xs.length c1] 25)).alloc (.cells #[.int .i64 0] 3)) = w5 at *
        generalize W.heap.size = wb at *
        have HL5 : Hid (w.heap.size + 1 < w5.heap.size) := hide (S5.out.blk (i := 1) rfl).lt
        obtain ⟨F, hF⟩ := S5.out
        have hwD := hF.kept.size
        refine wpIn_wide.1 (range_all (n := 4) (by omega) xs rfl rfl ?hit (fun q F A => OwF w (fun _ => False) F A [.blk w.heap.size 3 #[.int .i64 ms], .blk (w.heap.size + 1) 4 #[.bool false], .ix g xs, .map b cs.length f c, .its (.slice A1 xs.length c1) xs, .blk wb 25 #[.slice A1 xs.length c1], .blk (wb + 1) 3 #[.int .i64 (q : Nat)]] ∧ q ≤ ms) (fun cd k A => cd = .exit 2 ∧ k = ms ∧ k < xs.length ∧ ∃ F, OwF w (fun _ => False) F A [.blk w.heap.size 3 #[.int .i64 ms], .blk (w.heap.size + 1) 4 #[.bool false], .ix g xs, .map b cs.length f c, .its (.slice A1 xs.length c1) xs, .blk wb 25 #[.slice A1 xs.length c1], .blk (wb + 1) 3 #[.int .i64 (ms : Nat)]] ∧ ¬ F w5.heap.size ∧ ¬ F (w5.heap.size + 1))
          (fun q F A B h e1 e2 hc => ⟨h.1.calm hc e1 e2 hwD, h.2⟩) (fun cd k A B h hc => let ⟨h1, h2, h3, F, h4, h5, h6⟩ := h; ⟨h1, h2, h3, F, h4.calm hc h5 h6 hwD, h5, h6⟩) ⟨F, ⟨hF, Nat.zero_le _⟩, hF.lt⟩ ?round ?done ?stop)
        case hit =>
          intro l W2 J Jx hW hR h0
          obtain ⟨r, hX⟩ := Ow.ix (i := 2) ⟨F, hF⟩ rfl
          exact All_in 3 l (by omega) (hX.below hW) hR h0
        case round =>
          clear hF S5
          rintro q F x A hx ⟨hA, hqm⟩ e1 e2 hlA
          have hlt := (List.getElem?_eq_some_iff.1 hx).1
          obtain ⟨gw, hb1⟩ : ∃ gw, A1 = some ⟨gw, 0, none⟩ := by
            obtain ⟨g', c', h, _⟩ := (Ow.its (i := 4) ⟨F, hA⟩ rfl).block (by omega)
            injection h with h
            exact ⟨g', h⟩
          subst hb1
          have HX := hide hx
          have HQ := hide (show (0 : Int) ≤ (q : Int) ∧ (q : Int) < (xs.length : Int) by omega)
          have HNE := hide (show ¬ (q : Int) = (xs.length : Int) by omega)
          have HLT := hide hlt
          have HQM := hide hqm
          have q0 : (0 : Int) ≤ (q : Int) := by omega
          have q1 : (q : Int) < 100 := by omega
          have HA := hide hA
          have E1 := hide e1
          have E2 := hide e2
          have HLA := hide hlA
          clear hA hx e1 e2 hlA hqm hlt
          unfold It.v
          dsimp only
          gi_wp2
          refine ⟨(Below.refl _ _).alloc (Nat.le_refl _) _, fun C hC hs2 => ?_⟩
          obtain ⟨F1, hF1, hnew⟩ := HA.out.round_in _ _ E1.out E2.out hwD HLA.out hC
          have hst := hF1.restart
          have i0 := (hst.blk (i := 6) rfl).cell 0 _ rfl
          have s0 := (hst.blk (i := 0) rfl).cell 0 _ rfl
          have HST := hide hst
          have HF1 := hide hF1
          have HNEW := hide hnew
          have HCS := hide (show A.heap.size ≤ C.heap.size by rw [hs2]; simp)
          clear hst hF1 hnew hC hs2
          by_cases hqs : (q : Int) = (ms : Int)
          · gi_wp2
            obtain rfl : q = ms := by omega
            exact ⟨Kept.refl _ _, rfl, rfl, HLT.out, F1, HF1.out.take 7, fun h => by (rcases HNEW.out _ h with h | h; exact E1.out h; have := HLA.out; omega), fun h => by (rcases HNEW.out _ h with h | h; exact E2.out h; have := HLA.out; omega)⟩
          · gi_wp2
            refine region_growsD [Say.is (.int .i64 (q : Int)), Say.is (.slice (some ⟨gw, 0, none⟩) xs.length c1), Say.is (.int .i64 (xs.length : Int)), Say.is (.bool false), Say.is (.bool false), Say.is (.agg #[.int .i64 x.t, .string x.key, .string x.val, .int .i64 x.p, .int .i64 x.s]), Say.is (.slice (some ⟨gw, 0, none⟩) xs.length c1), Say.is (.int .i64 (q : Int)), Say.is (.pointer (some ⟨gw, q * 5, none⟩)), Say.is (.agg #[.int .i64 x.t, .string x.key, .string x.val, .int .i64 x.p, .int .i64 x.s]), Say.is (.bool false), Say.is (.bool false)] (by kernel_rfl) (by kernel_rfl) (by kernel_rfl) (by kernel_rfl) (by kernel_rfl) ?_ ?_
            · intro i o ho a w2 hb hsz old dep
              match i, ho with
              | 0, ho =>
                obtain rfl := Option.some.inj ho
                have o10 : a.tmps.getD 10 undef = _ := old 10 (by kernel_rfl)
                rw [if_pos (wanted_none rfl)]
                have g0 := ((HST.out.below hb).blk (i := 6) rfl).cell 0 _ rfl
                refine grow_same (v := .int .i64 (q : Int)) ?_ rfl
                clear old dep ho hsz hb
                go_simp
              | 1, ho =>
                obtain rfl := Option.some.inj ho
                have o9 : a.tmps.getD 9 undef = _ := old 9 (by kernel_rfl)
                rw [if_pos (wanted_none rfl)]
                have g0 := ((HST.out.below hb).blk (i := 5) rfl).cell 0 _ rfl
                refine grow_same (v := .slice (some ⟨gw, 0, none⟩) xs.length c1) ?_ rfl
                clear old dep ho hsz hb
                go_simp
              | 2, ho =>
                obtain rfl := Option.some.inj ho
                have d1 : a.tmps.getD 52 undef = .slice (some ⟨gw, 0, none⟩) xs.length c1 := dep 1 _ _ (by kernel_rfl) rfl rfl
                have e1 : a.tmps[52]?.getD undef = _ := (Array.getD_eq_getD_getElem? ..).symm.trans d1
                rw [if_pos (wanted_none rfl)]
                refine grow_same (v := .int .i64 (xs.length : Int)) ?_ rfl
                clear old dep ho hsz hb
                go_simp
              | 3, ho =>
                obtain rfl := Option.some.inj ho
                have d0 : a.tmps.getD 51 undef = .int .i64 (q : Int) := dep 0 _ _ (by kernel_rfl) rfl rfl
                have e0 : a.tmps[51]?.getD undef = _ := (Array.getD_eq_getD_getElem? ..).symm.trans d0
                have d2 : a.tmps.getD 53 undef = .int .i64 (xs.length : Int) := dep 2 _ _ (by kernel_rfl) rfl rfl
                have e2 : a.tmps[53]?.getD undef = _ := (Array.getD_eq_getD_getElem? ..).symm.trans d2
                rw [if_pos (wanted_none rfl)]
                have g0 := HNE.out
                refine grow_same (v := .bool false) ?_ rfl
                clear old dep ho hsz hb
                go_simp
              | 4, ho =>
                obtain rfl := Option.some.inj ho
                have d3 : a.tmps.getD 54 undef = .bool false := dep 3 _ _ (by kernel_rfl) rfl rfl
                have e3 : a.tmps[54]?.getD undef = _ := (Array.getD_eq_getD_getElem? ..).symm.trans d3
                rw [if_pos (wanted_none rfl)]
                refine grow_same (v := .bool false) ?_ rfl
                clear old dep ho hsz hb
                go_simp
              | 5, ho =>
                obtain rfl := Option.some.inj ho
                have o11 : a.tmps.getD 11 undef = _ := old 11 (by kernel_rfl)
                have d4 : a.tmps.getD 55 undef = .bool false := dep 4 _ _ (by kernel_rfl) rfl rfl
                have e4 : a.tmps[55]?.getD undef = _ := (Array.getD_eq_getD_getElem? ..).symm.trans d4
                rw [if_pos (wanted_some rfl rfl rfl (by rw [hsz]; exact of_decide_eq_true rfl) d4)]
                obtain ⟨g0, g1, g2, g3, g4⟩ := item_cells ((HST.out.below hb).blk (i := 7) rfl)
                refine grow_same (v := .agg #[.int .i64 x.t, .string x.key, .string x.val, .int .i64 x.p, .int .i64 x.s]) ?_ rfl
                clear old dep ho hsz hb
                go_simp
              | 6, ho =>
                obtain rfl := Option.some.inj ho
                have o9 : a.tmps.getD 9 undef = _ := old 9 (by kernel_rfl)
                have d4 : a.tmps.getD 55 undef = .bool false := dep 4 _ _ (by kernel_rfl) rfl rfl
                have e4 : a.tmps[55]?.getD undef = _ := (Array.getD_eq_getD_getElem? ..).symm.trans d4
                rw [if_pos (wanted_some rfl rfl rfl (by rw [hsz]; exact of_decide_eq_true rfl) d4)]
                have g0 := ((HST.out.below hb).blk (i := 5) rfl).cell 0 _ rfl
                refine grow_same (v := .slice (some ⟨gw, 0, none⟩) xs.length c1) ?_ rfl
                clear old dep ho hsz hb
                go_simp
              | 7, ho =>
                obtain rfl := Option.some.inj ho
                have o10 : a.tmps.getD 10 undef = _ := old 10 (by kernel_rfl)
                have d4 : a.tmps.getD 55 undef = .bool false := dep 4 _ _ (by kernel_rfl) rfl rfl
                have e4 : a.tmps[55]?.getD undef = _ := (Array.getD_eq_getD_getElem? ..).symm.trans d4
                rw [if_pos (wanted_some rfl rfl rfl (by rw [hsz]; exact of_decide_eq_true rfl) d4)]
                have g0 := ((HST.out.below hb).blk (i := 6) rfl).cell 0 _ rfl
                refine grow_same (v := .int .i64 (q : Int)) ?_ rfl
                clear old dep ho hsz hb
                go_simp
              | 8, ho =>
                obtain rfl := Option.some.inj ho
                have d6 : a.tmps.getD 57 undef = .slice (some ⟨gw, 0, none⟩) xs.length c1 := dep 6 _ _ (by kernel_rfl) rfl rfl
                have e6 : a.tmps[57]?.getD undef = _ := (Array.getD_eq_getD_getElem? ..).symm.trans d6
                have d7 : a.tmps.getD 58 undef = .int .i64 (q : Int) := dep 7 _ _ (by kernel_rfl) rfl rfl
                have e7 : a.tmps[58]?.getD undef = _ := (Array.getD_eq_getD_getElem? ..).symm.trans d7
                have d4 : a.tmps.getD 55 undef = .bool false := dep 4 _ _ (by kernel_rfl) rfl rfl
                have e4 : a.tmps[55]?.getD undef = _ := (Array.getD_eq_getD_getElem? ..).symm.trans d4
                rw [if_pos (wanted_some rfl rfl rfl (by rw [hsz]; exact of_decide_eq_true rfl) d4)]
                have g0 := HQ.out.1
                have g1 := HQ.out.2
                refine grow_same (v := .pointer (some ⟨gw, q * 5, none⟩)) ?_ rfl
                clear old dep ho hsz hb
                go_simp
              | 9, ho =>
                obtain rfl := Option.some.inj ho
                have d8 : a.tmps.getD 59 undef = .pointer (some ⟨gw, q * 5, none⟩) := dep 8 _ _ (by kernel_rfl) rfl rfl
                have e8 : a.tmps[59]?.getD undef = _ := (Array.getD_eq_getD_getElem? ..).symm.trans d8
                have d4 : a.tmps.getD 55 undef = .bool false := dep 4 _ _ (by kernel_rfl) rfl rfl
                have e4 : a.tmps[55]?.getD undef = _ := (Array.getD_eq_getD_getElem? ..).symm.trans d4
                rw [if_pos (wanted_some rfl rfl rfl (by rw [hsz]; exact of_decide_eq_true rfl) d4)]
                obtain ⟨g0, g1, g2, g3, g4⟩ := Its.cells ((HST.out.below hb).its (i := 4) rfl) rfl HX.out
                refine grow_same (v := .agg #[.int .i64 x.t, .string x.key, .string x.val, .int .i64 x.p, .int .i64 x.s]) ?_ rfl
                clear old dep ho hsz hb
                go_simp
              | 10, ho =>
                obtain rfl := Option.some.inj ho
                have d5 : a.tmps.getD 56 undef = .agg #[.int .i64 x.t, .string x.key, .string x.val, .int .i64 x.p, .int .i64 x.s] := dep 5 _ _ (by kernel_rfl) rfl rfl
                have e5 : a.tmps[56]?.getD undef = _ := (Array.getD_eq_getD_getElem? ..).symm.trans d5
                have d9 : a.tmps.getD 60 undef = .agg #[.int .i64 x.t, .string x.key, .string x.val, .int .i64 x.p, .int .i64 x.s] := dep 9 _ _ (by kernel_rfl) rfl rfl
                have e9 : a.tmps[60]?.getD undef = _ := (Array.getD_eq_getD_getElem? ..).symm.trans d9
                have d4 : a.tmps.getD 55 undef = .bool false := dep 4 _ _ (by kernel_rfl) rfl rfl
                have e4 : a.tmps[55]?.getD undef = _ := (Array.getD_eq_getD_getElem? ..).symm.trans d4
                rw [if_pos (wanted_some rfl rfl rfl (by rw [hsz]; exact of_decide_eq_true rfl) d4)]
                refine grow_same (v := .bool false) ?_ rfl
                clear old dep ho hsz hb
                go_simp
              | 11, ho =>
                obtain rfl := Option.some.inj ho
                have d4 : a.tmps.getD 55 undef = .bool false := dep 4 _ _ (by kernel_rfl) rfl rfl
                have e4 : a.tmps[55]?.getD undef = _ := (Array.getD_eq_getD_getElem? ..).symm.trans d4
                have d10 : a.tmps.getD 61 undef = .bool false := dep 10 _ _ (by kernel_rfl) rfl rfl
                have e10 : a.tmps[61]?.getD undef = _ := (Array.getD_eq_getD_getElem? ..).symm.trans d10
                rw [if_pos (wanted_none rfl)]
                refine grow_same (v := .bool false) ?_ rfl
                clear old dep ho hsz hb
                go_simp
              | i + 12, ho => exact absurd ho (by simp)
            · intro a w9 hb hsz hdf fin keep
              obtain ⟨tm, df⟩ := a
              have hx := frame_of [51, 52, 53, 54, 55, 56, 57, 58, 59, 60, 61, 62] (by kernel_rfl) hsz keep
              dsimp only at hdf hx
              simp only [List.foldl_cons, List.foldl_nil] at hx
              subst hdf
              clear hsz keep
              have kn : tm.getD 51 undef = .int .i64 (q : Int) := fin 0 _ _ rfl rfl
              rw [kn] at hx
              clear kn
              have kn : tm.getD 52 undef = .slice (some ⟨gw, 0, none⟩) xs.length c1 := fin 1 _ _ rfl rfl
              rw [kn] at hx
              clear kn
              have kn : tm.getD 53 undef = .int .i64 (xs.length : Int) := fin 2 _ _ rfl rfl
              rw [kn] at hx
              clear kn
              have kn : tm.getD 54 undef = .bool false := fin 3 _ _ rfl rfl
              rw [kn] at hx
              clear kn
              have kn : tm.getD 55 undef = .bool false := fin 4 _ _ rfl rfl
              rw [kn] at hx
              clear kn
              have kn : tm.getD 56 undef = .agg #[.int .i64 x.t, .string x.key, .string x.val, .int .i64 x.p, .int .i64 x.s] := fin 5 _ _ rfl rfl
              rw [kn] at hx
              clear kn
              have kn : tm.getD 57 undef = .slice (some ⟨gw, 0, none⟩) xs.length c1 := fin 6 _ _ rfl rfl
              rw [kn] at hx
              clear kn
              have kn : tm.getD 58 undef = .int .i64 (q : Int) := fin 7 _ _ rfl rfl
              rw [kn] at hx
              clear kn
              have kn : tm.getD 59 undef = .pointer (some ⟨gw, q * 5, none⟩) := fin 8 _ _ rfl rfl
              rw [kn] at hx
              clear kn
              have kn : tm.getD 60 undef = .agg #[.int .i64 x.t, .string x.key, .string x.val, .int .i64 x.p, .int .i64 x.s] := fin 9 _ _ rfl rfl
              rw [kn] at hx
              clear kn
              have kn : tm.getD 61 undef = .bool false := fin 10 _ _ rfl rfl
              rw [kn] at hx
              clear kn
              have kn : tm.getD 62 undef = .bool false := fin 11 _ _ rfl rfl
              rw [kn] at hx
              clear kn
              clear fin
              simp only [List.setIfInBounds_toArray, List.set_cons_succ, List.set_cons_zero] at hx
              subst hx
              have j0 := ((HST.out.below hb).blk (i := 6) rfl).cell 0 _ rfl
              have jf := ((HST.out.below hb).blk (i := 6) rfl).frozen 0
              have HB := hide hb
              clear hb
              gi_wp2
              obtain ⟨k1, F', k2, k3⟩ := HF1.out.round_out HNEW.out (show Ow C F1 _ [.blk w.heap.size 3 #[.int .i64 ms], .blk (w.heap.size + 1) 4 #[.bool false], .ix g xs, .map b cs.length f c, .its (.slice (some ⟨gw, 0, none⟩) xs.length c1) xs, .blk wb 25 #[.slice (some ⟨gw, 0, none⟩) xs.length c1], .blk (wb + 1) 3 #[.int .i64 (q + 1 : Nat)]] from ((HST.out.below HB.out).set_ (i := 6) rfl 0 _).take 7) HCS.out
              exact ⟨k1, F', ⟨k2, by have := HQM.out; omega⟩, k3⟩
        case done =>
          clear hF S5
          rintro F A ⟨hA, hqm⟩ e1 hK
          have hmin : min (ms : Int) (xs.length : Int) = (xs.length : Int) := by omega
          have HA := hide hA
          have HK := hide hK
          have HLD := hide (show w.heap.size + 1 < w5.heap.size from HL5.out)
          have i0 := (Ow.blk (i := 6) ⟨_, hA⟩ rfl).cell 0 _ rfl
          have s0 := (Ow.blk (i := 0) ⟨_, hA⟩ rfl).cell 0 _ rfl
          have v0 := (Ow.blk (i := 5) ⟨_, hA⟩ rfl).cell 0 _ rfl
          have z0 := (Ow.blk (i := 1) ⟨_, hA⟩ rfl).cell 0 _ rfl
          have zf := (Ow.blk (i := 1) ⟨_, hA⟩ rfl).frozen 0
          clear hA hK
          go_wp2
          have hK9 := (Below.heap_setCell A ⟨w.heap.size + 1, 0, none⟩ (.bool true) w5.heap.size (by show w5.heap.size ≠ w.heap.size + 1; have := HLD.out; omega)).trans HK.out
          have R9 := Ow.set_ (i := 1) ⟨_, HA.out⟩ rfl 0 (.bool true)
          refine ⟨by simp, .inl ⟨_, _, rfl, run_takeDeferred hK9, ?_⟩⟩
          have BZ := ((Calm.put w5.heap.size w5.heap.size (A.setCell ⟨w.heap.size + 1, 0, none⟩ (.bool true)) (.deferred none) (.inl rfl)).blk (Ow.blk (i := 1) R9 rfl) (by have := HLD.out; omega) (by have := HLD.out; omega)).cell 0 _ rfl
          exact ⟨.bool true, by simp [results, Try.results9, go_sem, BZ], rfl, ow_end R9 hwD⟩
        case stop =>
          clear hF S5
          rintro cd k A ⟨rfl, rfl, hkl, F, hA, e1, e2⟩ hK
          refine wpIn_wide.2 ?_
          have hmin : min (k : Int) (xs.length : Int) = (k : Int) := by omega
          have HA := hide hA
          have HK := hide hK
          have HLD := hide (show w.heap.size + 1 < w5.heap.size from HL5.out)
          have i0 := (Ow.blk (i := 6) ⟨_, hA⟩ rfl).cell 0 _ rfl
          have s0 := (Ow.blk (i := 0) ⟨_, hA⟩ rfl).cell 0 _ rfl
          have v0 := (Ow.blk (i := 5) ⟨_, hA⟩ rfl).cell 0 _ rfl
          have z0 := (Ow.blk (i := 1) ⟨_, hA⟩ rfl).cell 0 _ rfl
          have zf := (Ow.blk (i := 1) ⟨_, hA⟩ rfl).frozen 0
          clear hA hK
          go_wp2
          have hK9 := (Below.heap_setCell A ⟨w.heap.size + 1, 0, none⟩ (.bool true) w5.heap.size (by show w5.heap.size ≠ w.heap.size + 1; have := HLD.out; omega)).trans HK.out
          have R9 := Ow.set_ (i := 1) ⟨_, HA.out⟩ rfl 0 (.bool true)
          refine ⟨by simp, .inl ⟨_, _, rfl, run_takeDeferred hK9, ?_⟩⟩
          have BZ := ((Calm.put w5.heap.size w5.heap.size (A.setCell ⟨w.heap.size + 1, 0, none⟩ (.bool true)) (.deferred none) (.inl rfl)).blk (Ow.blk (i := 1) R9 rfl) (by have := HLD.out; omega) (by have := HLD.out; omega)).cell 0 _ rfl
          exact ⟨.bool true, by simp [results, Try.results9, go_sem, BZ], rfl, ow_end R9 hwD⟩
end Go.Proofs.Ytkcomkllnhdohaa
