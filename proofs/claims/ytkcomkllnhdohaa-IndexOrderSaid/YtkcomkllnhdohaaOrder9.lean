/-
  The walk of IndexOrder.
-/
import Derived.Test.YtkcomkllnhdohaaList9
namespace Go.Proofs.Ytkcomkllnhdohaa
open Go.RowKit Go.Shelf
set_option linter.unusedSimpArgs false
set_option linter.unusedVariables false
attribute [local go_sem] Oper.semAt_some

set_option maxRecDepth 20000 in
set_option maxHeartbeats 16000000 in
theorem order_walk (v : Value) (cs : List ICall) (sn : Int) (w : World) (hv : ICallRow w w.heap.size v cs) (_ : (Lit.int .i64 sn).wf = true) : Calls Try.prog 6 #[v, .int .i64 sn] w fun e w' => e = .returned (.bool true) ∧ Below w.heap.size w w' := by
  have S0 : Hid (Ow w (fun _ => False) (w.alloc (.cells #[.bool false] 4)) [.blk w.heap.size 4 #[.bool false]]) := hide ((Ow.start w).box 4 #[.bool false])
  obtain ⟨⟨A0, cap, rfl, hlc, _⟩, _⟩ := id hv
  have HV := hide hv
  clear hv
  have hmm := @run_makeMap Try.prog
  cases hl : lightB cs
  · have HL := hide hl
    clear hl hlc hmm
    refine (callsIn_wide (n := 4)).1 ?_
    refine callsIn_of_wp_marks Try.func6 rfl trivial ?_ rfl
    refine wpIn_wide.2 ?_
    simp only [Try.ntmps6, List.size_toArray, List.length_cons, List.length_nil, Nat.reduceAdd, Nat.reduceSub, Array.replicate_succ, Array.replicate_zero, List.push_toArray, List.append_toArray, List.nil_append, List.cons_append]
    go_wp2_with (first
      | (go_at_call 10; (with_reducible refine (fit_any _).mono ?_); rintro e w1 ⟨rfl, hb⟩; have S1 := hide (S0.out.below hb); clear hb)
      | (go_at_call 11; (with_reducible refine (light_any (HV.out.below_all S1.out.bel)).mono ?_); rw [HL.out]; rintro e w2 ⟨rfl, hb⟩; have S2 := hide (S1.out.below hb); have r0 := (S2.out.blk (i := 0) rfl).cell 0 _ rfl; have r1 := (S2.out.blk (i := 0) rfl).frozen 0; have rl := (S2.out.blk (i := 0) rfl).lt; clear hb))
    exact ⟨.bool true, by simp [results, Try.results6, go_sem, r0, r1], rfl, (S2.out.set_ (i := 0) rfl 0 (.bool true)).bel⟩
  · have HL := hide hl
    have HFEW := hide (lightB_few hl)
    have hfew : (cs.length : Int) ≤ 120 := by have := lightB_few hl; omega
    clear hl hlc
    by_cases h0 : cs.length = 0
    · obtain rfl : cs = [] := List.eq_nil_of_length_eq_zero h0
      refine (callsIn_wide (n := 4)).1 ?_
      refine callsIn_of_wp_marks Try.func6 rfl trivial ?_ rfl
      refine wpIn_wide.2 ?_
      simp only [Try.ntmps6, List.size_toArray, List.length_cons, List.length_nil, Nat.reduceAdd, Nat.reduceSub, Array.replicate_succ, Array.replicate_zero, List.push_toArray, List.append_toArray, List.nil_append, List.cons_append]
      go_wp2_with (first
        | (go_at_call 10; (with_reducible refine (fit_any _).mono ?_); rintro e w1 ⟨rfl, hb⟩; have S1 := hide (S0.out.below hb); clear hb)
        | (go_at_call 11; (refine (light_any (HV.out.below_all S1.out.bel)).mono ?_); rw [HL.out]; rintro e w2 ⟨rfl, hb⟩; have S2 := hide (S1.out.below hb); have r0 := (S2.out.blk (i := 0) rfl).cell 0 _ rfl; have r1 := (S2.out.blk (i := 0) rfl).frozen 0; have rl := (S2.out.blk (i := 0) rfl).lt; clear hb))
      exact ⟨.bool true, by simp [results, Try.results6, go_sem, r0, r1], rfl, (S2.out.set_ (i := 0) rfl 0 (.bool true)).bel⟩
    have h0i : ((cs.length : Int) == 0) = false := by (rw [beq_eq_false_iff_ne]; omega)
    have HPOS : Hid (0 < cs.length) := hide (by omega)
    clear h0
    refine (callsIn_wide (n := 4)).1 ?_
    refine callsIn_of_wp_marks Try.func6 rfl trivial ?_ rfl
    refine wpIn_wide.2 ?_
    simp only [Try.ntmps6, List.size_toArray, List.length_cons, List.length_nil, Nat.reduceAdd, Nat.reduceSub, Array.replicate_succ, Array.replicate_zero, List.push_toArray, List.append_toArray, List.nil_append, List.cons_append]
    go_wp2_with (first
      | (go_at_call 10; (with_reducible refine (fit_any _).mono ?_); rintro e w1 ⟨rfl, hb⟩; have S1 := hide (S0.out.below hb); clear hb)
      | (go_at_call 11; (with_reducible refine (light_any (HV.out.below_all S1.out.bel)).mono ?_); rw [HL.out]; rintro e w2 ⟨rfl, hb⟩; have S2 := hide (S1.out.below hb); have r0 := (S2.out.blk (i := 0) rfl).cell 0 _ rfl; have r1 := (S2.out.blk (i := 0) rfl).frozen 0; have rl := (S2.out.blk (i := 0) rfl).lt; clear hb))
    have S3 : Hid (Ow w (fun _ => False) (w2.alloc (.map #[] 0)) [.blk w.heap.size 4 #[.bool false], .map w2.heap.size 0 (fun _ => none) 0, .its (.slice none 0 0) []]) := hide S2.out.newmap.nil_its
    clear r0 r1 rl S2 S1 S0 hmm
    generalize (w2.alloc (.map #[] 0)) = w3 at *
    generalize w2.heap.size = b at *
    go_loopw [6, 32] (fun u i wr => ∃ (n k : Nat) (l xs : List It) (f : ByteArray → Option It) (c : Nat), n ≤ cs.length ∧ i = .int .i64 n ∧ Hid (Ow w (fun _ => False) wr [.blk w.heap.size 4 #[.bool false], .map b k f c, .its u l]) ∧ Hid (TieI f c xs) ∧ Hid (LO f c l n) ∧ Hid (k ≤ n)) (fun _ i _ => cs.length - (intOf i).toNat)
    case atStart => exact ⟨0, 0, [], [], _, 0, by omega, rfl, S3, hide TieI.nil, hide LO.nil, hide (Nat.le_refl _)⟩
    case round =>
      obtain ⟨n, k, l, xs, f, c, hk, rfl, hs, htie, hlo, hkn⟩ := hrel
      by_cases hlt : n < cs.length
      · obtain ⟨cl, hc⟩ : ∃ cl, cs[n]? = some cl := ⟨_, List.getElem?_eq_getElem hlt⟩
        obtain ⟨_, b1, o1, rfl, ⟨i0, i1, i2, i3, i4, i5⟩, _, hok⟩ := icall_cells HV.out hs.out.bel hc
        obtain ⟨ck, it⟩ := cl
        dsimp only at *
        obtain ⟨m, hm4, hand⟩ := and3 it.t
        obtain ⟨x, hx⟩ : ∃ x, x = it.low m := ⟨_, rfl⟩
        have HIN : Hid x.In := hide (by rw [hx]; exact it.low_in hm4)
        have HKEY : Hid (x.key.size ≤ 140737488351232) := hide (by rw [hx]; exact hok.key)
        have ex : (m : Int) = x.t ∧ it.key = x.key ∧ it.val = x.val ∧ it.p = x.p ∧ it.s = x.s := by rw [hx]; exact ⟨rfl, rfl, rfl, rfl, rfl⟩
        obtain ⟨e1, e2, e3, e4, e5⟩ := ex
        rw [e1] at hand
        rw [e2] at i2
        rw [e3] at i3
        rw [e4] at i4
        rw [e5] at i5
        have q0 : (0 : Int) ≤ (n : Int) := by omega
        have q1 : (n : Int) < (cs.length : Int) := by omega
        have HLT := hide hlt
        have HNL : Hid (k < maxLen) := hide (by have := hkn.out; have := HFEW.out; unfold maxLen; omega)
        have HFW : Hid (l.length ≤ 100000) := hide (by have := hlo.out.len; have := hlo.out.few; have := HFEW.out; omega)
        clear hok hc e1 e2 e3 e4 e5 hx hm4 hlt
        have SB := hide (hs.out.box 34 #[.int .i64 ck, .int .i64 x.t, .string x.key, .string x.val, .int .i64 x.p, .int .i64 x.s])
        obtain ⟨z, hz⟩ : ∃ z, (f (nm x)).getD default = z := ⟨_, rfl⟩
        have HZ := hide hz
        clear hz
        cases hbb : (f (nm x)).isSome
        · go_wp2_with (first
            | (go_at_call 13; (with_reducible refine (name_agg x HIN.out HKEY.out _).mono ?_); rintro e W8 ⟨rfl, hb⟩; have S5 := hide (SB.out.below hb); have hlk := MapS.look_ok (S5.out.map (i := 1) rfl) Try.underlying28 (z := default) zeroI (nm x) (nm_size HKEY.out) W8 rfl; rw [HZ.out, hbb] at hlk; unfold It.v at hlk; have S6 := hide (S5.out.box 32 #[.int .i64 z.t, .string z.key, .string z.val, .int .i64 z.p, .int .i64 z.s]); clear hb))
          have HBB := hide hbb
          clear hlk hbb SB S5
          generalize W8.alloc (.cells #[.int .i64 z.t, .string z.key, .string z.val, .int .i64 z.p, .int .i64 z.s] 32) = W9 at *
          refine region_phases (ops := _) (valV [some (.map (some b)), some (.pointer (some ⟨wr.heap.size, 1, none⟩)), some (.agg #[.int .i64 x.t, .string x.key, .string x.val, .int .i64 x.p, .int .i64 x.s]), some (.string (nm x)), some (.pointer (some ⟨wr.heap.size, 1, none⟩)), some (.agg #[.int .i64 x.t, .string x.key, .string x.val, .int .i64 x.p, .int .i64 x.s]), none]) (phased [⟨6, 3, fun _ w => ∃ u, Abv W9 u ∧ MapS It.v w b (k + 1) (fun t => if t = nm x then some x else f t) (if (f (nm x)).isSome then c else c + 1) ∧ u.mapTurned w b⟩] (fun w => Abv W9 w)) (by kernel_rfl) (by kernel_rfl) (by kernel_rfl) (by kernel_rfl) (phased_ext (by kernel_rfl)) ?_ ?_ ?_
          · exact (Abv.refl _).drew
          · intro i o ho L a w2 hph hsz hLi hnot hyes old dep
            match i, ho with
            | 0, ho =>
              obtain rfl := Option.some.inj ho
              rw [if_pos (wanted_none rfl)]
              have o5 := old 5 (by kernel_rfl)
              refine wp_yields (v := .map (some b)) (w' := w2) ?_ (fun u hu => Option.some.inj (Option.some.inj hu)) (phased_quiet hLi (by rfl) hph)
              clear dep old ho hsz hph hnot hyes hLi
              go_simp
            | 1, ho =>
              obtain rfl := Option.some.inj ho
              rw [if_pos (wanted_none rfl)]
              have o8 := old 8 (by kernel_rfl)
              refine wp_yields (v := .pointer (some ⟨wr.heap.size, 1, none⟩)) (w' := w2) ?_ (fun u hu => Option.some.inj (Option.some.inj hu)) (phased_quiet hLi (by rfl) hph)
              clear dep old ho hsz hph hnot hyes hLi
              go_simp
            | 2, ho =>
              obtain rfl := Option.some.inj ho
              rw [if_pos (wanted_none rfl)]
              have d1 : a.tmps.getD 55 undef = .pointer (some ⟨wr.heap.size, 1, none⟩) := dep 1 _ _ (by kernel_rfl) rfl rfl _ rfl
              have e1 : a.tmps[55]?.getD undef = .pointer (some ⟨wr.heap.size, 1, none⟩) := (Array.getD_eq_getD_getElem? ..).symm.trans d1
              have hA : Abv W9 w2 := phased_first (fun p hp => by simp only [List.mem_cons, List.not_mem_nil, or_false] at hp; rcases hp with rfl; exact hnot 6 (by kernel_rfl)) hph
              obtain ⟨c0, c1, c2, c3, c4, c5⟩ := call_cells ((S6.out.blk (i := 3) rfl).below hA)
              refine wp_yields (v := .agg #[.int .i64 x.t, .string x.key, .string x.val, .int .i64 x.p, .int .i64 x.s]) (w' := w2) ?_ (fun u hu => Option.some.inj (Option.some.inj hu)) (phased_quiet hLi (by rfl) hph)
              clear dep old ho hsz hph hnot hyes hLi hA
              go_simp
            | 3, ho =>
              obtain rfl := Option.some.inj ho
              rw [if_pos (wanted_none rfl)]
              have d2 : a.tmps.getD 56 undef = .agg #[.int .i64 x.t, .string x.key, .string x.val, .int .i64 x.p, .int .i64 x.s] := dep 2 _ _ (by kernel_rfl) rfl rfl _ rfl
              have e2 : a.tmps[56]?.getD undef = .agg #[.int .i64 x.t, .string x.key, .string x.val, .int .i64 x.p, .int .i64 x.s] := (Array.getD_eq_getD_getElem? ..).symm.trans d2
              have hA : Abv W9 w2 := phased_first (fun p hp => by simp only [List.mem_cons, List.not_mem_nil, or_false] at hp; rcases hp with rfl; exact hnot 6 (by kernel_rfl)) hph
              refine wp_enters9 (f := 13) (args := #[.agg #[.int .i64 x.t, .string x.key, .string x.val, .int .i64 x.p, .int .i64 x.s]]) ?_ ((name_any x HIN.out HKEY.out w2).mono fun e w3 h => ?_)
              · clear dep old ho hsz hph hnot hyes hLi hA
                go_simp
              · obtain ⟨rfl, hb⟩ := h
                refine ⟨_, rfl, (fun u hu => Option.some.inj (Option.some.inj hu)), ?_⟩
                unfold phased
                rw [if_neg (by simp [also, hnot 6 (by kernel_rfl)])]
                exact hA.trans hb
            | 4, ho =>
              obtain rfl := Option.some.inj ho
              rw [if_pos (wanted_none rfl)]
              have o8 := old 8 (by kernel_rfl)
              refine wp_yields (v := .pointer (some ⟨wr.heap.size, 1, none⟩)) (w' := w2) ?_ (fun u hu => Option.some.inj (Option.some.inj hu)) (phased_quiet hLi (by rfl) hph)
              clear dep old ho hsz hph hnot hyes hLi
              go_simp
            | 5, ho =>
              obtain rfl := Option.some.inj ho
              rw [if_pos (wanted_none rfl)]
              have d4 : a.tmps.getD 58 undef = .pointer (some ⟨wr.heap.size, 1, none⟩) := dep 4 _ _ (by kernel_rfl) rfl rfl _ rfl
              have e4 : a.tmps[58]?.getD undef = .pointer (some ⟨wr.heap.size, 1, none⟩) := (Array.getD_eq_getD_getElem? ..).symm.trans d4
              have hA : Abv W9 w2 := phased_first (fun p hp => by simp only [List.mem_cons, List.not_mem_nil, or_false] at hp; rcases hp with rfl; exact hnot 6 (by kernel_rfl)) hph
              obtain ⟨c0, c1, c2, c3, c4, c5⟩ := call_cells ((S6.out.blk (i := 3) rfl).below hA)
              refine wp_yields (v := .agg #[.int .i64 x.t, .string x.key, .string x.val, .int .i64 x.p, .int .i64 x.s]) (w' := w2) ?_ (fun u hu => Option.some.inj (Option.some.inj hu)) (phased_quiet hLi (by rfl) hph)
              clear dep old ho hsz hph hnot hyes hLi hA
              go_simp
            | 6, ho =>
              obtain rfl := Option.some.inj ho
              rw [if_pos (wanted_none rfl)]
              have d0 : a.tmps.getD 54 undef = .map (some b) := dep 0 _ _ (by kernel_rfl) rfl rfl _ rfl
              have e0 : a.tmps[54]?.getD undef = .map (some b) := (Array.getD_eq_getD_getElem? ..).symm.trans d0
              have d3 : a.tmps.getD 57 undef = .string (nm x) := dep 3 _ _ (by kernel_rfl) rfl rfl _ rfl
              have e3 : a.tmps[57]?.getD undef = .string (nm x) := (Array.getD_eq_getD_getElem? ..).symm.trans d3
              have d5 : a.tmps.getD 59 undef = .agg #[.int .i64 x.t, .string x.key, .string x.val, .int .i64 x.p, .int .i64 x.s] := dep 5 _ _ (by kernel_rfl) rfl rfl _ rfl
              have e5 : a.tmps[59]?.getD undef = .agg #[.int .i64 x.t, .string x.key, .string x.val, .int .i64 x.p, .int .i64 x.s] := (Array.getD_eq_getD_getElem? ..).symm.trans d5
              unfold phased at hph
              rw [if_neg (by rw [hLi]; decide)] at hph
              have hA : Abv W9 w2 := hph
              obtain ⟨w', hr, hm', ht⟩ := MapS.store ((S6.out.map (i := 1) rfl).below hA) Try.underlying28 HNL.out (nm x) (nm_size HKEY.out) x
              refine wp_skips (w' := w') ?_ (fun u hu => by cases Option.some.inj hu) ?_
              · have hr2 : (Instr.mapUpdate 28 (.map (some b)) (.string (nm x)) (.agg #[.int .i64 x.t, .string x.key, .string x.val, .int .i64 x.p, .int .i64 x.s])).run Try.prog w2 = .ok () w' := hr
                clear dep old ho hsz hnot hyes hLi hph hA hr hm' ht
                go_simp
              · unfold phased
                rw [if_pos (by simp [also])]
                exact ⟨by simp [also, hyes 3 (by kernel_rfl)], w2, hA, hm', ht⟩
            | i + 7, ho => exact absurd ho (by simp)
          · intro a w3 hph hsz hdf fin keep
            unfold phased at hph
            rw [if_pos rfl] at hph
            obtain ⟨_, u, hA, hm', ht⟩ := hph
            have S3 := hide ((S6.out.below hA).mapped (i := 1) rfl hm' ht)
            obtain ⟨tm, df⟩ := a
            dsimp only at hdf
            subst hdf
            clear fin hA hm' ht u
            have hx := frame_of [54, 55, 56, 57, 58, 59] (by kernel_rfl) hsz keep
            dsimp only at hx
            simp only [List.foldl_cons, List.foldl_nil] at hx
            clear hsz keep
            generalize tm.getD 54 undef = y54 at hx
            generalize tm.getD 55 undef = y55 at hx
            generalize tm.getD 56 undef = y56 at hx
            generalize tm.getD 57 undef = y57 at hx
            generalize tm.getD 58 undef = y58 at hx
            generalize tm.getD 59 undef = y59 at hx
            simp only [List.setIfInBounds_toArray, List.set_cons_succ, List.set_cons_zero] at hx
            subst hx
            have HT2 := hide (htie.out.put HIN.out)
            have HL2 := hide (hlo.out.put HIN.out HBB.out)
            have HK2 : Hid (k + 1 ≤ n + 1) := hide (by have := hkn.out; omega)
            clear hs htie hlo S6 HBB HNL
            generalize (fun t => if t = nm x then some x else f t) = f2 at *
            generalize (if (f (nm x)).isSome then c else c + 1) = c2 at *
            generalize putL x xs = ys at *
            generalize k + 1 = k2 at *
            obtain ⟨p0, p1, p2, p3, p4, p5⟩ := call_cells (S3.out.blk (i := 3) rfl)
            have S7 := hide (S3.out.box 32 #[.int .i64 x.t, .string x.key, .string x.val, .int .i64 x.p, .int .i64 x.s])
            have HITS := hide (S7.out.its (i := 2) rfl)
            have HCX : Hid (∀ i u, x.cells[i]? = some u → (w3.alloc (.cells #[.int .i64 x.t, .string x.key, .string x.val, .int .i64 x.p, .int .i64 x.s] 32)).cell? ⟨w3.heap.size, i, none⟩ = some u) := hide (fun i u hi => (S7.out.blk (i := 5) rfl).cell i u (by rw [← hi, ← Array.getElem?_toList]; rfl))
            go_wp2_with (at_builtin; refine wpList_append_it rfl (.tmp 60) (.tmp 63) rfl Try.underlying25 infoI rfl (by decide) rfl HITS.out HFW.out (Nat.zero_le _) rfl HCX.out ?_; intro v' w4 h1 h2 h3; have S8 := hide (S7.out.row (i := 2) rfl h1 h2 h3); clear h1 h2 h3)
            go_roundw
            case rel => exact ⟨n + 1, k2, l ++ [x], ys, f2, c2, by have := HLT.out; omega, by go_num, hide (S8.out.take 3), HT2, HL2, HK2⟩
            case measure => simp [intOf]; have := HLT.out; omega
        · have HBB := hide hbb
          go_wp2_with (first
            | (go_at_call 13; (with_reducible refine (name_agg x HIN.out HKEY.out _).mono ?_); rintro e W8 ⟨rfl, hb⟩; have S5 := hide (SB.out.below hb); have hlk := MapS.look_ok (S5.out.map (i := 1) rfl) Try.underlying28 (z := default) zeroI (nm x) (nm_size HKEY.out) W8 rfl; rw [HZ.out, hbb] at hlk; unfold It.v at hlk; have S6 := hide (S5.out.box 32 #[.int .i64 z.t, .string z.key, .string z.val, .int .i64 z.p, .int .i64 z.s]); clear hb))
          go_roundw
          case rel => exact ⟨n + 1, k, l, xs, f, c, by have := HLT.out; omega, by go_num, hide (S6.out.take 3), htie, hide (hlo.out.skip HBB.out), hide (by have := hkn.out; omega)⟩
          case measure => simp [intOf]; have := HLT.out; omega
      · obtain rfl : n = cs.length := by omega
        clear hlt hk
        have HC : Hid (c ≤ 200) := hide (by have := hlo.out.few; have := HFEW.out; omega)
        have HLL : Hid (l.length ≤ 120) := hide (by have := hlo.out.few; have := hlo.out.len; have := HFEW.out; omega)
        have HLP : Hid (0 < l.length) := hide (hlo.out.pos HPOS.out)
        obtain ⟨gl, cl, rfl, _, _⟩ := (hs.out.its (i := 2) rfl).block HLP.out
        obtain ⟨tn, htn, htm, hr1, hr2⟩ := turn_low sn HLP.out (Nat.le_trans HLL.out (by decide))
        have HTN := hide htn
        have ln0 : ¬ (l.length : Int) = 0 := by have := HLP.out; omega
        have ln1 : (l.length : Int) ≤ 120 := by have := HLL.out; omega
        have ln2 : ¬ (l.length : Int) = -1 := by omega
        go_wp2
        have S4 : Hid (Ow w (fun _ => False) ((wr.alloc (.cells #[.slice none 0 0] 27)).alloc (.cells #[.slice none 0 0] 27)) [.blk w.heap.size 4 #[.bool false], .map b k f c, .its (.slice (some ⟨gl, 0, none⟩) l.length cl) l, .ix wr.heap.size [], .ix (wr.heap.size + 1) []]) := hide (by
          have h := hs.out.newix.newix
          rw [World.size_alloc] at h
          exact h)
        clear hs S3 HV HL htm hr1 hr2 HPOS htn
        generalize ((wr.alloc (.cells #[.slice none 0 0] 27)).alloc (.cells #[.slice none 0 0] 27)) = wl at *
        generalize hb0 : wr.heap.size + 1 = g2 at *
        generalize wr.heap.size = g1 at *
        clear hb0
        go_loopw [78] (fun i wq => ∃ (j : Nat) (x1 x2 : List It) (f1 f2 : ByteArray → Option It) (n1 n2 : Nat), j ≤ l.length ∧ i = .int .i64 j ∧ Hid (Ow w (fun _ => False) wq [.blk w.heap.size 4 #[.bool false], .map b k f c, .its (.slice (some ⟨gl, 0, none⟩) l.length cl) l, .ix g1 x1, .ix g2 x2]) ∧ Hid (TieI f1 n1 x1 ∧ TieI f2 n2 x2) ∧ Hid (Got f1 l (fun i => i) j ∧ Got f2 l (fun i => (i + tn) % l.length) j) ∧ Hid (n1 ≤ j ∧ n2 ≤ j)) (fun i _ => l.length - (intOf i).toNat)
        case atStart => exact ⟨0, [], [], _, _, 0, 0, by omega, rfl, S4, hide ⟨TieI.nil, TieI.nil⟩, hide ⟨Got.zero, Got.zero⟩, hide ⟨Nat.le_refl _, Nat.le_refl _⟩⟩
        case round =>
          obtain ⟨j, x1, x2, f1, f2, n1, n2, hj, rfl, hq, ht, hg, hn⟩ := hrel
          by_cases hlt : j < l.length
          · obtain ⟨a, ha⟩ : ∃ a, l[j]? = some a := ⟨_, List.getElem?_eq_getElem hlt⟩
            have hp : (j + tn) % l.length < l.length := Nat.mod_lt _ HLP.out
            have hpm := turn_at j tn HLP.out
            obtain ⟨d, hd⟩ : ∃ d, l[(j + tn) % l.length]? = some d := ⟨_, List.getElem?_eq_getElem hp⟩
            have HG2 : Hid (l[(fun i => (i + tn) % l.length) j]? = some d) := hide hd
            obtain ⟨p, hpe⟩ : ∃ p, (j + tn) % l.length = p := ⟨_, rfl⟩
            rw [hpe] at hp hpm hd
            have HAI := hide (hlo.out.inn a (List.mem_of_getElem? ha))
            have HDI := hide (hlo.out.inn d (List.mem_of_getElem? hd))
            have HX1 : Hid (x1.length < 1000) := hide (by have h1 := ht.out.1.len; have h2 := hn.out.1; have h3 := HLL.out; omega)
            have HX2 : Hid (x2.length < 1000) := hide (by have h1 := ht.out.2.len; have h2 := hn.out.2; have h3 := HLL.out; omega)
            have q0 : (0 : Int) ≤ (j : Int) := by omega
            have q1 : (j : Int) < (l.length : Int) := by omega
            have q2 : (0 : Int) ≤ (p : Int) := by omega
            have q3 : (p : Int) < (l.length : Int) := by omega
            have q4 : (tn : Int) ≤ 120 := by have := HTN.out; omega
            have q5 : (0 : Int) ≤ (tn : Int) := by omega
            obtain ⟨t0, t1, t2, t3, t4⟩ := Its.cells (hq.out.its (i := 2) rfl) rfl ha
            have HA := hide ha
            have HD := hide hd
            have HLT := hide hlt
            clear ha hd hp hpe hlt
            go_wp2_with (first
              | (go_at_call 12; (with_reducible refine (ow_put hq.out (i := 3) rfl a HX1.out).mono ?_); rintro e wa ⟨rfl, hm⟩; have HS1 := hide hm; clear hm; obtain ⟨t0, t1, t2, t3, t4⟩ := Its.cells (HS1.out.its (i := 2) rfl) rfl HD.out)
              | (go_at_call 12; (with_reducible refine (ow_put HS1.out (i := 4) rfl d HX2.out).mono ?_); rintro e wb2 ⟨rfl, hm⟩; have HS2 := hide hm; clear hm))
            go_roundw
            case rel => exact ⟨j + 1, putL a x1, putL d x2, _, _, _, _, by have := HLT.out; omega, by go_num, HS2, hide ⟨ht.out.1.put HAI.out, ht.out.2.put HDI.out⟩, hide ⟨hg.out.1.next hlo.out HA.out, hg.out.2.next hlo.out HG2.out⟩, hide ⟨by (have := hn.out.1; split <;> omega), by (have := hn.out.2; split <;> omega)⟩⟩
            case measure => simp [intOf]; have := HLT.out; omega
          · obtain rfl : j = l.length := by omega
            have e1 := got_all hlo.out htie.out ht.out.1 hg.out.1 (fun k hk => ⟨k, hk, rfl⟩)
            have e2 := got_all hlo.out htie.out ht.out.2 hg.out.2 (turn_all HTN.out)
            rw [e1, e2] at hq
            have HXL : Hid (xs.length < 1000) := hide (by have := htie.out.len; have := HC.out; omega)
            clear e1 e2 hg hn ht hlt hj S4
            go_wp2_with (go_at_call 17; (with_reducible refine (ow_sorted hq.out (i := 1) rfl htie.out HC.out).mono ?_); rintro e W ⟨v, rfl, hm⟩; obtain ⟨A1, c1, rfl⟩ := (hm.its (i := 5) rfl).form; have S6 := hide hm; clear hm)
            have S5 : Hid (Ow w (fun _ => False) (((W.alloc (.cells #[.slice A1 xs.length c1] 25)).alloc (.cells #[.int .i64 0] 3)).alloc (.cells #[.int .i64 0] 3)) [.blk w.heap.size 4 #[.bool false], .map b k f c, .its (.slice (some ⟨gl, 0, none⟩) l.length cl) l, .ix g1 xs, .ix g2 xs, .its (.slice A1 xs.length c1) xs, .blk W.heap.size 25 #[.slice A1 xs.length c1], .blk (W.heap.size + 1) 3 #[.int .i64 (0 : Nat)], .blk (W.heap.size + 2) 3 #[.int .i64 (0 : Nat)]]) := hide (by
              have h := ((S6.out.box 25 #[.slice A1 xs.length c1]).box 3 #[.int .i64 (0 : Nat)]).box 3 #[.int .i64 (0 : Nat)]
              simp only [World.size_alloc] at h
              exact h)
            clear S6 hq HC HLL HLP htie hlo hkn HFEW hfew
            generalize (((W.alloc (.cells #[.slice A1 xs.length c1] 25)).alloc (.cells #[.int .i64 0] 3)).alloc (.cells #[.int .i64 0] 3)) = w5 at *
            generalize W.heap.size = wb at *
            have HLD : Hid (w.heap.size + 0 < w5.heap.size) := hide (S5.out.blk (i := 0) rfl).lt
            obtain ⟨F, hF⟩ := S5.out
            have hwD := hF.kept.size
            refine wpIn_wide.1 (range_all (n := 4) (by omega) xs rfl rfl ?hit (fun q F A => OwF w (fun _ => False) F A [.blk w.heap.size 4 #[.bool false], .map b k f c, .its (.slice (some ⟨gl, 0, none⟩) l.length cl) l, .ix g1 xs, .ix g2 xs, .its (.slice A1 xs.length c1) xs, .blk wb 25 #[.slice A1 xs.length c1], .blk (wb + 1) 3 #[.int .i64 (q : Nat)], .blk (wb + 2) 3 #[.int .i64 (0 : Nat)]]) (fun _ _ _ => False)
              (fun q F A B h e1 e2 hc => h.calm hc e1 e2 hwD) (fun _ _ _ _ h _ => h) ⟨F, hF, hF.lt⟩ ?round ?done ?stop)
            case hit =>
              intro l W2 J Jx hW hR h0
              obtain ⟨r, hX⟩ := Ow.ix (i := 3) ⟨F, hF⟩ rfl
              exact All_in 3 l (by omega) (hX.below hW) hR h0
            case round =>
              clear hF S5
              rintro q F x A hx hA e1 e2 hlA
              have hlt := (List.getElem?_eq_some_iff.1 hx).1
              obtain ⟨gw, hb1⟩ : ∃ gw, A1 = some ⟨gw, 0, none⟩ := by
                obtain ⟨g', c', h, _⟩ := (Ow.its (i := 5) ⟨F, hA⟩ rfl).block (by omega)
                injection h with h
                exact ⟨g', h⟩
              subst hb1
              have HX := hide hx
              have HQ := hide (show (0 : Int) ≤ (q : Int) ∧ (q : Int) < (xs.length : Int) by omega)
              have HNE := hide (show ¬ (q : Int) = (xs.length : Int) by omega)
              have q0 : (0 : Int) ≤ (q : Int) := by omega
              have q1 : (q : Int) < 1000 := by have := HXL.out; omega
              have HA := hide hA
              have E1 := hide e1
              have E2 := hide e2
              have HLA := hide hlA
              clear hA hx e1 e2 hlA hlt
              unfold It.v
              dsimp only
              gi_wp2
              refine ⟨(Below.refl _ _).alloc (Nat.le_refl _) _, fun C hC hs2 => ?_⟩
              obtain ⟨F1, hF1, hnew⟩ := HA.out.round_in _ _ E1.out E2.out hwD HLA.out hC
              have HST := hide hF1.restart
              have HF1 := hide hF1
              have HNEW := hide hnew
              have HCS := hide (show A.heap.size ≤ C.heap.size by rw [hs2]; simp)
              clear hF1 hnew hC hs2
              gi_wp2
              refine region_growsD [Say.is (.int .i64 (q : Int)), Say.is (.slice (some ⟨gw, 0, none⟩) xs.length c1), Say.is (.int .i64 (xs.length : Int)), Say.is (.bool false), Say.is (.bool false), Say.is (.agg #[.int .i64 x.t, .string x.key, .string x.val, .int .i64 x.p, .int .i64 x.s]), Say.is (.slice (some ⟨gw, 0, none⟩) xs.length c1), Say.is (.int .i64 (q : Int)), Say.is (.pointer (some ⟨gw, q * 5, none⟩)), Say.is (.agg #[.int .i64 x.t, .string x.key, .string x.val, .int .i64 x.p, .int .i64 x.s]), Say.is (.bool false), Say.is (.bool false)] (by kernel_rfl) (by kernel_rfl) (by kernel_rfl) (by kernel_rfl) (by kernel_rfl) ?_ ?_
              · intro i o ho a w2 hb hsz old dep
                match i, ho with
                | 0, ho =>
                  obtain rfl := Option.some.inj ho
                  have o15 : a.tmps.getD 15 undef = _ := old 15 (by kernel_rfl)
                  rw [if_pos (wanted_none rfl)]
                  have g0 := ((HST.out.below hb).blk (i := 7) rfl).cell 0 _ rfl
                  refine grow_same (v := .int .i64 (q : Int)) ?_ rfl
                  clear old dep ho hsz hb
                  go_simp
                | 1, ho =>
                  obtain rfl := Option.some.inj ho
                  have o14 : a.tmps.getD 14 undef = _ := old 14 (by kernel_rfl)
                  rw [if_pos (wanted_none rfl)]
                  have g0 := ((HST.out.below hb).blk (i := 6) rfl).cell 0 _ rfl
                  refine grow_same (v := .slice (some ⟨gw, 0, none⟩) xs.length c1) ?_ rfl
                  clear old dep ho hsz hb
                  go_simp
                | 2, ho =>
                  obtain rfl := Option.some.inj ho
                  have d1 : a.tmps.getD 102 undef = .slice (some ⟨gw, 0, none⟩) xs.length c1 := dep 1 _ _ (by kernel_rfl) rfl rfl
                  have e1 : a.tmps[102]?.getD undef = _ := (Array.getD_eq_getD_getElem? ..).symm.trans d1
                  rw [if_pos (wanted_none rfl)]
                  refine grow_same (v := .int .i64 (xs.length : Int)) ?_ rfl
                  clear old dep ho hsz hb
                  go_simp
                | 3, ho =>
                  obtain rfl := Option.some.inj ho
                  have d0 : a.tmps.getD 101 undef = .int .i64 (q : Int) := dep 0 _ _ (by kernel_rfl) rfl rfl
                  have e0 : a.tmps[101]?.getD undef = _ := (Array.getD_eq_getD_getElem? ..).symm.trans d0
                  have d2 : a.tmps.getD 103 undef = .int .i64 (xs.length : Int) := dep 2 _ _ (by kernel_rfl) rfl rfl
                  have e2 : a.tmps[103]?.getD undef = _ := (Array.getD_eq_getD_getElem? ..).symm.trans d2
                  rw [if_pos (wanted_none rfl)]
                  have g0 := HNE.out
                  refine grow_same (v := .bool false) ?_ rfl
                  clear old dep ho hsz hb
                  go_simp
                | 4, ho =>
                  obtain rfl := Option.some.inj ho
                  have d3 : a.tmps.getD 104 undef = .bool false := dep 3 _ _ (by kernel_rfl) rfl rfl
                  have e3 : a.tmps[104]?.getD undef = _ := (Array.getD_eq_getD_getElem? ..).symm.trans d3
                  rw [if_pos (wanted_none rfl)]
                  refine grow_same (v := .bool false) ?_ rfl
                  clear old dep ho hsz hb
                  go_simp
                | 5, ho =>
                  obtain rfl := Option.some.inj ho
                  have o17 : a.tmps.getD 17 undef = _ := old 17 (by kernel_rfl)
                  have d4 : a.tmps.getD 105 undef = .bool false := dep 4 _ _ (by kernel_rfl) rfl rfl
                  have e4 : a.tmps[105]?.getD undef = _ := (Array.getD_eq_getD_getElem? ..).symm.trans d4
                  rw [if_pos (wanted_some rfl rfl rfl (by rw [hsz]; exact of_decide_eq_true rfl) d4)]
                  obtain ⟨g0, g1, g2, g3, g4⟩ := item_cells ((HST.out.below hb).blk (i := 9) rfl)
                  refine grow_same (v := .agg #[.int .i64 x.t, .string x.key, .string x.val, .int .i64 x.p, .int .i64 x.s]) ?_ rfl
                  clear old dep ho hsz hb
                  go_simp
                | 6, ho =>
                  obtain rfl := Option.some.inj ho
                  have o14 : a.tmps.getD 14 undef = _ := old 14 (by kernel_rfl)
                  have d4 : a.tmps.getD 105 undef = .bool false := dep 4 _ _ (by kernel_rfl) rfl rfl
                  have e4 : a.tmps[105]?.getD undef = _ := (Array.getD_eq_getD_getElem? ..).symm.trans d4
                  rw [if_pos (wanted_some rfl rfl rfl (by rw [hsz]; exact of_decide_eq_true rfl) d4)]
                  have g0 := ((HST.out.below hb).blk (i := 6) rfl).cell 0 _ rfl
                  refine grow_same (v := .slice (some ⟨gw, 0, none⟩) xs.length c1) ?_ rfl
                  clear old dep ho hsz hb
                  go_simp
                | 7, ho =>
                  obtain rfl := Option.some.inj ho
                  have o15 : a.tmps.getD 15 undef = _ := old 15 (by kernel_rfl)
                  have d4 : a.tmps.getD 105 undef = .bool false := dep 4 _ _ (by kernel_rfl) rfl rfl
                  have e4 : a.tmps[105]?.getD undef = _ := (Array.getD_eq_getD_getElem? ..).symm.trans d4
                  rw [if_pos (wanted_some rfl rfl rfl (by rw [hsz]; exact of_decide_eq_true rfl) d4)]
                  have g0 := ((HST.out.below hb).blk (i := 7) rfl).cell 0 _ rfl
                  refine grow_same (v := .int .i64 (q : Int)) ?_ rfl
                  clear old dep ho hsz hb
                  go_simp
                | 8, ho =>
                  obtain rfl := Option.some.inj ho
                  have d6 : a.tmps.getD 107 undef = .slice (some ⟨gw, 0, none⟩) xs.length c1 := dep 6 _ _ (by kernel_rfl) rfl rfl
                  have e6 : a.tmps[107]?.getD undef = _ := (Array.getD_eq_getD_getElem? ..).symm.trans d6
                  have d7 : a.tmps.getD 108 undef = .int .i64 (q : Int) := dep 7 _ _ (by kernel_rfl) rfl rfl
                  have e7 : a.tmps[108]?.getD undef = _ := (Array.getD_eq_getD_getElem? ..).symm.trans d7
                  have d4 : a.tmps.getD 105 undef = .bool false := dep 4 _ _ (by kernel_rfl) rfl rfl
                  have e4 : a.tmps[105]?.getD undef = _ := (Array.getD_eq_getD_getElem? ..).symm.trans d4
                  rw [if_pos (wanted_some rfl rfl rfl (by rw [hsz]; exact of_decide_eq_true rfl) d4)]
                  have g0 := HQ.out.1
                  have g1 := HQ.out.2
                  refine grow_same (v := .pointer (some ⟨gw, q * 5, none⟩)) ?_ rfl
                  clear old dep ho hsz hb
                  go_simp
                | 9, ho =>
                  obtain rfl := Option.some.inj ho
                  have d8 : a.tmps.getD 109 undef = .pointer (some ⟨gw, q * 5, none⟩) := dep 8 _ _ (by kernel_rfl) rfl rfl
                  have e8 : a.tmps[109]?.getD undef = _ := (Array.getD_eq_getD_getElem? ..).symm.trans d8
                  have d4 : a.tmps.getD 105 undef = .bool false := dep 4 _ _ (by kernel_rfl) rfl rfl
                  have e4 : a.tmps[105]?.getD undef = _ := (Array.getD_eq_getD_getElem? ..).symm.trans d4
                  rw [if_pos (wanted_some rfl rfl rfl (by rw [hsz]; exact of_decide_eq_true rfl) d4)]
                  obtain ⟨g0, g1, g2, g3, g4⟩ := Its.cells ((HST.out.below hb).its (i := 5) rfl) rfl HX.out
                  refine grow_same (v := .agg #[.int .i64 x.t, .string x.key, .string x.val, .int .i64 x.p, .int .i64 x.s]) ?_ rfl
                  clear old dep ho hsz hb
                  go_simp
                | 10, ho =>
                  obtain rfl := Option.some.inj ho
                  have d5 : a.tmps.getD 106 undef = .agg #[.int .i64 x.t, .string x.key, .string x.val, .int .i64 x.p, .int .i64 x.s] := dep 5 _ _ (by kernel_rfl) rfl rfl
                  have e5 : a.tmps[106]?.getD undef = _ := (Array.getD_eq_getD_getElem? ..).symm.trans d5
                  have d9 : a.tmps.getD 110 undef = .agg #[.int .i64 x.t, .string x.key, .string x.val, .int .i64 x.p, .int .i64 x.s] := dep 9 _ _ (by kernel_rfl) rfl rfl
                  have e9 : a.tmps[110]?.getD undef = _ := (Array.getD_eq_getD_getElem? ..).symm.trans d9
                  have d4 : a.tmps.getD 105 undef = .bool false := dep 4 _ _ (by kernel_rfl) rfl rfl
                  have e4 : a.tmps[105]?.getD undef = _ := (Array.getD_eq_getD_getElem? ..).symm.trans d4
                  rw [if_pos (wanted_some rfl rfl rfl (by rw [hsz]; exact of_decide_eq_true rfl) d4)]
                  refine grow_same (v := .bool false) ?_ rfl
                  clear old dep ho hsz hb
                  go_simp
                | 11, ho =>
                  obtain rfl := Option.some.inj ho
                  have d4 : a.tmps.getD 105 undef = .bool false := dep 4 _ _ (by kernel_rfl) rfl rfl
                  have e4 : a.tmps[105]?.getD undef = _ := (Array.getD_eq_getD_getElem? ..).symm.trans d4
                  have d10 : a.tmps.getD 111 undef = .bool false := dep 10 _ _ (by kernel_rfl) rfl rfl
                  have e10 : a.tmps[111]?.getD undef = _ := (Array.getD_eq_getD_getElem? ..).symm.trans d10
                  rw [if_pos (wanted_none rfl)]
                  refine grow_same (v := .bool false) ?_ rfl
                  clear old dep ho hsz hb
                  go_simp
                | i + 12, ho => exact absurd ho (by simp)
              · intro a w9 hb hsz hdf fin keep
                obtain ⟨tm, df⟩ := a
                have hx := frame_of [101, 102, 103, 104, 105, 106, 107, 108, 109, 110, 111, 112] (by kernel_rfl) hsz keep
                dsimp only at hdf hx
                simp only [List.foldl_cons, List.foldl_nil] at hx
                subst hdf
                clear hsz keep
                have kn : tm.getD 101 undef = .int .i64 (q : Int) := fin 0 _ _ rfl rfl
                rw [kn] at hx
                clear kn
                have kn : tm.getD 102 undef = .slice (some ⟨gw, 0, none⟩) xs.length c1 := fin 1 _ _ rfl rfl
                rw [kn] at hx
                clear kn
                have kn : tm.getD 103 undef = .int .i64 (xs.length : Int) := fin 2 _ _ rfl rfl
                rw [kn] at hx
                clear kn
                have kn : tm.getD 104 undef = .bool false := fin 3 _ _ rfl rfl
                rw [kn] at hx
                clear kn
                have kn : tm.getD 105 undef = .bool false := fin 4 _ _ rfl rfl
                rw [kn] at hx
                clear kn
                have kn : tm.getD 106 undef = .agg #[.int .i64 x.t, .string x.key, .string x.val, .int .i64 x.p, .int .i64 x.s] := fin 5 _ _ rfl rfl
                rw [kn] at hx
                clear kn
                have kn : tm.getD 107 undef = .slice (some ⟨gw, 0, none⟩) xs.length c1 := fin 6 _ _ rfl rfl
                rw [kn] at hx
                clear kn
                have kn : tm.getD 108 undef = .int .i64 (q : Int) := fin 7 _ _ rfl rfl
                rw [kn] at hx
                clear kn
                have kn : tm.getD 109 undef = .pointer (some ⟨gw, q * 5, none⟩) := fin 8 _ _ rfl rfl
                rw [kn] at hx
                clear kn
                have kn : tm.getD 110 undef = .agg #[.int .i64 x.t, .string x.key, .string x.val, .int .i64 x.p, .int .i64 x.s] := fin 9 _ _ rfl rfl
                rw [kn] at hx
                clear kn
                have kn : tm.getD 111 undef = .bool false := fin 10 _ _ rfl rfl
                rw [kn] at hx
                clear kn
                have kn : tm.getD 112 undef = .bool false := fin 11 _ _ rfl rfl
                rw [kn] at hx
                clear kn
                clear fin
                simp only [List.setIfInBounds_toArray, List.set_cons_succ, List.set_cons_zero] at hx
                subst hx
                have j0 := ((HST.out.below hb).blk (i := 7) rfl).cell 0 _ rfl
                have jf := ((HST.out.below hb).blk (i := 7) rfl).frozen 0
                have HB := hide hb
                clear hb
                gi_wp2
                exact HF1.out.round_out HNEW.out (show Ow C F1 _ [.blk w.heap.size 4 #[.bool false], .map b k f c, .its (.slice (some ⟨gl, 0, none⟩) l.length cl) l, .ix g1 xs, .ix g2 xs, .its (.slice (some ⟨gw, 0, none⟩) xs.length c1) xs, .blk wb 25 #[.slice (some ⟨gw, 0, none⟩) xs.length c1], .blk (wb + 1) 3 #[.int .i64 (q + 1 : Nat)], .blk (wb + 2) 3 #[.int .i64 (0 : Nat)]] from ((HST.out.below HB.out).set_ (i := 7) rfl 0 _).take 9) HCS.out
            case done =>
              clear hF S5
              rintro F w6 hA e1 hK
              have S5 : Hid (Ow w (fun _ => False) w6 [.blk w.heap.size 4 #[.bool false], .map b k f c, .its (.slice (some ⟨gl, 0, none⟩) l.length cl) l, .ix g1 xs, .ix g2 xs, .its (.slice A1 xs.length c1) xs, .blk wb 25 #[.slice A1 xs.length c1], .blk (wb + 1) 3 #[.int .i64 (xs.length : Nat)], .blk (wb + 2) 3 #[.int .i64 (0 : Nat)], .obj w5.heap.size (.deferred (some []))]) := hide (hA.adopt e1 hwD hK)
              clear hA hK e1 hwD HLD
              go_wp2
              have HLD : Hid (w.heap.size + 0 < w6.heap.size) := hide (S5.out.blk (i := 0) rfl).lt
              obtain ⟨F, hF⟩ := S5.out
              have hwD := hF.kept.size
              refine wpIn_wide.1 (range_all (n := 4) (by omega) xs rfl rfl ?hit2 (fun q F A => OwF w (fun _ => False) F A [.blk w.heap.size 4 #[.bool false], .map b k f c, .its (.slice (some ⟨gl, 0, none⟩) l.length cl) l, .ix g1 xs, .ix g2 xs, .its (.slice A1 xs.length c1) xs, .blk wb 25 #[.slice A1 xs.length c1], .blk (wb + 1) 3 #[.int .i64 (xs.length : Nat)], .blk (wb + 2) 3 #[.int .i64 (q : Nat)], .obj w5.heap.size (.deferred (some []))]) (fun _ _ _ => False)
                (fun q F A B h e1 e2 hc => h.calm hc e1 e2 hwD) (fun _ _ _ _ h _ => h) ⟨F, hF, hF.lt⟩ ?round2 ?done2 ?stop2)
              case hit2 =>
                intro l W2 J Jx hW hR h0
                obtain ⟨r, hX⟩ := Ow.ix (i := 4) ⟨F, hF⟩ rfl
                exact All_in 3 l (by omega) (hX.below hW) hR h0
              case round2 =>
                clear hF S5
                rintro q F x A hx hA e1 e2 hlA
                have hlt := (List.getElem?_eq_some_iff.1 hx).1
                obtain ⟨gw, hb1⟩ : ∃ gw, A1 = some ⟨gw, 0, none⟩ := by
                  obtain ⟨g', c', h, _⟩ := (Ow.its (i := 5) ⟨F, hA⟩ rfl).block (by omega)
                  injection h with h
                  exact ⟨g', h⟩
                subst hb1
                have HX := hide hx
                have HQ := hide (show (0 : Int) ≤ (q : Int) ∧ (q : Int) < (xs.length : Int) by omega)
                have HNE := hide (show ¬ (q : Int) = (xs.length : Int) by omega)
                have q0 : (0 : Int) ≤ (q : Int) := by omega
                have q1 : (q : Int) < 1000 := by have := HXL.out; omega
                have HA := hide hA
                have E1 := hide e1
                have E2 := hide e2
                have HLA := hide hlA
                clear hA hx e1 e2 hlA hlt
                unfold It.v
                dsimp only
                gi_wp2
                refine ⟨(Below.refl _ _).alloc (Nat.le_refl _) _, fun C hC hs2 => ?_⟩
                obtain ⟨F1, hF1, hnew⟩ := HA.out.round_in _ _ E1.out E2.out hwD HLA.out hC
                have HST := hide hF1.restart
                have HF1 := hide hF1
                have HNEW := hide hnew
                have HCS := hide (show A.heap.size ≤ C.heap.size by rw [hs2]; simp)
                clear hF1 hnew hC hs2
                gi_wp2
                refine region_growsD [Say.is (.int .i64 (q : Int)), Say.is (.slice (some ⟨gw, 0, none⟩) xs.length c1), Say.is (.int .i64 (xs.length : Int)), Say.is (.bool false), Say.is (.bool false), Say.is (.agg #[.int .i64 x.t, .string x.key, .string x.val, .int .i64 x.p, .int .i64 x.s]), Say.is (.slice (some ⟨gw, 0, none⟩) xs.length c1), Say.is (.int .i64 (q : Int)), Say.is (.pointer (some ⟨gw, q * 5, none⟩)), Say.is (.agg #[.int .i64 x.t, .string x.key, .string x.val, .int .i64 x.p, .int .i64 x.s]), Say.is (.bool false), Say.is (.bool false)] (by kernel_rfl) (by kernel_rfl) (by kernel_rfl) (by kernel_rfl) (by kernel_rfl) ?_ ?_
                · intro i o ho a w2 hb hsz old dep
                  match i, ho with
                  | 0, ho =>
                    obtain rfl := Option.some.inj ho
                    have o16 : a.tmps.getD 16 undef = _ := old 16 (by kernel_rfl)
                    rw [if_pos (wanted_none rfl)]
                    have g0 := ((HST.out.below hb).blk (i := 8) rfl).cell 0 _ rfl
                    refine grow_same (v := .int .i64 (q : Int)) ?_ rfl
                    clear old dep ho hsz hb
                    go_simp
                  | 1, ho =>
                    obtain rfl := Option.some.inj ho
                    have o14 : a.tmps.getD 14 undef = _ := old 14 (by kernel_rfl)
                    rw [if_pos (wanted_none rfl)]
                    have g0 := ((HST.out.below hb).blk (i := 6) rfl).cell 0 _ rfl
                    refine grow_same (v := .slice (some ⟨gw, 0, none⟩) xs.length c1) ?_ rfl
                    clear old dep ho hsz hb
                    go_simp
                  | 2, ho =>
                    obtain rfl := Option.some.inj ho
                    have d1 : a.tmps.getD 118 undef = .slice (some ⟨gw, 0, none⟩) xs.length c1 := dep 1 _ _ (by kernel_rfl) rfl rfl
                    have e1 : a.tmps[118]?.getD undef = _ := (Array.getD_eq_getD_getElem? ..).symm.trans d1
                    rw [if_pos (wanted_none rfl)]
                    refine grow_same (v := .int .i64 (xs.length : Int)) ?_ rfl
                    clear old dep ho hsz hb
                    go_simp
                  | 3, ho =>
                    obtain rfl := Option.some.inj ho
                    have d0 : a.tmps.getD 117 undef = .int .i64 (q : Int) := dep 0 _ _ (by kernel_rfl) rfl rfl
                    have e0 : a.tmps[117]?.getD undef = _ := (Array.getD_eq_getD_getElem? ..).symm.trans d0
                    have d2 : a.tmps.getD 119 undef = .int .i64 (xs.length : Int) := dep 2 _ _ (by kernel_rfl) rfl rfl
                    have e2 : a.tmps[119]?.getD undef = _ := (Array.getD_eq_getD_getElem? ..).symm.trans d2
                    rw [if_pos (wanted_none rfl)]
                    have g0 := HNE.out
                    refine grow_same (v := .bool false) ?_ rfl
                    clear old dep ho hsz hb
                    go_simp
                  | 4, ho =>
                    obtain rfl := Option.some.inj ho
                    have d3 : a.tmps.getD 120 undef = .bool false := dep 3 _ _ (by kernel_rfl) rfl rfl
                    have e3 : a.tmps[120]?.getD undef = _ := (Array.getD_eq_getD_getElem? ..).symm.trans d3
                    rw [if_pos (wanted_none rfl)]
                    refine grow_same (v := .bool false) ?_ rfl
                    clear old dep ho hsz hb
                    go_simp
                  | 5, ho =>
                    obtain rfl := Option.some.inj ho
                    have o18 : a.tmps.getD 18 undef = _ := old 18 (by kernel_rfl)
                    have d4 : a.tmps.getD 121 undef = .bool false := dep 4 _ _ (by kernel_rfl) rfl rfl
                    have e4 : a.tmps[121]?.getD undef = _ := (Array.getD_eq_getD_getElem? ..).symm.trans d4
                    rw [if_pos (wanted_some rfl rfl rfl (by rw [hsz]; exact of_decide_eq_true rfl) d4)]
                    obtain ⟨g0, g1, g2, g3, g4⟩ := item_cells ((HST.out.below hb).blk (i := 10) rfl)
                    refine grow_same (v := .agg #[.int .i64 x.t, .string x.key, .string x.val, .int .i64 x.p, .int .i64 x.s]) ?_ rfl
                    clear old dep ho hsz hb
                    go_simp
                  | 6, ho =>
                    obtain rfl := Option.some.inj ho
                    have o14 : a.tmps.getD 14 undef = _ := old 14 (by kernel_rfl)
                    have d4 : a.tmps.getD 121 undef = .bool false := dep 4 _ _ (by kernel_rfl) rfl rfl
                    have e4 : a.tmps[121]?.getD undef = _ := (Array.getD_eq_getD_getElem? ..).symm.trans d4
                    rw [if_pos (wanted_some rfl rfl rfl (by rw [hsz]; exact of_decide_eq_true rfl) d4)]
                    have g0 := ((HST.out.below hb).blk (i := 6) rfl).cell 0 _ rfl
                    refine grow_same (v := .slice (some ⟨gw, 0, none⟩) xs.length c1) ?_ rfl
                    clear old dep ho hsz hb
                    go_simp
                  | 7, ho =>
                    obtain rfl := Option.some.inj ho
                    have o16 : a.tmps.getD 16 undef = _ := old 16 (by kernel_rfl)
                    have d4 : a.tmps.getD 121 undef = .bool false := dep 4 _ _ (by kernel_rfl) rfl rfl
                    have e4 : a.tmps[121]?.getD undef = _ := (Array.getD_eq_getD_getElem? ..).symm.trans d4
                    rw [if_pos (wanted_some rfl rfl rfl (by rw [hsz]; exact of_decide_eq_true rfl) d4)]
                    have g0 := ((HST.out.below hb).blk (i := 8) rfl).cell 0 _ rfl
                    refine grow_same (v := .int .i64 (q : Int)) ?_ rfl
                    clear old dep ho hsz hb
                    go_simp
                  | 8, ho =>
                    obtain rfl := Option.some.inj ho
                    have d6 : a.tmps.getD 123 undef = .slice (some ⟨gw, 0, none⟩) xs.length c1 := dep 6 _ _ (by kernel_rfl) rfl rfl
                    have e6 : a.tmps[123]?.getD undef = _ := (Array.getD_eq_getD_getElem? ..).symm.trans d6
                    have d7 : a.tmps.getD 124 undef = .int .i64 (q : Int) := dep 7 _ _ (by kernel_rfl) rfl rfl
                    have e7 : a.tmps[124]?.getD undef = _ := (Array.getD_eq_getD_getElem? ..).symm.trans d7
                    have d4 : a.tmps.getD 121 undef = .bool false := dep 4 _ _ (by kernel_rfl) rfl rfl
                    have e4 : a.tmps[121]?.getD undef = _ := (Array.getD_eq_getD_getElem? ..).symm.trans d4
                    rw [if_pos (wanted_some rfl rfl rfl (by rw [hsz]; exact of_decide_eq_true rfl) d4)]
                    have g0 := HQ.out.1
                    have g1 := HQ.out.2
                    refine grow_same (v := .pointer (some ⟨gw, q * 5, none⟩)) ?_ rfl
                    clear old dep ho hsz hb
                    go_simp
                  | 9, ho =>
                    obtain rfl := Option.some.inj ho
                    have d8 : a.tmps.getD 125 undef = .pointer (some ⟨gw, q * 5, none⟩) := dep 8 _ _ (by kernel_rfl) rfl rfl
                    have e8 : a.tmps[125]?.getD undef = _ := (Array.getD_eq_getD_getElem? ..).symm.trans d8
                    have d4 : a.tmps.getD 121 undef = .bool false := dep 4 _ _ (by kernel_rfl) rfl rfl
                    have e4 : a.tmps[121]?.getD undef = _ := (Array.getD_eq_getD_getElem? ..).symm.trans d4
                    rw [if_pos (wanted_some rfl rfl rfl (by rw [hsz]; exact of_decide_eq_true rfl) d4)]
                    obtain ⟨g0, g1, g2, g3, g4⟩ := Its.cells ((HST.out.below hb).its (i := 5) rfl) rfl HX.out
                    refine grow_same (v := .agg #[.int .i64 x.t, .string x.key, .string x.val, .int .i64 x.p, .int .i64 x.s]) ?_ rfl
                    clear old dep ho hsz hb
                    go_simp
                  | 10, ho =>
                    obtain rfl := Option.some.inj ho
                    have d5 : a.tmps.getD 122 undef = .agg #[.int .i64 x.t, .string x.key, .string x.val, .int .i64 x.p, .int .i64 x.s] := dep 5 _ _ (by kernel_rfl) rfl rfl
                    have e5 : a.tmps[122]?.getD undef = _ := (Array.getD_eq_getD_getElem? ..).symm.trans d5
                    have d9 : a.tmps.getD 126 undef = .agg #[.int .i64 x.t, .string x.key, .string x.val, .int .i64 x.p, .int .i64 x.s] := dep 9 _ _ (by kernel_rfl) rfl rfl
                    have e9 : a.tmps[126]?.getD undef = _ := (Array.getD_eq_getD_getElem? ..).symm.trans d9
                    have d4 : a.tmps.getD 121 undef = .bool false := dep 4 _ _ (by kernel_rfl) rfl rfl
                    have e4 : a.tmps[121]?.getD undef = _ := (Array.getD_eq_getD_getElem? ..).symm.trans d4
                    rw [if_pos (wanted_some rfl rfl rfl (by rw [hsz]; exact of_decide_eq_true rfl) d4)]
                    refine grow_same (v := .bool false) ?_ rfl
                    clear old dep ho hsz hb
                    go_simp
                  | 11, ho =>
                    obtain rfl := Option.some.inj ho
                    have d4 : a.tmps.getD 121 undef = .bool false := dep 4 _ _ (by kernel_rfl) rfl rfl
                    have e4 : a.tmps[121]?.getD undef = _ := (Array.getD_eq_getD_getElem? ..).symm.trans d4
                    have d10 : a.tmps.getD 127 undef = .bool false := dep 10 _ _ (by kernel_rfl) rfl rfl
                    have e10 : a.tmps[127]?.getD undef = _ := (Array.getD_eq_getD_getElem? ..).symm.trans d10
                    rw [if_pos (wanted_none rfl)]
                    refine grow_same (v := .bool false) ?_ rfl
                    clear old dep ho hsz hb
                    go_simp
                  | i + 12, ho => exact absurd ho (by simp)
                · intro a w9 hb hsz hdf fin keep
                  obtain ⟨tm, df⟩ := a
                  have hx := frame_of [117, 118, 119, 120, 121, 122, 123, 124, 125, 126, 127, 128] (by kernel_rfl) hsz keep
                  dsimp only at hdf hx
                  simp only [List.foldl_cons, List.foldl_nil] at hx
                  subst hdf
                  clear hsz keep
                  have kn : tm.getD 117 undef = .int .i64 (q : Int) := fin 0 _ _ rfl rfl
                  rw [kn] at hx
                  clear kn
                  have kn : tm.getD 118 undef = .slice (some ⟨gw, 0, none⟩) xs.length c1 := fin 1 _ _ rfl rfl
                  rw [kn] at hx
                  clear kn
                  have kn : tm.getD 119 undef = .int .i64 (xs.length : Int) := fin 2 _ _ rfl rfl
                  rw [kn] at hx
                  clear kn
                  have kn : tm.getD 120 undef = .bool false := fin 3 _ _ rfl rfl
                  rw [kn] at hx
                  clear kn
                  have kn : tm.getD 121 undef = .bool false := fin 4 _ _ rfl rfl
                  rw [kn] at hx
                  clear kn
                  have kn : tm.getD 122 undef = .agg #[.int .i64 x.t, .string x.key, .string x.val, .int .i64 x.p, .int .i64 x.s] := fin 5 _ _ rfl rfl
                  rw [kn] at hx
                  clear kn
                  have kn : tm.getD 123 undef = .slice (some ⟨gw, 0, none⟩) xs.length c1 := fin 6 _ _ rfl rfl
                  rw [kn] at hx
                  clear kn
                  have kn : tm.getD 124 undef = .int .i64 (q : Int) := fin 7 _ _ rfl rfl
                  rw [kn] at hx
                  clear kn
                  have kn : tm.getD 125 undef = .pointer (some ⟨gw, q * 5, none⟩) := fin 8 _ _ rfl rfl
                  rw [kn] at hx
                  clear kn
                  have kn : tm.getD 126 undef = .agg #[.int .i64 x.t, .string x.key, .string x.val, .int .i64 x.p, .int .i64 x.s] := fin 9 _ _ rfl rfl
                  rw [kn] at hx
                  clear kn
                  have kn : tm.getD 127 undef = .bool false := fin 10 _ _ rfl rfl
                  rw [kn] at hx
                  clear kn
                  have kn : tm.getD 128 undef = .bool false := fin 11 _ _ rfl rfl
                  rw [kn] at hx
                  clear kn
                  clear fin
                  simp only [List.setIfInBounds_toArray, List.set_cons_succ, List.set_cons_zero] at hx
                  subst hx
                  have j0 := ((HST.out.below hb).blk (i := 8) rfl).cell 0 _ rfl
                  have jf := ((HST.out.below hb).blk (i := 8) rfl).frozen 0
                  have HB := hide hb
                  clear hb
                  gi_wp2
                  exact HF1.out.round_out HNEW.out (show Ow C F1 _ [.blk w.heap.size 4 #[.bool false], .map b k f c, .its (.slice (some ⟨gl, 0, none⟩) l.length cl) l, .ix g1 xs, .ix g2 xs, .its (.slice (some ⟨gw, 0, none⟩) xs.length c1) xs, .blk wb 25 #[.slice (some ⟨gw, 0, none⟩) xs.length c1], .blk (wb + 1) 3 #[.int .i64 (xs.length : Nat)], .blk (wb + 2) 3 #[.int .i64 (q + 1 : Nat)], .obj w5.heap.size (.deferred (some []))] from ((HST.out.below HB.out).set_ (i := 8) rfl 0 _).take 10) HCS.out
              case done2 =>
                clear hF S5
                rintro F A hA e1 hK
                have S9 := hide (hA.adopt e1 hwD hK)
                clear hA hK e1
                have i0 := (S9.out.blk (i := 7) rfl).cell 0 _ rfl
                have k0 := (S9.out.blk (i := 8) rfl).cell 0 _ rfl
                have v0 := (S9.out.blk (i := 6) rfl).cell 0 _ rfl
                have z0 := (S9.out.blk (i := 0) rfl).cell 0 _ rfl
                have zf := (S9.out.blk (i := 0) rfl).frozen 0
                go_wp2
                have R0 := S9.out.set_ (i := 0) rfl 0 (.bool true)
                have hK0 := R0.obj (i := 10) rfl
                have R1 := R0.taken (i := 10) rfl (.deferred none)
                have hK1 := R1.obj (i := 9) rfl
                have R2 := R1.taken (i := 9) rfl (.deferred none)
                refine ⟨by simp, .inl ⟨_, _, rfl, run_takeDeferred hK0, ?_⟩⟩
                refine ⟨by simp, .inl ⟨_, _, rfl, run_takeDeferred hK1, ?_⟩⟩
                have BZ := (R2.blk (i := 0) rfl).cell 0 _ rfl
                exact ⟨.bool true, by simp [results, Try.results6, go_sem, BZ], rfl, R2.bel⟩
              case stop2 => intro c k A h; exact h.elim
            case stop => intro c k A h; exact h.elim
end Go.Proofs.Ytkcomkllnhdohaa
