/-
  The walk of IndexParts.
-/
import Derived.Test.YtkcomkllnhdohaaScanL9
namespace Go.Proofs.Ytkcomkllnhdohaa
open Go.RowKit Go.Shelf
set_option linter.unusedSimpArgs false
set_option linter.unusedVariables false
attribute [local go_sem] Oper.semAt_some

set_option maxRecDepth 20000 in
set_option maxHeartbeats 16000000 in
theorem parts_walk (v : Value) (cs : List ICall) (mid : ByteArray) (tn : Int) (w : World) (hv : ICallRow w w.heap.size v cs) (_ : mid.size ≤ maxLen) (_ : (Lit.int .i64 tn).wf = true) : Calls Try.prog 7 #[v, .string mid, .int .i64 tn] w fun e w' => e = .returned (.bool true) ∧ Below w.heap.size w w' := by
  have S0 : Hid (Ow w (fun _ => False) (w.alloc (.cells #[.bool false] 4)) [.blk w.heap.size 4 #[.bool false]]) := hide ((Ow.start w).box 4 #[.bool false])
  obtain ⟨⟨A0, cap, rfl, hlc, _⟩, _⟩ := id hv
  have HV := hide hv
  clear hv
  cases hl : lightB cs
  · have HL := hide hl
    clear hl hlc
    refine (callsIn_wide (n := 4)).1 ?_
    refine callsIn_of_wp_marks Try.func7 rfl trivial ?_ rfl
    refine wpIn_wide.2 ?_
    simp only [Try.ntmps7, List.size_toArray, List.length_cons, List.length_nil, Nat.reduceAdd, Nat.reduceSub, Array.replicate_succ, Array.replicate_zero, List.push_toArray, List.append_toArray, List.nil_append, List.cons_append]
    go_wp2_with (first
      | (go_at_call 10; (with_reducible refine (fit_any _).mono ?_); rintro e w1 ⟨rfl, hb⟩; have S1 := hide (S0.out.below hb); clear hb)
      | (go_at_call 11; (with_reducible refine (light_any (HV.out.below_all S1.out.bel)).mono ?_); rw [HL.out]; rintro e w2 ⟨rfl, hb⟩; have S2 := hide (S1.out.below hb); have r0 := (S2.out.blk (i := 0) rfl).cell 0 _ rfl; have r1 := (S2.out.blk (i := 0) rfl).frozen 0; have rl := (S2.out.blk (i := 0) rfl).lt; clear hb))
    exact ⟨.bool true, by simp [results, Try.results7, go_sem, r0, r1], rfl, (S2.out.set_ (i := 0) rfl 0 (.bool true)).bel⟩
  · have HL := hide hl
    have HFEW := hide (lightB_few hl)
    have hfew : (cs.length : Int) ≤ 120 := by have := lightB_few hl; omega
    clear hl hlc
    by_cases h50 : 50 < mid.size
    · have h50i : (50 : Int) < (mid.size : Int) := by omega
      refine (callsIn_wide (n := 4)).1 ?_
      refine callsIn_of_wp_marks Try.func7 rfl trivial ?_ rfl
      refine wpIn_wide.2 ?_
      simp only [Try.ntmps7, List.size_toArray, List.length_cons, List.length_nil, Nat.reduceAdd, Nat.reduceSub, Array.replicate_succ, Array.replicate_zero, List.push_toArray, List.append_toArray, List.nil_append, List.cons_append]
      go_wp2_with (first
        | (go_at_call 10; (with_reducible refine (fit_any _).mono ?_); rintro e w1 ⟨rfl, hb⟩; have S1 := hide (S0.out.below hb); clear hb)
        | (go_at_call 11; (with_reducible refine (light_any (HV.out.below_all S1.out.bel)).mono ?_); rw [HL.out]; rintro e w2 ⟨rfl, hb⟩; have S2 := hide (S1.out.below hb); have r0 := (S2.out.blk (i := 0) rfl).cell 0 _ rfl; have r1 := (S2.out.blk (i := 0) rfl).frozen 0; have rl := (S2.out.blk (i := 0) rfl).lt; clear hb))
      exact ⟨.bool true, by simp [results, Try.results7, go_sem, r0, r1], rfl, (S2.out.set_ (i := 0) rfl 0 (.bool true)).bel⟩
    have h50i : ¬ (50 : Int) < (mid.size : Int) := by omega
    have h50s : mid.size ≤ 50 := by omega
    clear h50
    cases hm : Op.bytesLess ff2.toList mid.toList
    case true =>
      have hm2 := gt_form.trans hm
      clear hm
      refine (callsIn_wide (n := 4)).1 ?_
      refine callsIn_of_wp_marks Try.func7 rfl trivial ?_ rfl
      refine wpIn_wide.2 ?_
      simp only [Try.ntmps7, List.size_toArray, List.length_cons, List.length_nil, Nat.reduceAdd, Nat.reduceSub, Array.replicate_succ, Array.replicate_zero, List.push_toArray, List.append_toArray, List.nil_append, List.cons_append]
      go_wp2_with (first
        | (go_at_call 10; (with_reducible refine (fit_any _).mono ?_); rintro e w1 ⟨rfl, hb⟩; have S1 := hide (S0.out.below hb); clear hb)
        | (go_at_call 11; (with_reducible refine (light_any (HV.out.below_all S1.out.bel)).mono ?_); rw [HL.out]; rintro e w2 ⟨rfl, hb⟩; have S2 := hide (S1.out.below hb); have r0 := (S2.out.blk (i := 0) rfl).cell 0 _ rfl; have r1 := (S2.out.blk (i := 0) rfl).frozen 0; have rl := (S2.out.blk (i := 0) rfl).lt; clear hb))
      exact ⟨.bool true, by simp [results, Try.results7, go_sem, r0, r1], rfl, (S2.out.set_ (i := 0) rfl 0 (.bool true)).bel⟩
    have HM := hide hm
    have hm2 := gt_form.trans hm
    clear hm
    refine (callsIn_wide (n := 4)).1 ?_
    refine callsIn_of_wp_marks Try.func7 rfl trivial ?_ rfl
    refine wpIn_wide.2 ?_
    simp only [Try.ntmps7, List.size_toArray, List.length_cons, List.length_nil, Nat.reduceAdd, Nat.reduceSub, Array.replicate_succ, Array.replicate_zero, List.push_toArray, List.append_toArray, List.nil_append, List.cons_append]
    go_wp2_with (first
      | (go_at_call 10; (with_reducible refine (fit_any _).mono ?_); rintro e w1 ⟨rfl, hb⟩; have S1 := hide (S0.out.below hb); clear hb)
      | (go_at_call 11; (with_reducible refine (light_any (HV.out.below_all S1.out.bel)).mono ?_); rw [HL.out]; rintro e w2 ⟨rfl, hb⟩; have S2 := hide (S1.out.below hb); have r0 := (S2.out.blk (i := 0) rfl).cell 0 _ rfl; have r1 := (S2.out.blk (i := 0) rfl).frozen 0; have rl := (S2.out.blk (i := 0) rfl).lt; clear hb))
    have S3 : Hid (Ow w (fun _ => False) (w2.alloc (.cells #[.slice none 0 0] 27)) [.blk w.heap.size 4 #[.bool false], .ix w2.heap.size []]) := hide S2.out.newix
    clear r0 r1 rl S2 S1 S0
    generalize (w2.alloc (.cells #[.slice none 0 0] 27)) = w3 at *
    generalize w2.heap.size = g at *
    go_loopw [32] (fun i wr => ∃ (n : Nat) (xs : List It), n ≤ cs.length ∧ i = .int .i64 n ∧ Hid (Ow w (fun _ => False) wr [.blk w.heap.size 4 #[.bool false], .ix g xs]) ∧ Hid (Srt xs ∧ xs.length ≤ n)) (fun i _ => cs.length - (intOf i).toNat)
    case atStart => exact ⟨0, [], by omega, rfl, S3, hide ⟨List.Pairwise.nil, Nat.le_refl _⟩⟩
    case round =>
      obtain ⟨n, xs, hk, rfl, hs, hx0⟩ := hrel
      by_cases hlt : n < cs.length
      · obtain ⟨cl, hc⟩ : ∃ cl, cs[n]? = some cl := ⟨_, List.getElem?_eq_getElem hlt⟩
        obtain ⟨_, b1, o1, rfl, ⟨i0, i1, i2, i3, i4, i5⟩, _, hok⟩ := icall_cells HV.out hs.out.bel hc
        obtain ⟨ck, it⟩ := cl
        dsimp only at *
        obtain ⟨m, hm4, hand⟩ := and3 it.t
        obtain ⟨x, hx⟩ : ∃ x, x = it.low m := ⟨_, rfl⟩
        have HIN : Hid x.In := hide (by rw [hx]; exact it.low_in hm4)
        have HKEY : Hid (x.key.size ≤ 140737488351232) := hide (by rw [hx]; exact hok.key)
        have ex : (m : Int) = x.t ∧ it.key = x.key ∧ it.val = x.val ∧ it.p = x.p ∧ it.s = x.s := by rw [hx]; exact ⟨rfl, rfl, rfl, rfl, rfl⟩
        obtain ⟨e1, e2, e3, e4, e5⟩ := ex
        rw [e1] at hand
        rw [e2] at i2
        rw [e3] at i3
        rw [e4] at i4
        rw [e5] at i5
        have q0 : (0 : Int) ≤ (n : Int) := by omega
        have q1 : (n : Int) < (cs.length : Int) := by omega
        have HLT := hide hlt
        have HXL : Hid (xs.length < 1000) := hide (by have := hx0.out.2; have := HFEW.out; omega)
        clear hok hc e1 e2 e3 e4 e5 hx hm4 hlt
        have SB := hide (hs.out.box 34 #[.int .i64 ck, .int .i64 x.t, .string x.key, .string x.val, .int .i64 x.p, .int .i64 x.s])
        go_wp2_with (go_at_call 12; (with_reducible refine (ow_put SB.out (i := 1) rfl x HXL.out).mono ?_); rintro e W ⟨rfl, hm⟩; have SP := hide hm; clear hm)
        go_roundw
        case rel => exact ⟨n + 1, putL x xs, by have := HLT.out; omega, by go_num, hide (SP.out.take 2), hide ⟨srt_put hx0.out.1, by have := putL_length (y := x) hx0.out.1; have := hx0.out.2; omega⟩⟩
        case measure => simp [intOf]; have := HLT.out; omega
      · obtain rfl : n = cs.length := by omega
        clear hlt hk
        obtain ⟨m, hm4, hand⟩ := and3 tn
        obtain ⟨ts, hts⟩ : ∃ ts : Int, ts = (m : Int) := ⟨_, rfl⟩
        rw [← hts] at hand
        clear hts hm4
        have HXL : Hid (xs.length ≤ 200) := hide (by have := hx0.out.2; have := HFEW.out; omega)
        have HSR := hide hx0.out.1
        have S4 : Hid (Ow w (fun _ => False) ((wr.alloc (.cells #[.slice none 0 0] 25)).alloc (.cells #[.slice none 0 0] 25)) [.blk w.heap.size 4 #[.bool false], .ix g xs, .its (.slice none 0 0) [], .its (.slice none 0 0) [], .blk wr.heap.size 25 #[(.slice none 0 0)], .blk (wr.heap.size + 1) 25 #[(.slice none 0 0)]]) := hide (by
          have h := (((hs.out.nil_its).nil_its).box 25 #[.slice none 0 0]).box 25 #[.slice none 0 0]
          rw [World.size_alloc] at h
          exact h)
        go_wp2_with (go_at_call 19; (with_reducible refine (Scan_any _ _ _ _ _).mono ?_); rintro e WS ⟨rfl, hsc⟩; have HSC := hide hsc; clear hsc)
        have hsz : ((wr.alloc (.cells #[.slice none 0 0] 25)).alloc (.cells #[.slice none 0 0] 25)).heap.size = wr.heap.size + 2 := by simp
        have h1 := HSC.out.x
        have h2 := HSC.out.lo
        have h3 := HSC.out.hi
        rw [hsz] at h1 h2 h3
        have S5 := hide (S4.out.below HSC.out.bel)
        clear HSC S4 hs S3 HV HL hsz HFEW hx0
        generalize wr.heap.size = wb at *
        have HYL : Hid (([] : List It).length + (scanL (sought ts ⟨#[]⟩) (sought ts mid) xs).length ≤ 2000) := hide (by (have := scanL_length  (sought ts ⟨#[]⟩) (sought ts mid) xs; have := HXL.out; simp only [List.length_nil]; omega))
        obtain ⟨F, hF⟩ := S5.out
        have hwD := hF.kept.size
        refine wpIn_wide.1 (range_scan (n := 4) (by omega) (scanL (sought ts ⟨#[]⟩) (sought ts mid) xs) rfl rfl ?hit (fun q F A => ∃ v, OwF w (fun _ => False) F A [.blk w.heap.size 4 #[.bool false], .ix g xs, .its v (([] : List It) ++ (scanL (sought ts ⟨#[]⟩) (sought ts mid) xs).take q), .its (.slice none 0 0) [], .blk wb 25 #[v], .blk (wb + 1) 25 #[(.slice none 0 0)]]) (fun _ _ _ => False)
          (fun q F A B h e1 e2 hc => let ⟨v, h⟩ := h; ⟨v, h.calm hc e1 e2 hwD⟩) (fun _ _ _ _ h _ => h) ⟨F, ⟨(.slice none 0 0), by rw [List.take_zero, List.append_nil]; exact hF⟩, hF.lt⟩ ?round ?done ?stop)
        case hit =>
          intro l W2 J Jx hW hR h0
          obtain ⟨r, hX⟩ := Ow.ix (i := 1) ⟨F, hF⟩ rfl
          exact Scan1_in 3 l (by omega) (hX.below hW) (Blk.below h1 hW) (Blk.below h2 hW) (Blk.below h3 hW) (J := J) (Jx := Jx) hR h0
        case round =>
          clear hF S5
          rintro q F x A hx ⟨v, hA⟩ e1 e2 hlA
          have hlt := (List.getElem?_eq_some_iff.1 hx).1
          obtain ⟨Ar, cr, rfl⟩ := (Ow.its (i := 2) ⟨F, hA⟩ rfl).form
          have htk : (([] : List It) ++ (scanL (sought ts ⟨#[]⟩) (sought ts mid) xs).take q) ++ [x] = ([] : List It) ++ (scanL (sought ts ⟨#[]⟩) (sought ts mid) xs).take (q + 1) := by rw [List.take_add_one, hx, List.append_assoc]; rfl
          have HTK := hide htk
          have HFW : Hid ((([] : List It) ++ (scanL (sought ts ⟨#[]⟩) (sought ts mid) xs).take q).length ≤ 100000) := hide (by rw [List.length_append, List.length_take]; have := HYL.out; omega)
          have HA := hide hA
          have E1 := hide e1
          have E2 := hide e2
          have HLA := hide hlA
          clear hA hx e1 e2 hlA hlt htk
          generalize hgq : ([] : List It) ++ (scanL (sought ts ⟨#[]⟩) (sought ts mid) xs).take q = M at *
          clear hgq
          unfold It.v
          dsimp only
          gi_wp2
          refine ⟨(Below.refl _ _).alloc (Nat.le_refl _) _, fun C hC hs2 => ?_⟩
          obtain ⟨F1, hF1, hnew⟩ := HA.out.round_in _ _ E1.out E2.out hwD HLA.out hC
          have HST := hide hF1.restart
          obtain ⟨x0, x1, x2, x3, x4⟩ := item_cells (HST.out.blk (i := 6) rfl)
          have v0 := (HST.out.blk (i := 4) rfl).cell 0 _ rfl
          have vf := (HST.out.blk (i := 4) rfl).frozen 0
          have vl := (HST.out.blk (i := 4) rfl).lt
          have S7 := hide (HST.out.box 32 #[.int .i64 x.t, .string x.key, .string x.val, .int .i64 x.p, .int .i64 x.s])
          have HITS := hide (S7.out.its (i := 2) rfl)
          have HCX : Hid (∀ i u, x.cells[i]? = some u → (C.alloc (.cells #[.int .i64 x.t, .string x.key, .string x.val, .int .i64 x.p, .int .i64 x.s] 32)).cell? ⟨C.heap.size, i, none⟩ = some u) := hide (fun i u hi => (S7.out.blk (i := 7) rfl).cell i u (by rw [← hi, ← Array.getElem?_toList]; rfl))
          have HF1 := hide hF1
          have HNEW := hide hnew
          have HCS := hide (show A.heap.size ≤ C.heap.size by rw [hs2]; simp)
          clear hF1 hnew hC hs2
          gi_wp2_with (gi_at_builtin; refine wpListIn_append_it rfl (.tmp 54) (.tmp 56) rfl Try.underlying25 infoI rfl (by decide) rfl HITS.out HFW.out (Nat.zero_le _) rfl HCX.out ?_; intro v' w4 h1 h2 h3; have S8 := hide (S7.out.row (i := 2) rfl h1 h2 h3); obtain ⟨An', cn', rfl⟩ : ∃ A c, v' = .slice A (M.length + 1) c := (by (obtain ⟨A, c, h⟩ := h1.form; exact ⟨A, c, by (rw [h, List.length_append]; rfl)⟩)); have b0 := (S8.out.blk (i := 4) rfl).cell 0 _ rfl; have bf := (S8.out.blk (i := 4) rfl).frozen 0; clear h1 h2 h3)
          obtain ⟨k1, F', k2, k3⟩ := HF1.out.round_out HNEW.out (show Ow C F1 _ [.blk w.heap.size 4 #[.bool false], .ix g xs, .its (.slice An' (M.length + 1) cn') (M ++ [x]), .its (.slice none 0 0) [], .blk wb 25 #[(.slice An' (M.length + 1) cn')], .blk (wb + 1) 25 #[(.slice none 0 0)]] from ((S8.out.set_ (i := 4) rfl 0 _).take 6)) HCS.out
          rw [HTK.out] at k2
          exact ⟨k1, F', ⟨_, k2⟩, k3⟩
        case done =>
          clear hF S5
          rintro F w3 ⟨va, hA⟩ e1 hK
          rw [List.take_length] at hA
          rw [List.nil_append] at hA
          have S4 : Hid (Ow w (fun _ => False) w3 [.blk w.heap.size 4 #[.bool false], .ix g xs, .its va (scanL (sought ts ⟨#[]⟩) (sought ts mid) xs), .its (.slice none 0 0) [], .blk wb 25 #[va], .blk (wb + 1) 25 #[(.slice none 0 0)], .obj WS.heap.size (.deferred (some []))]) := hide (hA.adopt e1 hwD hK)
          clear hA hK e1 HYL
          clear hwD
          generalize WS.heap.size = d1 at *
          go_wp2_with (go_at_call 19; (with_reducible refine (Scan_any _ _ _ _ _).mono ?_); rintro e w4 ⟨rfl, hsc⟩; have HSC := hide hsc; clear hsc)
          have h1 := HSC.out.x
          have h2 := HSC.out.lo
          have h3 := HSC.out.hi
          have S5 := hide (S4.out.below HSC.out.bel)
          clear HSC S4
          have HYL : Hid ((scanL (sought ts ⟨#[]⟩) (sought ts mid) xs).length + (scanL (sought ts (mid ++ ⟨#[0]⟩)) (sought ts ff4) xs).length ≤ 2000) := hide (by (have := scanL_length  (sought ts ⟨#[]⟩) (sought ts mid) xs; have := scanL_length  (sought ts (mid ++ ⟨#[0]⟩)) (sought ts ff4) xs; have := HXL.out; omega))
          obtain ⟨F, hF⟩ := S5.out
          have hwD := hF.kept.size
          refine wpIn_wide.1 (range_scan (n := 4) (by omega) (scanL (sought ts (mid ++ ⟨#[0]⟩)) (sought ts ff4) xs) rfl rfl ?hit2 (fun q F A => ∃ v, OwF w (fun _ => False) F A [.blk w.heap.size 4 #[.bool false], .ix g xs, .its v ((scanL (sought ts ⟨#[]⟩) (sought ts mid) xs) ++ (scanL (sought ts (mid ++ ⟨#[0]⟩)) (sought ts ff4) xs).take q), .its (.slice none 0 0) [], .blk wb 25 #[v], .blk (wb + 1) 25 #[(.slice none 0 0)], .obj d1 (.deferred (some []))]) (fun _ _ _ => False)
            (fun q F A B h e1 e2 hc => let ⟨v, h⟩ := h; ⟨v, h.calm hc e1 e2 hwD⟩) (fun _ _ _ _ h _ => h) ⟨F, ⟨va, by rw [List.take_zero, List.append_nil]; exact hF⟩, hF.lt⟩ ?round2 ?done2 ?stop2)
          case hit2 =>
            intro l W2 J Jx hW hR h0
            obtain ⟨r, hX⟩ := Ow.ix (i := 1) ⟨F, hF⟩ rfl
            exact Scan1_in 3 l (by omega) (hX.below hW) (Blk.below h1 hW) (Blk.below h2 hW) (Blk.below h3 hW) (J := J) (Jx := Jx) hR h0
          case round2 =>
            clear hF S5
            rintro q F x A hx ⟨v, hA⟩ e1 e2 hlA
            have hlt := (List.getElem?_eq_some_iff.1 hx).1
            obtain ⟨Ar, cr, rfl⟩ := (Ow.its (i := 2) ⟨F, hA⟩ rfl).form
            have htk : ((scanL (sought ts ⟨#[]⟩) (sought ts mid) xs) ++ (scanL (sought ts (mid ++ ⟨#[0]⟩)) (sought ts ff4) xs).take q) ++ [x] = (scanL (sought ts ⟨#[]⟩) (sought ts mid) xs) ++ (scanL (sought ts (mid ++ ⟨#[0]⟩)) (sought ts ff4) xs).take (q + 1) := by rw [List.take_add_one, hx, List.append_assoc]; rfl
            have HTK := hide htk
            have HFW : Hid (((scanL (sought ts ⟨#[]⟩) (sought ts mid) xs) ++ (scanL (sought ts (mid ++ ⟨#[0]⟩)) (sought ts ff4) xs).take q).length ≤ 100000) := hide (by rw [List.length_append, List.length_take]; have := HYL.out; omega)
            have HA := hide hA
            have E1 := hide e1
            have E2 := hide e2
            have HLA := hide hlA
            clear hA hx e1 e2 hlA hlt htk
            generalize hgq : (scanL (sought ts ⟨#[]⟩) (sought ts mid) xs) ++ (scanL (sought ts (mid ++ ⟨#[0]⟩)) (sought ts ff4) xs).take q = M at *
            clear hgq
            unfold It.v
            dsimp only
            gi_wp2
            refine ⟨(Below.refl _ _).alloc (Nat.le_refl _) _, fun C hC hs2 => ?_⟩
            obtain ⟨F1, hF1, hnew⟩ := HA.out.round_in _ _ E1.out E2.out hwD HLA.out hC
            have HST := hide hF1.restart
            obtain ⟨x0, x1, x2, x3, x4⟩ := item_cells (HST.out.blk (i := 7) rfl)
            have v0 := (HST.out.blk (i := 4) rfl).cell 0 _ rfl
            have vf := (HST.out.blk (i := 4) rfl).frozen 0
            have vl := (HST.out.blk (i := 4) rfl).lt
            have S7 := hide (HST.out.box 32 #[.int .i64 x.t, .string x.key, .string x.val, .int .i64 x.p, .int .i64 x.s])
            have HITS := hide (S7.out.its (i := 2) rfl)
            have HCX : Hid (∀ i u, x.cells[i]? = some u → (C.alloc (.cells #[.int .i64 x.t, .string x.key, .string x.val, .int .i64 x.p, .int .i64 x.s] 32)).cell? ⟨C.heap.size, i, none⟩ = some u) := hide (fun i u hi => (S7.out.blk (i := 8) rfl).cell i u (by rw [← hi, ← Array.getElem?_toList]; rfl))
            have HF1 := hide hF1
            have HNEW := hide hnew
            have HCS := hide (show A.heap.size ≤ C.heap.size by rw [hs2]; simp)
            clear hF1 hnew hC hs2
            gi_wp2_with (gi_at_builtin; refine wpListIn_append_it rfl (.tmp 63) (.tmp 65) rfl Try.underlying25 infoI rfl (by decide) rfl HITS.out HFW.out (Nat.zero_le _) rfl HCX.out ?_; intro v' w4 h1 h2 h3; have S8 := hide (S7.out.row (i := 2) rfl h1 h2 h3); obtain ⟨An', cn', rfl⟩ : ∃ A c, v' = .slice A (M.length + 1) c := (by (obtain ⟨A, c, h⟩ := h1.form; exact ⟨A, c, by (rw [h, List.length_append]; rfl)⟩)); have b0 := (S8.out.blk (i := 4) rfl).cell 0 _ rfl; have bf := (S8.out.blk (i := 4) rfl).frozen 0; clear h1 h2 h3)
            obtain ⟨k1, F', k2, k3⟩ := HF1.out.round_out HNEW.out (show Ow C F1 _ [.blk w.heap.size 4 #[.bool false], .ix g xs, .its (.slice An' (M.length + 1) cn') (M ++ [x]), .its (.slice none 0 0) [], .blk wb 25 #[(.slice An' (M.length + 1) cn')], .blk (wb + 1) 25 #[(.slice none 0 0)], .obj d1 (.deferred (some []))] from ((S8.out.set_ (i := 4) rfl 0 _).take 7)) HCS.out
            rw [HTK.out] at k2
            exact ⟨k1, F', ⟨_, k2⟩, k3⟩
          case done2 =>
            clear hF S5
            rintro F w5 ⟨va, hA⟩ e1 hK
            rw [List.take_length] at hA
            have S4 : Hid (Ow w (fun _ => False) w5 [.blk w.heap.size 4 #[.bool false], .ix g xs, .its va ((scanL (sought ts ⟨#[]⟩) (sought ts mid) xs) ++ (scanL (sought ts (mid ++ ⟨#[0]⟩)) (sought ts ff4) xs)), .its (.slice none 0 0) [], .blk wb 25 #[va], .blk (wb + 1) 25 #[(.slice none 0 0)], .obj d1 (.deferred (some [])), .obj w4.heap.size (.deferred (some []))]) := hide (hA.adopt e1 hwD hK)
            clear hA hK e1 HYL
            clear hwD
            generalize w4.heap.size = d2 at *
            go_wp2_with (go_at_call 19; (with_reducible refine (Scan_any _ _ _ _ _).mono ?_); rintro e w6 ⟨rfl, hsc⟩; have HSC := hide hsc; clear hsc)
            have h1 := HSC.out.x
            have h2 := HSC.out.lo
            have h3 := HSC.out.hi
            have S5 := hide (S4.out.below HSC.out.bel)
            clear HSC S4
            have HYL : Hid (([] : List It).length + (scanL (sought ts ⟨#[]⟩) (sought ts ff4) xs).length ≤ 2000) := hide (by (have := scanL_length  (sought ts ⟨#[]⟩) (sought ts ff4) xs; have := HXL.out; simp only [List.length_nil]; omega))
            obtain ⟨F, hF⟩ := S5.out
            have hwD := hF.kept.size
            refine wpIn_wide.1 (range_scan (n := 4) (by omega) (scanL (sought ts ⟨#[]⟩) (sought ts ff4) xs) rfl rfl ?hit3 (fun q F A => ∃ v, OwF w (fun _ => False) F A [.blk w.heap.size 4 #[.bool false], .ix g xs, .its va ((scanL (sought ts ⟨#[]⟩) (sought ts mid) xs) ++ (scanL (sought ts (mid ++ ⟨#[0]⟩)) (sought ts ff4) xs)), .its v (([] : List It) ++ (scanL (sought ts ⟨#[]⟩) (sought ts ff4) xs).take q), .blk wb 25 #[va], .blk (wb + 1) 25 #[v], .obj d1 (.deferred (some [])), .obj d2 (.deferred (some []))]) (fun _ _ _ => False)
              (fun q F A B h e1 e2 hc => let ⟨v, h⟩ := h; ⟨v, h.calm hc e1 e2 hwD⟩) (fun _ _ _ _ h _ => h) ⟨F, ⟨(.slice none 0 0), by rw [List.take_zero, List.append_nil]; exact hF⟩, hF.lt⟩ ?round3 ?done3 ?stop3)
            case hit3 =>
              intro l W2 J Jx hW hR h0
              obtain ⟨r, hX⟩ := Ow.ix (i := 1) ⟨F, hF⟩ rfl
              exact Scan1_in 3 l (by omega) (hX.below hW) (Blk.below h1 hW) (Blk.below h2 hW) (Blk.below h3 hW) (J := J) (Jx := Jx) hR h0
            case round3 =>
              clear hF S5
              rintro q F x A hx ⟨v, hA⟩ e1 e2 hlA
              have hlt := (List.getElem?_eq_some_iff.1 hx).1
              obtain ⟨Ar, cr, rfl⟩ := (Ow.its (i := 3) ⟨F, hA⟩ rfl).form
              have htk : (([] : List It) ++ (scanL (sought ts ⟨#[]⟩) (sought ts ff4) xs).take q) ++ [x] = ([] : List It) ++ (scanL (sought ts ⟨#[]⟩) (sought ts ff4) xs).take (q + 1) := by rw [List.take_add_one, hx, List.append_assoc]; rfl
              have HTK := hide htk
              have HFW : Hid ((([] : List It) ++ (scanL (sought ts ⟨#[]⟩) (sought ts ff4) xs).take q).length ≤ 100000) := hide (by rw [List.length_append, List.length_take]; have := HYL.out; omega)
              have HA := hide hA
              have E1 := hide e1
              have E2 := hide e2
              have HLA := hide hlA
              clear hA hx e1 e2 hlA hlt htk
              generalize hgq : ([] : List It) ++ (scanL (sought ts ⟨#[]⟩) (sought ts ff4) xs).take q = M at *
              clear hgq
              unfold It.v
              dsimp only
              gi_wp2
              refine ⟨(Below.refl _ _).alloc (Nat.le_refl _) _, fun C hC hs2 => ?_⟩
              obtain ⟨F1, hF1, hnew⟩ := HA.out.round_in _ _ E1.out E2.out hwD HLA.out hC
              have HST := hide hF1.restart
              obtain ⟨x0, x1, x2, x3, x4⟩ := item_cells (HST.out.blk (i := 8) rfl)
              have v0 := (HST.out.blk (i := 5) rfl).cell 0 _ rfl
              have vf := (HST.out.blk (i := 5) rfl).frozen 0
              have vl := (HST.out.blk (i := 5) rfl).lt
              have S7 := hide (HST.out.box 32 #[.int .i64 x.t, .string x.key, .string x.val, .int .i64 x.p, .int .i64 x.s])
              have HITS := hide (S7.out.its (i := 3) rfl)
              have HCX : Hid (∀ i u, x.cells[i]? = some u → (C.alloc (.cells #[.int .i64 x.t, .string x.key, .string x.val, .int .i64 x.p, .int .i64 x.s] 32)).cell? ⟨C.heap.size, i, none⟩ = some u) := hide (fun i u hi => (S7.out.blk (i := 9) rfl).cell i u (by rw [← hi, ← Array.getElem?_toList]; rfl))
              have HF1 := hide hF1
              have HNEW := hide hnew
              have HCS := hide (show A.heap.size ≤ C.heap.size by rw [hs2]; simp)
              clear hF1 hnew hC hs2
              gi_wp2_with (gi_at_builtin; refine wpListIn_append_it rfl (.tmp 70) (.tmp 72) rfl Try.underlying25 infoI rfl (by decide) rfl HITS.out HFW.out (Nat.zero_le _) rfl HCX.out ?_; intro v' w4 h1 h2 h3; have S8 := hide (S7.out.row (i := 3) rfl h1 h2 h3); obtain ⟨An', cn', rfl⟩ : ∃ A c, v' = .slice A (M.length + 1) c := (by (obtain ⟨A, c, h⟩ := h1.form; exact ⟨A, c, by (rw [h, List.length_append]; rfl)⟩)); have b0 := (S8.out.blk (i := 5) rfl).cell 0 _ rfl; have bf := (S8.out.blk (i := 5) rfl).frozen 0; clear h1 h2 h3)
              obtain ⟨k1, F', k2, k3⟩ := HF1.out.round_out HNEW.out (show Ow C F1 _ [.blk w.heap.size 4 #[.bool false], .ix g xs, .its va ((scanL (sought ts ⟨#[]⟩) (sought ts mid) xs) ++ (scanL (sought ts (mid ++ ⟨#[0]⟩)) (sought ts ff4) xs)), .its (.slice An' (M.length + 1) cn') (M ++ [x]), .blk wb 25 #[va], .blk (wb + 1) 25 #[(.slice An' (M.length + 1) cn')], .obj d1 (.deferred (some [])), .obj d2 (.deferred (some []))] from ((S8.out.set_ (i := 5) rfl 0 _).take 8)) HCS.out
              rw [HTK.out] at k2
              exact ⟨k1, F', ⟨_, k2⟩, k3⟩
            case done3 =>
              clear hF S5
              rintro F w7 ⟨vm, hA⟩ e1 hK
              rw [List.take_length] at hA
              have va0 : True := trivial
              clear va0
              rw [parts_join HSR.out ts mid HM.out, List.nil_append] at hA
              have HYN : Hid ((scanL (sought ts ⟨#[]⟩) (sought ts ff4) xs).length ≤ 2000) := hide (by (have := HYL.out; simp only [List.length_nil] at this; omega))
              generalize (scanL (sought ts ⟨#[]⟩) (sought ts ff4) xs) = Y at hA HYN
              have S4 : Hid (Ow w (fun _ => False) w7 [.blk w.heap.size 4 #[.bool false], .ix g xs, .its va Y, .its vm Y, .blk wb 25 #[va], .blk (wb + 1) 25 #[vm], .obj d1 (.deferred (some [])), .obj d2 (.deferred (some [])), .obj w6.heap.size (.deferred (some []))]) := hide (hA.adopt e1 hwD hK)
              clear hA hK e1 HYL
              clear hwD
              generalize w6.heap.size = d3 at *
              go_wp2_with (go_at_call 19; (with_reducible refine (Scan_any _ _ _ _ _).mono ?_); rintro e w8 ⟨rfl, hsc⟩; have HSC := hide hsc; clear hsc)
              have h1 := HSC.out.x
              have h2 := HSC.out.lo
              have h3 := HSC.out.hi
              have S5 := hide (S4.out.below HSC.out.bel)
              clear HSC S4
              obtain ⟨F, hF⟩ := S5.out
              have hwD := hF.kept.size
              refine wpIn_wide.1 (range_scan (n := 4) (by omega) (scanL (sought ts (mid ++ ⟨#[97]⟩)) (sought ts mid) xs) rfl rfl ?hit4 (fun q F A => OwF w (fun _ => False) F A [.blk w.heap.size 4 #[.bool false], .ix g xs, .its va Y, .its vm Y, .blk wb 25 #[va], .blk (wb + 1) 25 #[vm], .obj d1 (.deferred (some [])), .obj d2 (.deferred (some [])), .obj d3 (.deferred (some []))]) (fun _ _ _ => False)
                (fun q F A B h e1 e2 hc => h.calm hc e1 e2 hwD) (fun _ _ _ _ h _ => h) ⟨F, hF, hF.lt⟩ ?round4 ?done4 ?stop4)
              case hit4 =>
                intro l W2 J Jx hW hR h0
                obtain ⟨r, hX⟩ := Ow.ix (i := 1) ⟨F, hF⟩ rfl
                exact Scan1_in 3 l (by omega) (hX.below hW) (Blk.below h1 hW) (Blk.below h2 hW) (Blk.below h3 hW) (J := J) (Jx := Jx) hR h0
              case round4 =>
                intro q F x A hx
                rw [parts_none HSR.out] at hx
                exact absurd hx (by simp)
              case done4 =>
                clear hF S5
                rintro F w9 hA e1 hK
                have S9 : Hid (Ow w (fun _ => False) w9 [.blk w.heap.size 4 #[.bool false], .ix g xs, .its va Y, .its vm Y, .blk wb 25 #[va], .blk (wb + 1) 25 #[vm], .obj d1 (.deferred (some [])), .obj d2 (.deferred (some [])), .obj d3 (.deferred (some [])), .obj w8.heap.size (.deferred (some []))]) := hide (hA.adopt e1 hwD hK)
                clear hA hK e1
                clear hwD
                generalize w8.heap.size = d4 at *
                obtain ⟨Aa, ca, rfl⟩ := (S9.out.its (i := 2) rfl).form
                obtain ⟨Am, cm, rfl⟩ := (S9.out.its (i := 3) rfl).form
                have v0 := (S9.out.blk (i := 4) rfl).cell 0 _ rfl
                have m0 := (S9.out.blk (i := 5) rfl).cell 0 _ rfl
                go_wp2
                clear v0 m0
                go_loopw [87] (fun i wq => ∃ j : Nat, j ≤ Y.length ∧ i = .int .i64 j ∧ Hid (Ow w (fun _ => False) wq [.blk w.heap.size 4 #[.bool false], .ix g xs, .its (.slice Aa Y.length ca) Y, .its (.slice Am Y.length cm) Y, .blk wb 25 #[(.slice Aa Y.length ca)], .blk (wb + 1) 25 #[(.slice Am Y.length cm)], .obj d1 (.deferred (some [])), .obj d2 (.deferred (some [])), .obj d3 (.deferred (some [])), .obj d4 (.deferred (some []))])) (fun i _ => Y.length - (intOf i).toNat)
                case atStart => exact ⟨0, by omega, rfl, S9⟩
                case round =>
                  obtain ⟨j, hj, rfl, hq⟩ := hrel
                  by_cases hlt : j < Y.length
                  · obtain ⟨y, hy⟩ : ∃ y, Y[j]? = some y := ⟨_, List.getElem?_eq_getElem hlt⟩
                    obtain ⟨ga, hga⟩ : ∃ ga, Aa = some ⟨ga, 0, none⟩ := by
                      obtain ⟨g', c', h, _⟩ := (hq.out.its (i := 2) rfl).block (by omega)
                      injection h with h
                      exact ⟨g', h⟩
                    obtain ⟨gm, hgm⟩ : ∃ gm, Am = some ⟨gm, 0, none⟩ := by
                      obtain ⟨g', c', h, _⟩ := (hq.out.its (i := 3) rfl).block (by omega)
                      injection h with h
                      exact ⟨g', h⟩
                    subst hga
                    subst hgm
                    have HY := hide hy
                    have HLT := hide hlt
                    have HQ := hide (show (0 : Int) ≤ (j : Int) ∧ (j : Int) < (Y.length : Int) by omega)
                    have q0 : (0 : Int) ≤ (j : Int) := by omega
                    have q1 : (j : Int) < (Y.length : Int) := by omega
                    have q2 : (Y.length : Int) ≤ 2000 := by have := HYN.out; omega
                    clear hy hlt
                    go_wp2
                    refine region_grows [Say.is ((.slice (some ⟨ga, 0, none⟩) Y.length ca)), Say.is (.int .i64 (j : Int)), Say.is (.pointer (some ⟨ga, j * 5, none⟩)), Say.is (.agg #[.int .i64 y.t, .string y.key, .string y.val, .int .i64 y.p, .int .i64 y.s]), Say.is ((.slice (some ⟨gm, 0, none⟩) Y.length cm)), Say.is (.int .i64 (j : Int)), Say.is (.pointer (some ⟨gm, j * 5, none⟩)), Say.is (.agg #[.int .i64 y.t, .string y.key, .string y.val, .int .i64 y.p, .int .i64 y.s]), Say.is (.bool false)] (by kernel_rfl) (by kernel_rfl) (by kernel_rfl) (by kernel_rfl) ?_ ?_
                    · intro i o ho a w2 hb hsz old dep
                      match i, ho with
                      | 0, ho =>
                        obtain rfl := Option.some.inj ho
                        have o10 : a.tmps.getD 10 undef = _ := old 10 (by kernel_rfl)
                        rw [if_pos (wanted_none rfl)]
                        have g0 := ((hq.out.below hb).blk (i := 4) rfl).cell 0 _ rfl
                        refine grow_same (v := (.slice (some ⟨ga, 0, none⟩) Y.length ca)) ?_ rfl
                        clear old dep ho hsz hb
                        go_simp
                      | 1, ho =>
                        obtain rfl := Option.some.inj ho
                        have o15 : a.tmps.getD 15 undef = _ := old 15 (by kernel_rfl)
                        rw [if_pos (wanted_none rfl)]
                        refine grow_same (v := .int .i64 (j : Int)) ?_ rfl
                        clear old dep ho hsz hb
                        go_simp
                      | 2, ho =>
                        obtain rfl := Option.some.inj ho
                        have d0 : a.tmps.getD 90 undef = (.slice (some ⟨ga, 0, none⟩) Y.length ca) := dep 0 _ _ (by kernel_rfl) rfl rfl
                        have e0 : a.tmps[90]?.getD undef = _ := (Array.getD_eq_getD_getElem? ..).symm.trans d0
                        have d1 : a.tmps.getD 91 undef = .int .i64 (j : Int) := dep 1 _ _ (by kernel_rfl) rfl rfl
                        have e1 : a.tmps[91]?.getD undef = _ := (Array.getD_eq_getD_getElem? ..).symm.trans d1
                        rw [if_pos (wanted_none rfl)]
                        have g0 := HQ.out.1
                        have g1 := HQ.out.2
                        refine grow_same (v := .pointer (some ⟨ga, j * 5, none⟩)) ?_ rfl
                        clear old dep ho hsz hb
                        go_simp
                      | 3, ho =>
                        obtain rfl := Option.some.inj ho
                        have d2 : a.tmps.getD 92 undef = .pointer (some ⟨ga, j * 5, none⟩) := dep 2 _ _ (by kernel_rfl) rfl rfl
                        have e2 : a.tmps[92]?.getD undef = _ := (Array.getD_eq_getD_getElem? ..).symm.trans d2
                        rw [if_pos (wanted_none rfl)]
                        obtain ⟨g0, g1, g2, g3, g4⟩ := Its.cells ((hq.out.below hb).its (i := 2) rfl) rfl HY.out
                        refine grow_same (v := .agg #[.int .i64 y.t, .string y.key, .string y.val, .int .i64 y.p, .int .i64 y.s]) ?_ rfl
                        clear old dep ho hsz hb
                        go_simp
                      | 4, ho =>
                        obtain rfl := Option.some.inj ho
                        have o11 : a.tmps.getD 11 undef = _ := old 11 (by kernel_rfl)
                        rw [if_pos (wanted_none rfl)]
                        have g0 := ((hq.out.below hb).blk (i := 5) rfl).cell 0 _ rfl
                        refine grow_same (v := (.slice (some ⟨gm, 0, none⟩) Y.length cm)) ?_ rfl
                        clear old dep ho hsz hb
                        go_simp
                      | 5, ho =>
                        obtain rfl := Option.some.inj ho
                        have o15 : a.tmps.getD 15 undef = _ := old 15 (by kernel_rfl)
                        rw [if_pos (wanted_none rfl)]
                        refine grow_same (v := .int .i64 (j : Int)) ?_ rfl
                        clear old dep ho hsz hb
                        go_simp
                      | 6, ho =>
                        obtain rfl := Option.some.inj ho
                        have d4 : a.tmps.getD 94 undef = (.slice (some ⟨gm, 0, none⟩) Y.length cm) := dep 4 _ _ (by kernel_rfl) rfl rfl
                        have e4 : a.tmps[94]?.getD undef = _ := (Array.getD_eq_getD_getElem? ..).symm.trans d4
                        have d5 : a.tmps.getD 95 undef = .int .i64 (j : Int) := dep 5 _ _ (by kernel_rfl) rfl rfl
                        have e5 : a.tmps[95]?.getD undef = _ := (Array.getD_eq_getD_getElem? ..).symm.trans d5
                        rw [if_pos (wanted_none rfl)]
                        have g0 := HQ.out.1
                        have g1 := HQ.out.2
                        refine grow_same (v := .pointer (some ⟨gm, j * 5, none⟩)) ?_ rfl
                        clear old dep ho hsz hb
                        go_simp
                      | 7, ho =>
                        obtain rfl := Option.some.inj ho
                        have d6 : a.tmps.getD 96 undef = .pointer (some ⟨gm, j * 5, none⟩) := dep 6 _ _ (by kernel_rfl) rfl rfl
                        have e6 : a.tmps[96]?.getD undef = _ := (Array.getD_eq_getD_getElem? ..).symm.trans d6
                        rw [if_pos (wanted_none rfl)]
                        obtain ⟨g0, g1, g2, g3, g4⟩ := Its.cells ((hq.out.below hb).its (i := 3) rfl) rfl HY.out
                        refine grow_same (v := .agg #[.int .i64 y.t, .string y.key, .string y.val, .int .i64 y.p, .int .i64 y.s]) ?_ rfl
                        clear old dep ho hsz hb
                        go_simp
                      | 8, ho =>
                        obtain rfl := Option.some.inj ho
                        have d3 : a.tmps.getD 93 undef = .agg #[.int .i64 y.t, .string y.key, .string y.val, .int .i64 y.p, .int .i64 y.s] := dep 3 _ _ (by kernel_rfl) rfl rfl
                        have e3 : a.tmps[93]?.getD undef = _ := (Array.getD_eq_getD_getElem? ..).symm.trans d3
                        have d7 : a.tmps.getD 97 undef = .agg #[.int .i64 y.t, .string y.key, .string y.val, .int .i64 y.p, .int .i64 y.s] := dep 7 _ _ (by kernel_rfl) rfl rfl
                        have e7 : a.tmps[97]?.getD undef = _ := (Array.getD_eq_getD_getElem? ..).symm.trans d7
                        rw [if_pos (wanted_none rfl)]
                        refine grow_same (v := .bool false) ?_ rfl
                        clear old dep ho hsz hb
                        go_simp
                      | i + 9, ho => exact absurd ho (by simp)
                    · intro a w10 hb hsz hdf fin keep
                      obtain ⟨tm, df⟩ := a
                      have hx := frame_of [90, 91, 92, 93, 94, 95, 96, 97, 98] (by kernel_rfl) hsz keep
                      dsimp only at hdf hx
                      simp only [List.foldl_cons, List.foldl_nil] at hx
                      subst hdf
                      clear hsz keep
                      have kn : tm.getD 90 undef = (.slice (some ⟨ga, 0, none⟩) Y.length ca) := fin 0 _ _ rfl rfl
                      rw [kn] at hx
                      clear kn
                      have kn : tm.getD 91 undef = .int .i64 (j : Int) := fin 1 _ _ rfl rfl
                      rw [kn] at hx
                      clear kn
                      have kn : tm.getD 92 undef = .pointer (some ⟨ga, j * 5, none⟩) := fin 2 _ _ rfl rfl
                      rw [kn] at hx
                      clear kn
                      have kn : tm.getD 93 undef = .agg #[.int .i64 y.t, .string y.key, .string y.val, .int .i64 y.p, .int .i64 y.s] := fin 3 _ _ rfl rfl
                      rw [kn] at hx
                      clear kn
                      have kn : tm.getD 94 undef = (.slice (some ⟨gm, 0, none⟩) Y.length cm) := fin 4 _ _ rfl rfl
                      rw [kn] at hx
                      clear kn
                      have kn : tm.getD 95 undef = .int .i64 (j : Int) := fin 5 _ _ rfl rfl
                      rw [kn] at hx
                      clear kn
                      have kn : tm.getD 96 undef = .pointer (some ⟨gm, j * 5, none⟩) := fin 6 _ _ rfl rfl
                      rw [kn] at hx
                      clear kn
                      have kn : tm.getD 97 undef = .agg #[.int .i64 y.t, .string y.key, .string y.val, .int .i64 y.p, .int .i64 y.s] := fin 7 _ _ rfl rfl
                      rw [kn] at hx
                      clear kn
                      have kn : tm.getD 98 undef = .bool false := fin 8 _ _ rfl rfl
                      rw [kn] at hx
                      clear kn
                      clear fin
                      simp only [List.setIfInBounds_toArray, List.set_cons_succ, List.set_cons_zero] at hx
                      subst hx
                      have HB := hide hb
                      clear hb
                      go_wp2
                      go_roundw
                      case rel => exact ⟨j + 1, by have := HLT.out; omega, by go_num, hide (hq.out.below HB.out)⟩
                      case measure => simp [intOf]; have := HLT.out; omega
                  · obtain rfl : j = Y.length := by omega
                    clear hlt hj
                    have S9 := hq
                    have z0 := (S9.out.blk (i := 0) rfl).cell 0 _ rfl
                    have zf := (S9.out.blk (i := 0) rfl).frozen 0
                    go_wp2
                    have R0 := S9.out.set_ (i := 0) rfl 0 (.bool true)
                    have hK0 := R0.obj (i := 9) rfl
                    have R1 := R0.taken (i := 9) rfl (.deferred none)
                    have hK1 := R1.obj (i := 8) rfl
                    have R2 := R1.taken (i := 8) rfl (.deferred none)
                    have hK2 := R2.obj (i := 7) rfl
                    have R3 := R2.taken (i := 7) rfl (.deferred none)
                    have hK3 := R3.obj (i := 6) rfl
                    have R4 := R3.taken (i := 6) rfl (.deferred none)
                    refine ⟨by simp, .inl ⟨_, _, rfl, run_takeDeferred hK0, ?_⟩⟩
                    refine ⟨by simp, .inl ⟨_, _, rfl, run_takeDeferred hK1, ?_⟩⟩
                    refine ⟨by simp, .inl ⟨_, _, rfl, run_takeDeferred hK2, ?_⟩⟩
                    refine ⟨by simp, .inl ⟨_, _, rfl, run_takeDeferred hK3, ?_⟩⟩
                    have BZ := (R4.blk (i := 0) rfl).cell 0 _ rfl
                    exact ⟨.bool true, by simp [results, Try.results7, go_sem, BZ], rfl, R4.bel⟩
              case stop4 => intro c k A h; exact h.elim
            case stop3 => intro c k A h; exact h.elim
          case stop2 => intro c k A h; exact h.elim
        case stop => intro c k A h; exact h.elim
end Go.Proofs.Ytkcomkllnhdohaa
