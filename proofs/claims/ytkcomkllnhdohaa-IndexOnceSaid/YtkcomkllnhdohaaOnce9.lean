/-
  The walk of IndexOnce.
-/
import Derived.Test.YtkcomkllnhdohaaOnceA9
namespace Go.Proofs.Ytkcomkllnhdohaa
open Go.RowKit Go.Shelf
set_option linter.unusedSimpArgs false
set_option linter.unusedVariables false
attribute [local go_sem] Oper.semAt_some

theorem wpList_runA {P : Program} {ops : Array Oper} {rest : List Oper} {o : Oper} {a : Act} {Q : Exit → Act → World → Prop} {w : World} (hw : Region.wanted o (yielded ops a.tmps) = true) (s y : Operand) (t : TypeId)
    (ho : o.op = .call { callee := .builtin .append, args := #[s, y], argTypes := #[t, t] }) {v x : Value} (hs : a.eval s = v) (hy : a.eval y = x) {v' : Value} {w' : World} (hrun : (Builtin.append_ #[t, t] o.type #[v, x]).run P w = .ok v' w')
    (h : wpList P ops Q rest (a.put o.dst v') w') : wpList P ops Q (o :: rest) a w := by
  unfold wpList
  rw [if_pos hw]
  refine .inl ?_
  unfold Oper.wp
  simp [execOp, ho, resolve, invoke, builtin, hs, hy, hrun, Result.andThen]
  exact h
/-- What was put by others: in order, few, and none of z's key. -/
structure OL (z : It) (xs : List It) (n : Nat) : Prop where
  srt : Srt xs
  few : xs.length ≤ n
  no : ∀ a ∈ xs, ¬ a.same z
theorem OL.nil (z : It) : OL z [] 0 := ⟨List.Pairwise.nil, Nat.le_refl _, fun a h => by cases h⟩
theorem OL.put {z x : It} {xs : List It} {n : Nat} (h : OL z xs n) (hx : ¬ x.same z) : OL z (putL x xs) (n + 1) := by
  refine ⟨srt_put h.srt, Nat.le_trans (putL_length h.srt) (Nat.succ_le_succ h.few), fun a ha => ?_⟩
  rcases mem_ins.1 ha with e | e
  · rw [e]; exact hx
  · exact h.no a (mem_delL.1 e).1
theorem OL.skip {z : It} {xs : List It} {n : Nat} (h : OL z xs n) : OL z xs (n + 1) := ⟨h.srt, Nat.le_succ_of_le h.few, h.no⟩
theorem OL.has {z : It} {xs : List It} {n : Nat} (h : OL z xs n) : hasL z xs = false := by
  cases e : hasL z xs with
  | false => rfl
  | true =>
    unfold hasL at e
    obtain ⟨a, ha⟩ := Option.isSome_iff_exists.1 e
    exact absurd (itS_iff.1 (by simpa using List.find?_some ha)) (h.no a (List.mem_of_find?_eq_some ha))
theorem del_put {z : It} {xs : List It} (h : ∀ a ∈ xs, ¬ a.same z) : delL z (putL z xs) = xs := by
  have hno : ∀ a ∈ xs, itS a z = false := fun a ha => by
    cases e : itS a z with
    | false => rfl
    | true => exact absurd (itS_iff.1 e) (h a ha)
  have hf : ∀ l : List It, (∀ a ∈ l, itS a z = false) → l.filter (fun a => !itS a z) = l := fun l hl => List.filter_eq_self.2 (fun a ha => by rw [hl a ha]; rfl)
  have hz : itS z z = true := itS_iff.2 ⟨rfl, rfl⟩
  have hi : ∀ l : List It, (∀ a ∈ l, itS a z = false) → (ins z l).filter (fun a => !itS a z) = l := by
    intro l
    induction l with
    | nil => intro _; unfold ins; rw [List.filter_cons_of_neg (by rw [hz]; decide)]; rfl
    | cons a l ih =>
      intro hl
      unfold ins
      split
      · rw [List.filter_cons_of_neg (by rw [hz]; decide)]
        exact hf _ hl
      · rw [List.filter_cons_of_pos (by rw [hl a (by simp)]; rfl), ih (fun b hb => hl b (by simp [hb]))]
  show (ins z (xs.filter fun a => !itS a z)).filter (fun a => !itS a z) = xs
  rw [hf xs hno, hi xs hno]
/-- z put twice, over a list that has none of its key. -/
structure Twice (z : It) (xs ys : List It) : Prop where
  got : gotL (sought z.t z.key) ys = z
  has : hasL (sought z.t z.key) ys = true
  len : ys.length = xs.length + 1
  del : delL z (delL z ys) = xs
theorem put_twice {z : It} {xs : List It} {n : Nat} (h : OL z xs n) : Twice z xs (putL z (putL z xs)) := by
  have hd := del_put h.no
  have hs1 : Srt (putL z xs) := srt_put h.srt
  have h1 : putL z (putL z xs) = putL z xs := by
    show ins z (delL z (putL z xs)) = _
    rw [hd]
    have e : xs.filter (fun a => !itS a z) = xs := List.filter_eq_self.2 (fun a ha => by
      cases e : itS a z with
      | false => rfl
      | true => exact absurd (itS_iff.1 e) (h.no a ha))
    show _ = ins z (xs.filter fun a => !itS a z)
    rw [e]
  have hfind : (putL z xs).find? (fun a => itS a z) = some z := by
    cases hf : (putL z xs).find? (fun a => itS a z) with
    | none =>
      have := List.find?_eq_none.1 hf z (mem_ins.2 (.inl rfl))
      exact absurd (itS_iff.2 ⟨rfl, rfl⟩) this
    | some a =>
      have hm := List.mem_of_find?_eq_some hf
      have hsm : a.same z := itS_iff.1 (by simpa using List.find?_some hf)
      rcases mem_ins.1 hm with e | e
      · rw [e]
      · exact absurd hsm (mem_delL.1 e).2
  obtain ⟨k1, k2, _⟩ := hasL_key (same_sought z) (putL z xs)
  rw [h1]
  refine ⟨?_, ?_, ?_, ?_⟩
  · rw [k2]; unfold gotL; rw [hfind]; rfl
  · rw [k1]; unfold hasL; rw [hfind]; rfl
  · show (ins z (xs.filter fun a => !itS a z)).length = _
    rw [ins_length]
    have e : xs.filter (fun a => !itS a z) = xs := List.filter_eq_self.2 (fun a ha => by
      cases e : itS a z with
      | false => rfl
      | true => exact absurd (itS_iff.1 e) (h.no a ha))
    rw [e]
  · rw [hd]
    exact List.filter_eq_self.2 (fun a ha => by
      cases e : itS a z with
      | false => rfl
      | true => exact absurd (itS_iff.1 e) (h.no a ha))
theorem nm_beq {x z : It} (hx : x.In) (hz : z.In) : ((nm x).toList == (nm z).toList) = itS x z := by
  rw [Bool.eq_iff_iff, beq_iff_eq, itS_iff, ← nm_same hx hz]
  exact ⟨fun h => bytes_inj h, fun h => by rw [h]⟩

set_option maxRecDepth 20000 in
set_option maxHeartbeats 16000000 in
theorem once_walk (v : Value) (cs : List ICall) (it : It) (w : World) (hv : ICallRow w w.heap.size v cs) (hre : cs.length * 64 ≤ 140737488351232) (hok : it.Ok) : Calls Try.prog 5 #[v, it.v] w fun e w' => e = .returned (.bool true) ∧ Below w.heap.size w w' := by
  have S0 : Hid (Ow w (fun _ => False) ((w.alloc (.cells #[.int .i64 it.t, .string it.key, .string it.val, .int .i64 it.p, .int .i64 it.s] 32)).alloc (.cells #[.bool false] 4)) [.blk w.heap.size 32 #[.int .i64 it.t, .string it.key, .string it.val, .int .i64 it.p, .int .i64 it.s], .blk (w.heap.size + 1) 4 #[.bool false]]) := hide (by
    have h := ((Ow.start w).box 32 #[.int .i64 it.t, .string it.key, .string it.val, .int .i64 it.p, .int .i64 it.s]).box 4 #[.bool false]
    rw [World.size_alloc] at h
    exact h)
  obtain ⟨⟨A0, cap, rfl, hlc, _⟩, _⟩ := id hv
  have HV := hide hv
  have HRE := hide hre
  have HOK := hide hok
  unfold It.v
  clear hv hre hok
  cases hl : lightB (⟨0, it⟩ :: cs)
  · have HL := hide hl
    clear hl hlc
    refine (callsIn_wide (n := 4)).1 ?_
    refine callsIn_of_wp_marks Try.func5 rfl trivial ?_ rfl
    refine wpIn_wide.2 ?_
    simp only [Try.ntmps5, List.size_toArray, List.length_cons, List.length_nil, Nat.reduceAdd, Nat.reduceSub, Array.replicate_succ, Array.replicate_zero, List.push_toArray, List.append_toArray, List.nil_append, List.cons_append]
    go_wp2_with (first
      | (go_at_call 10; (with_reducible refine (fit_any _).mono ?_); rintro e w1 ⟨rfl, hb⟩; have S1 := hide (S0.out.below hb); have SX := hide (S1.out.box 34 #[.int .i64 0, .int .i64 it.t, .string it.key, .string it.val, .int .i64 it.p, .int .i64 it.s]); obtain ⟨v5, w5, hrun, hrow, hbel⟩ := run_append_calls (x := ⟨0, it⟩) (fun i u hi => (SX.out.blk (i := 2) rfl).cell i u (by rw [← hi, ← Array.getElem?_toList]; rfl)) ⟨(by decide : (Lit.int .i64 0).wf = true), HOK.out⟩ (SX.out.blk (i := 2) rfl).lt (HV.out.below SX.out.bel) HRE.out; have SY := hide (SX.out.below hbel); have HROW := hide hrow; obtain ⟨i0, i1, i2, i3, i4⟩ := item_cells (S1.out.blk (i := 0) rfl); clear hb hrow hbel)
      | (at_builtin; refine wpList_runA rfl (.tmp 20) (.tmp 21) 22 rfl rfl rfl hrun ?_; clear hrun)
      | (go_at_call 11; (with_reducible refine (light_any HROW.out).mono ?_); rw [HL.out]; rintro e w2 ⟨rfl, hb⟩; have S2 := hide ((SY.out.below hb).take 2); have r0 := (S2.out.blk (i := 1) rfl).cell 0 _ rfl; have r1 := (S2.out.blk (i := 1) rfl).frozen 0; have rl := (S2.out.blk (i := 1) rfl).lt; clear hb))
    exact ⟨.bool true, by simp [results, Try.results5, go_sem, r0, r1], rfl, (S2.out.set_ (i := 1) rfl 0 (.bool true)).bel⟩
  · have HL := hide hl
    have HFEW := hide (lightB_few hl)
    have hfew : (cs.length : Int) ≤ 120 := by have := lightB_few hl; simp only [List.length_cons] at this; omega
    clear hl hlc
    obtain ⟨mz, hmz, handz⟩ := and3 it.t
    have HIZ : Hid (it.low mz).In := hide (it.low_in hmz)
    have HKZ : Hid ((it.low mz).key.size ≤ 140737488351232) := hide HOK.out.key
    refine (callsIn_wide (n := 4)).1 ?_
    refine callsIn_of_wp_marks Try.func5 rfl trivial ?_ rfl
    refine wpIn_wide.2 ?_
    simp only [Try.ntmps5, List.size_toArray, List.length_cons, List.length_nil, Nat.reduceAdd, Nat.reduceSub, Array.replicate_succ, Array.replicate_zero, List.push_toArray, List.append_toArray, List.nil_append, List.cons_append]
    go_wp2_with (first
      | (go_at_call 10; (with_reducible refine (fit_any _).mono ?_); rintro e w1 ⟨rfl, hb⟩; have S1 := hide (S0.out.below hb); have SX := hide (S1.out.box 34 #[.int .i64 0, .int .i64 it.t, .string it.key, .string it.val, .int .i64 it.p, .int .i64 it.s]); obtain ⟨v5, w5, hrun, hrow, hbel⟩ := run_append_calls (x := ⟨0, it⟩) (fun i u hi => (SX.out.blk (i := 2) rfl).cell i u (by rw [← hi, ← Array.getElem?_toList]; rfl)) ⟨(by decide : (Lit.int .i64 0).wf = true), HOK.out⟩ (SX.out.blk (i := 2) rfl).lt (HV.out.below SX.out.bel) HRE.out; have SY := hide (SX.out.below hbel); have HROW := hide hrow; obtain ⟨i0, i1, i2, i3, i4⟩ := item_cells (S1.out.blk (i := 0) rfl); clear hb hrow hbel)
      | (at_builtin; refine wpList_runA rfl (.tmp 20) (.tmp 21) 22 rfl rfl rfl hrun ?_; clear hrun)
      | (go_at_call 11; (with_reducible refine (light_any HROW.out).mono ?_); rw [HL.out]; rintro e w2 ⟨rfl, hb⟩; have S2 := hide ((SY.out.below hb).take 2); have r0 := (S2.out.blk (i := 1) rfl).cell 0 _ rfl; have r1 := (S2.out.blk (i := 1) rfl).frozen 0; have rl := (S2.out.blk (i := 1) rfl).lt; obtain ⟨z0, z1, z2, z3, z4⟩ := item_cells (S2.out.blk (i := 0) rfl); have zl := (S2.out.blk (i := 0) rfl).lt; have zf := (S2.out.blk (i := 0) rfl).frozen 0; clear hb i0 i1 i2 i3 i4))
    have S3 : Hid (Ow w (fun _ => False) (((w2.setCell ⟨w.heap.size, 0, none⟩ (.int .i64 mz)).alloc (.cells #[.slice none 0 0] 27)).alloc (.cells #[.slice none 0 0] 27)) [.blk w.heap.size 32 #[.int .i64 (it.low mz).t, .string (it.low mz).key, .string (it.low mz).val, .int .i64 (it.low mz).p, .int .i64 (it.low mz).s], .blk (w.heap.size + 1) 4 #[.bool false], .ix w2.heap.size [], .ix (w2.heap.size + 1) []]) := hide (by
      have h := (S2.out.set_ (i := 0) rfl 0 (.int .i64 (it.low mz).t)).newix.newix
      have e : (w2.setCell ⟨w.heap.size, 0, none⟩ (.int .i64 (it.low mz).t)).heap.size = w2.heap.size := by simp [World.setCell]
      rw [World.size_alloc, e] at h
      exact h)
    clear r0 r1 rl S2 S1 S0 SX SY HROW z0 z1 z2 z3 z4 zl zf handz hmz HOK HRE
    generalize (((w2.setCell ⟨w.heap.size, 0, none⟩ (.int .i64 mz)).alloc (.cells #[.slice none 0 0] 27)).alloc (.cells #[.slice none 0 0] 27)) = w3 at *
    generalize hb0 : w2.heap.size + 1 = g2 at *
    generalize w2.heap.size = g at *
    clear hb0
    generalize it.low mz = z at *
    go_loopw [33] (fun i wr => ∃ (n : Nat) (xs : List It), n ≤ cs.length ∧ i = .int .i64 n ∧ Hid (Ow w (fun _ => False) wr [.blk w.heap.size 32 #[.int .i64 z.t, .string z.key, .string z.val, .int .i64 z.p, .int .i64 z.s], .blk (w.heap.size + 1) 4 #[.bool false], .ix g xs, .ix g2 xs]) ∧ Hid (OL z xs n)) (fun i _ => cs.length - (intOf i).toNat)
    case atStart => exact ⟨0, [], by omega, rfl, S3, hide (OL.nil z)⟩
    case round =>
      obtain ⟨n, xs, hk, rfl, hs, hol⟩ := hrel
      by_cases hlt : n < cs.length
      · obtain ⟨cl, hc⟩ : ∃ cl, cs[n]? = some cl := ⟨_, List.getElem?_eq_getElem hlt⟩
        obtain ⟨_, b1, o1, rfl, ⟨i0, i1, i2, i3, i4, i5⟩, _, hok⟩ := icall_cells HV.out hs.out.bel hc
        obtain ⟨ck, it⟩ := cl
        dsimp only at *
        obtain ⟨m, hm4, hand⟩ := and3 it.t
        obtain ⟨x, hx⟩ : ∃ x, x = it.low m := ⟨_, rfl⟩
        have HIN : Hid x.In := hide (by rw [hx]; exact it.low_in hm4)
        have HKEY : Hid (x.key.size ≤ 140737488351232) := hide (by rw [hx]; exact hok.key)
        have ex : (m : Int) = x.t ∧ it.key = x.key ∧ it.val = x.val ∧ it.p = x.p ∧ it.s = x.s := by rw [hx]; exact ⟨rfl, rfl, rfl, rfl, rfl⟩
        obtain ⟨e1, e2, e3, e4, e5⟩ := ex
        rw [e1] at hand
        rw [e2] at i2
        rw [e3] at i3
        rw [e4] at i4
        rw [e5] at i5
        have q0 : (0 : Int) ≤ (n : Int) := by omega
        have q1 : (n : Int) < (cs.length : Int) := by omega
        have HLT := hide hlt
        have HXL : Hid (xs.length < 1000) := hide (by have := hol.out.few; have := HFEW.out; simp only [List.length_cons] at this; omega)
        clear hok hc e1 e2 e3 e4 e5 hx hm4 hlt
        have SB := hide (hs.out.box 34 #[.int .i64 ck, .int .i64 x.t, .string x.key, .string x.val, .int .i64 x.p, .int .i64 x.s])
        have hq := nm_beq HIN.out HIZ.out
        cases hit : itS x z
        · rw [hit] at hq
          have HNM : Hid (((nm x).toList == (nm z).toList) = false) := hide hq
          have HNS := hide (show ¬ x.same z from fun h => by rw [itS_iff.2 h] at hit; cases hit)
          clear hq hit
          go_upto_region 11 with fail
          clear i0 i1 i2 i3 i4 i5
          generalize wr.alloc (.cells #[.int .i64 ck, .int .i64 x.t, .string x.key, .string x.val, .int .i64 x.p, .int .i64 x.s] 34) = wb at *
          refine region_grows [Say.is (.pointer (some ⟨wr.heap.size, 1, none⟩)), Say.is (.agg #[.int .i64 x.t, .string x.key, .string x.val, .int .i64 x.p, .int .i64 x.s]), Say.is (.string (nm x)), Say.is (.agg #[.int .i64 z.t, .string z.key, .string z.val, .int .i64 z.p, .int .i64 z.s]), Say.is (.string (nm z)), Say.is (.bool true)] (by kernel_rfl) (by kernel_rfl) (by kernel_rfl) (by kernel_rfl) ?_ ?_
          · intro i o ho a w2 hb hsz old dep
            match i, ho with
            | 0, ho =>
              obtain rfl := Option.some.inj ho
              have o8 : a.tmps.getD 8 undef = _ := old 8 (by kernel_rfl)
              rw [if_pos (wanted_none rfl)]
              refine grow_same (v := .pointer (some ⟨wr.heap.size, 1, none⟩)) ?_ rfl
              clear old dep ho hsz hb
              go_simp
            | 1, ho =>
              obtain rfl := Option.some.inj ho
              have d0 : a.tmps.getD 45 undef = .pointer (some ⟨wr.heap.size, 1, none⟩) := dep 0 _ _ (by kernel_rfl) rfl rfl
              have e0 : a.tmps[45]?.getD undef = _ := (Array.getD_eq_getD_getElem? ..).symm.trans d0
              rw [if_pos (wanted_none rfl)]
              obtain ⟨p0, p1, p2, p3, p4, p5⟩ := call_cells ((SB.out.below hb).blk (i := 4) rfl)
              refine grow_same (v := .agg #[.int .i64 x.t, .string x.key, .string x.val, .int .i64 x.p, .int .i64 x.s]) ?_ rfl
              clear old dep ho hsz hb
              go_simp
            | 2, ho =>
              obtain rfl := Option.some.inj ho
              have d1 : a.tmps.getD 46 undef = .agg #[.int .i64 x.t, .string x.key, .string x.val, .int .i64 x.p, .int .i64 x.s] := dep 1 _ _ (by kernel_rfl) rfl rfl
              have e1 : a.tmps[46]?.getD undef = _ := (Array.getD_eq_getD_getElem? ..).symm.trans d1
              rw [if_pos (wanted_none rfl)]
              refine grow_enters (f := 13) (args := #[.agg #[.int .i64 x.t, .string x.key, .string x.val, .int .i64 x.p, .int .i64 x.s]]) ?_ ((name_agg x HIN.out HKEY.out w2).mono (by rintro e w3 ⟨rfl, hb3⟩; exact ⟨_, rfl, rfl, hb3⟩))
              clear old dep ho hsz hb
              go_simp
            | 3, ho =>
              obtain rfl := Option.some.inj ho
              have o3 : a.tmps.getD 3 undef = _ := old 3 (by kernel_rfl)
              rw [if_pos (wanted_none rfl)]
              obtain ⟨p0, p1, p2, p3, p4⟩ := item_cells ((SB.out.below hb).blk (i := 0) rfl)
              refine grow_same (v := .agg #[.int .i64 z.t, .string z.key, .string z.val, .int .i64 z.p, .int .i64 z.s]) ?_ rfl
              clear old dep ho hsz hb
              go_simp
            | 4, ho =>
              obtain rfl := Option.some.inj ho
              have d3 : a.tmps.getD 48 undef = .agg #[.int .i64 z.t, .string z.key, .string z.val, .int .i64 z.p, .int .i64 z.s] := dep 3 _ _ (by kernel_rfl) rfl rfl
              have e3 : a.tmps[48]?.getD undef = _ := (Array.getD_eq_getD_getElem? ..).symm.trans d3
              rw [if_pos (wanted_none rfl)]
              refine grow_enters (f := 13) (args := #[.agg #[.int .i64 z.t, .string z.key, .string z.val, .int .i64 z.p, .int .i64 z.s]]) ?_ ((name_agg z HIZ.out HKZ.out w2).mono (by rintro e w3 ⟨rfl, hb3⟩; exact ⟨_, rfl, rfl, hb3⟩))
              clear old dep ho hsz hb
              go_simp
            | 5, ho =>
              obtain rfl := Option.some.inj ho
              have d2 : a.tmps.getD 47 undef = .string (nm x) := dep 2 _ _ (by kernel_rfl) rfl rfl
              have e2 : a.tmps[47]?.getD undef = _ := (Array.getD_eq_getD_getElem? ..).symm.trans d2
              have d4 : a.tmps.getD 49 undef = .string (nm z) := dep 4 _ _ (by kernel_rfl) rfl rfl
              have e4 : a.tmps[49]?.getD undef = _ := (Array.getD_eq_getD_getElem? ..).symm.trans d4
              rw [if_pos (wanted_none rfl)]
              have hnm := HNM.out
              refine grow_same (v := .bool true) ?_ rfl
              clear old dep ho hsz hb
              go_simp
            | i + 6, ho => exact absurd ho (by simp)
          · intro a w9 hb hsz hdf fin keep
            obtain ⟨tm, df⟩ := a
            have hx := frame_of [45, 46, 47, 48, 49, 50] (by kernel_rfl) hsz keep
            dsimp only at hdf hx
            simp only [List.foldl_cons, List.foldl_nil] at hx
            subst hdf
            clear hsz keep
            have kn : tm.getD 45 undef = .pointer (some ⟨wr.heap.size, 1, none⟩) := fin 0 _ _ rfl rfl
            rw [kn] at hx
            clear kn
            have kn : tm.getD 46 undef = .agg #[.int .i64 x.t, .string x.key, .string x.val, .int .i64 x.p, .int .i64 x.s] := fin 1 _ _ rfl rfl
            rw [kn] at hx
            clear kn
            have kn : tm.getD 47 undef = .string (nm x) := fin 2 _ _ rfl rfl
            rw [kn] at hx
            clear kn
            have kn : tm.getD 48 undef = .agg #[.int .i64 z.t, .string z.key, .string z.val, .int .i64 z.p, .int .i64 z.s] := fin 3 _ _ rfl rfl
            rw [kn] at hx
            clear kn
            have kn : tm.getD 49 undef = .string (nm z) := fin 4 _ _ rfl rfl
            rw [kn] at hx
            clear kn
            have kn : tm.getD 50 undef = .bool true := fin 5 _ _ rfl rfl
            rw [kn] at hx
            clear kn
            clear fin
            simp only [List.setIfInBounds_toArray, List.set_cons_succ, List.set_cons_zero] at hx
            subst hx
            obtain ⟨p0, p1, p2, p3, p4, p5⟩ := call_cells ((SB.out.below hb).blk (i := 4) rfl)
            have SC := hide (SB.out.below hb)
            clear hb SB
            go_wp2_with (first
              | (go_at_call 12; (with_reducible refine (ow_put SC.out (i := 2) rfl x HXL.out).mono ?_); rintro e wA ⟨rfl, hm⟩; have SD := hide hm; clear hm; obtain ⟨p0, p1, p2, p3, p4, p5⟩ := call_cells (SD.out.blk (i := 4) rfl))
              | (go_at_call 12; (with_reducible refine (ow_put SD.out (i := 3) rfl x HXL.out).mono ?_); rintro e wB ⟨rfl, hm⟩; have SE := hide hm; clear hm))
            go_roundw
            case rel => exact ⟨n + 1, putL x xs, by have := HLT.out; omega, by go_num, hide (SE.out.take 4), hide (hol.out.put HNS.out)⟩
            case measure => simp [intOf]; have := HLT.out; omega
        · rw [hit] at hq
          have HNM : Hid (((nm x).toList == (nm z).toList) = true) := hide hq
          clear hq hit
          go_upto_region 11 with fail
          clear i0 i1 i2 i3 i4 i5
          generalize wr.alloc (.cells #[.int .i64 ck, .int .i64 x.t, .string x.key, .string x.val, .int .i64 x.p, .int .i64 x.s] 34) = wb at *
          refine region_grows [Say.is (.pointer (some ⟨wr.heap.size, 1, none⟩)), Say.is (.agg #[.int .i64 x.t, .string x.key, .string x.val, .int .i64 x.p, .int .i64 x.s]), Say.is (.string (nm x)), Say.is (.agg #[.int .i64 z.t, .string z.key, .string z.val, .int .i64 z.p, .int .i64 z.s]), Say.is (.string (nm z)), Say.is (.bool false)] (by kernel_rfl) (by kernel_rfl) (by kernel_rfl) (by kernel_rfl) ?_ ?_
          · intro i o ho a w2 hb hsz old dep
            match i, ho with
            | 0, ho =>
              obtain rfl := Option.some.inj ho
              have o8 : a.tmps.getD 8 undef = _ := old 8 (by kernel_rfl)
              rw [if_pos (wanted_none rfl)]
              refine grow_same (v := .pointer (some ⟨wr.heap.size, 1, none⟩)) ?_ rfl
              clear old dep ho hsz hb
              go_simp
            | 1, ho =>
              obtain rfl := Option.some.inj ho
              have d0 : a.tmps.getD 45 undef = .pointer (some ⟨wr.heap.size, 1, none⟩) := dep 0 _ _ (by kernel_rfl) rfl rfl
              have e0 : a.tmps[45]?.getD undef = _ := (Array.getD_eq_getD_getElem? ..).symm.trans d0
              rw [if_pos (wanted_none rfl)]
              obtain ⟨p0, p1, p2, p3, p4, p5⟩ := call_cells ((SB.out.below hb).blk (i := 4) rfl)
              refine grow_same (v := .agg #[.int .i64 x.t, .string x.key, .string x.val, .int .i64 x.p, .int .i64 x.s]) ?_ rfl
              clear old dep ho hsz hb
              go_simp
            | 2, ho =>
              obtain rfl := Option.some.inj ho
              have d1 : a.tmps.getD 46 undef = .agg #[.int .i64 x.t, .string x.key, .string x.val, .int .i64 x.p, .int .i64 x.s] := dep 1 _ _ (by kernel_rfl) rfl rfl
              have e1 : a.tmps[46]?.getD undef = _ := (Array.getD_eq_getD_getElem? ..).symm.trans d1
              rw [if_pos (wanted_none rfl)]
              refine grow_enters (f := 13) (args := #[.agg #[.int .i64 x.t, .string x.key, .string x.val, .int .i64 x.p, .int .i64 x.s]]) ?_ ((name_agg x HIN.out HKEY.out w2).mono (by rintro e w3 ⟨rfl, hb3⟩; exact ⟨_, rfl, rfl, hb3⟩))
              clear old dep ho hsz hb
              go_simp
            | 3, ho =>
              obtain rfl := Option.some.inj ho
              have o3 : a.tmps.getD 3 undef = _ := old 3 (by kernel_rfl)
              rw [if_pos (wanted_none rfl)]
              obtain ⟨p0, p1, p2, p3, p4⟩ := item_cells ((SB.out.below hb).blk (i := 0) rfl)
              refine grow_same (v := .agg #[.int .i64 z.t, .string z.key, .string z.val, .int .i64 z.p, .int .i64 z.s]) ?_ rfl
              clear old dep ho hsz hb
              go_simp
            | 4, ho =>
              obtain rfl := Option.some.inj ho
              have d3 : a.tmps.getD 48 undef = .agg #[.int .i64 z.t, .string z.key, .string z.val, .int .i64 z.p, .int .i64 z.s] := dep 3 _ _ (by kernel_rfl) rfl rfl
              have e3 : a.tmps[48]?.getD undef = _ := (Array.getD_eq_getD_getElem? ..).symm.trans d3
              rw [if_pos (wanted_none rfl)]
              refine grow_enters (f := 13) (args := #[.agg #[.int .i64 z.t, .string z.key, .string z.val, .int .i64 z.p, .int .i64 z.s]]) ?_ ((name_agg z HIZ.out HKZ.out w2).mono (by rintro e w3 ⟨rfl, hb3⟩; exact ⟨_, rfl, rfl, hb3⟩))
              clear old dep ho hsz hb
              go_simp
            | 5, ho =>
              obtain rfl := Option.some.inj ho
              have d2 : a.tmps.getD 47 undef = .string (nm x) := dep 2 _ _ (by kernel_rfl) rfl rfl
              have e2 : a.tmps[47]?.getD undef = _ := (Array.getD_eq_getD_getElem? ..).symm.trans d2
              have d4 : a.tmps.getD 49 undef = .string (nm z) := dep 4 _ _ (by kernel_rfl) rfl rfl
              have e4 : a.tmps[49]?.getD undef = _ := (Array.getD_eq_getD_getElem? ..).symm.trans d4
              rw [if_pos (wanted_none rfl)]
              have hnm := HNM.out
              refine grow_same (v := .bool false) ?_ rfl
              clear old dep ho hsz hb
              go_simp
            | i + 6, ho => exact absurd ho (by simp)
          · intro a w9 hb hsz hdf fin keep
            obtain ⟨tm, df⟩ := a
            have hx := frame_of [45, 46, 47, 48, 49, 50] (by kernel_rfl) hsz keep
            dsimp only at hdf hx
            simp only [List.foldl_cons, List.foldl_nil] at hx
            subst hdf
            clear hsz keep
            have kn : tm.getD 45 undef = .pointer (some ⟨wr.heap.size, 1, none⟩) := fin 0 _ _ rfl rfl
            rw [kn] at hx
            clear kn
            have kn : tm.getD 46 undef = .agg #[.int .i64 x.t, .string x.key, .string x.val, .int .i64 x.p, .int .i64 x.s] := fin 1 _ _ rfl rfl
            rw [kn] at hx
            clear kn
            have kn : tm.getD 47 undef = .string (nm x) := fin 2 _ _ rfl rfl
            rw [kn] at hx
            clear kn
            have kn : tm.getD 48 undef = .agg #[.int .i64 z.t, .string z.key, .string z.val, .int .i64 z.p, .int .i64 z.s] := fin 3 _ _ rfl rfl
            rw [kn] at hx
            clear kn
            have kn : tm.getD 49 undef = .string (nm z) := fin 4 _ _ rfl rfl
            rw [kn] at hx
            clear kn
            have kn : tm.getD 50 undef = .bool false := fin 5 _ _ rfl rfl
            rw [kn] at hx
            clear kn
            clear fin
            simp only [List.setIfInBounds_toArray, List.set_cons_succ, List.set_cons_zero] at hx
            subst hx
            have SC := hide (SB.out.below hb)
            clear hb SB
            go_wp2
            go_roundw
            case rel => exact ⟨n + 1, xs, by have := HLT.out; omega, by go_num, hide (SC.out.take 4), hide hol.out.skip⟩
            case measure => simp [intOf]; have := HLT.out; omega
      · obtain rfl : n = cs.length := by omega
        clear hlt hk
        have HXL : Hid (xs.length < 1000) := hide (by have := hol.out.few; have := HFEW.out; simp only [List.length_cons] at this; omega)
        have HPL : Hid ((putL z xs).length < 1000) := hide (by have := putL_length (y := z) hol.out.srt; have := hol.out.few; have := HFEW.out; simp only [List.length_cons] at this; omega)
        have HTW := hide (put_twice hol.out)
        have htl := HTW.out.len
        have hxl := HXL.out
        obtain ⟨p0, p1, p2, p3, p4⟩ := item_cells (hs.out.blk (i := 0) rfl)
        go_upto_region 23 with (first
          | (go_at_call 16; (with_reducible refine (ow_len hs.out (i := 2) rfl).mono ?_); rintro e W8 ⟨rfl, rfl⟩)
          | (go_at_call 12; (with_reducible refine (ow_put hs.out (i := 2) rfl z HXL.out).mono ?_); rintro e wA ⟨rfl, hm⟩; have HP1 := hide hm; clear hm; obtain ⟨p0, p1, p2, p3, p4⟩ := item_cells (HP1.out.blk (i := 0) rfl))
          | (go_at_call 12; (with_reducible refine (ow_put HP1.out (i := 2) rfl z HPL.out).mono ?_); rintro e wB ⟨rfl, hm⟩; have HP2 := hide hm; clear hm; obtain ⟨p0, p1, p2, p3, p4⟩ := item_cells (HP2.out.blk (i := 0) rfl))
          | (go_at_call 15; (with_reducible refine (ow_find HP2.out (i := 2) rfl z.t z.key HTW.out.got HTW.out.has).mono ?_); rintro e wF ⟨rfl, hm⟩; have HF := hide hm; clear hm; have HJ := hide (HF.out.box 32 #[.int .i64 z.t, .string z.key, .string z.val, .int .i64 z.p, .int .i64 z.s]); obtain ⟨q0, q1, q2, q3, q4⟩ := item_cells (HF.out.blk (i := 0) rfl); have zl := (HF.out.blk (i := 0) rfl).lt)
          | (go_at_call 16; (with_reducible refine (ow_len HJ.out (i := 2) rfl).mono ?_); rintro e W8 ⟨rfl, rfl⟩)
          | (go_at_call 14; (with_reducible refine (ow_remove HJ.out (i := 2) rfl z).mono ?_); rintro e wC ⟨rfl, hm⟩; have HR1 := hide hm; clear hm; obtain ⟨p0, p1, p2, p3, p4⟩ := item_cells (HR1.out.blk (i := 0) rfl))
          | (go_at_call 14; (with_reducible refine (ow_remove HR1.out (i := 2) rfl z).mono ?_); rintro e wD ⟨rfl, hm⟩; have HR2 := hide hm; clear hm))
        go_wp2
        rw [HTW.out.del] at HR2
        have S5 : Hid (Ow w (fun _ => False) (wD.alloc (.cells #[.slice none 0 0] 25)) [.blk w.heap.size 32 #[.int .i64 z.t, .string z.key, .string z.val, .int .i64 z.p, .int .i64 z.s], .blk (w.heap.size + 1) 4 #[.bool false], .ix g xs, .ix g2 xs, .blk wF.heap.size 32 #[.int .i64 z.t, .string z.key, .string z.val, .int .i64 z.p, .int .i64 z.s], .its (.slice none 0 0) [], .blk wD.heap.size 25 #[(.slice none 0 0)]]) := hide (by
          have h := (HR2.out.nil_its).box 25 #[.slice none 0 0]
          exact h)
        have HYL : Hid (([] : List It).length + xs.length ≤ 2000) := hide (by have := HXL.out; simp only [List.length_nil]; omega)
        clear hs HF HJ HP1 HP2 HR1 HR2 HTW HPL hol HFEW HV HL S3 htl hxl hfew p0 p1 p2 p3 p4 q0 q1 q2 q3 q4 zl
        generalize wD.alloc (.cells #[.slice none 0 0] 25) = w9 at *
        generalize wD.heap.size = lb at *
        generalize wF.heap.size = jb at *
        obtain ⟨F, hF⟩ := S5.out
        have hwD := hF.kept.size
        refine wpIn_wide.1 (range_all (n := 4) (by omega) xs rfl rfl ?hit (fun q F A => ∃ v, OwF w (fun _ => False) F A [.blk w.heap.size 32 #[.int .i64 z.t, .string z.key, .string z.val, .int .i64 z.p, .int .i64 z.s], .blk (w.heap.size + 1) 4 #[.bool false], .ix g xs, .ix g2 xs, .blk jb 32 #[.int .i64 z.t, .string z.key, .string z.val, .int .i64 z.p, .int .i64 z.s], .its v (([] : List It) ++ xs.take q), .blk lb 25 #[v]]) (fun _ _ _ => False)
          (fun q F A B h e1 e2 hc => let ⟨v, h⟩ := h; ⟨v, h.calm hc e1 e2 hwD⟩) (fun _ _ _ _ h _ => h) ⟨F, ⟨(.slice none 0 0), by rw [List.take_zero, List.append_nil]; exact hF⟩, hF.lt⟩ ?round ?done ?stop)
        case hit =>
          intro l W2 J Jx hW hR h0
          obtain ⟨r, hX⟩ := Ow.ix (i := 2) ⟨F, hF⟩ rfl
          exact All_in 3 l (by omega) (hX.below hW) hR h0
        case round =>
          clear hF S5
          rintro q F x A hx ⟨v, hA⟩ e1 e2 hlA
          have hlt := (List.getElem?_eq_some_iff.1 hx).1
          obtain ⟨Ar, cr, rfl⟩ := (Ow.its (i := 5) ⟨F, hA⟩ rfl).form
          have htk : (([] : List It) ++ xs.take q) ++ [x] = ([] : List It) ++ xs.take (q + 1) := by rw [List.take_add_one, hx, List.append_assoc]; rfl
          have HTK := hide htk
          have HFW : Hid ((([] : List It) ++ xs.take q).length ≤ 100000) := hide (by rw [List.length_append, List.length_take]; have := HYL.out; omega)
          have HA := hide hA
          have E1 := hide e1
          have E2 := hide e2
          have HLA := hide hlA
          clear hA hx e1 e2 hlA hlt htk
          generalize hgq : ([] : List It) ++ xs.take q = M at *
          clear hgq
          unfold It.v
          dsimp only
          gi_wp2
          refine ⟨(Below.refl _ _).alloc (Nat.le_refl _) _, fun C hC hs2 => ?_⟩
          obtain ⟨F1, hF1, hnew⟩ := HA.out.round_in _ _ E1.out E2.out hwD HLA.out hC
          have HST := hide hF1.restart
          obtain ⟨x0, x1, x2, x3, x4⟩ := item_cells (HST.out.blk (i := 7) rfl)
          have v0 := (HST.out.blk (i := 6) rfl).cell 0 _ rfl
          have vf := (HST.out.blk (i := 6) rfl).frozen 0
          have vl := (HST.out.blk (i := 6) rfl).lt
          have S7 := hide (HST.out.box 32 #[.int .i64 x.t, .string x.key, .string x.val, .int .i64 x.p, .int .i64 x.s])
          have HITS := hide (S7.out.its (i := 5) rfl)
          have HCX : Hid (∀ i u, x.cells[i]? = some u → (C.alloc (.cells #[.int .i64 x.t, .string x.key, .string x.val, .int .i64 x.p, .int .i64 x.s] 32)).cell? ⟨C.heap.size, i, none⟩ = some u) := hide (fun i u hi => (S7.out.blk (i := 8) rfl).cell i u (by rw [← hi, ← Array.getElem?_toList]; rfl))
          have HF1 := hide hF1
          have HNEW := hide hnew
          have HCS := hide (show A.heap.size ≤ C.heap.size by rw [hs2]; simp)
          clear hF1 hnew hC hs2
          gi_wp2_with (gi_at_builtin; refine wpListIn_append_it rfl (.tmp 102) (.tmp 104) rfl Try.underlying25 infoI rfl (by decide) rfl HITS.out HFW.out (Nat.zero_le _) rfl HCX.out ?_; intro v' w4 h1 h2 h3; have S8 := hide (S7.out.row (i := 5) rfl h1 h2 h3); obtain ⟨An', cn', rfl⟩ : ∃ A c, v' = .slice A (M.length + 1) c := (by (obtain ⟨A, c, h⟩ := h1.form; exact ⟨A, c, by (rw [h, List.length_append]; rfl)⟩)); have b0 := (S8.out.blk (i := 6) rfl).cell 0 _ rfl; have bf := (S8.out.blk (i := 6) rfl).frozen 0; clear h1 h2 h3)
          obtain ⟨k1, F', k2, k3⟩ := HF1.out.round_out HNEW.out (show Ow C F1 _ [.blk w.heap.size 32 #[.int .i64 z.t, .string z.key, .string z.val, .int .i64 z.p, .int .i64 z.s], .blk (w.heap.size + 1) 4 #[.bool false], .ix g xs, .ix g2 xs, .blk jb 32 #[.int .i64 z.t, .string z.key, .string z.val, .int .i64 z.p, .int .i64 z.s], .its (.slice An' (M.length + 1) cn') (M ++ [x]), .blk lb 25 #[(.slice An' (M.length + 1) cn')]] from ((S8.out.set_ (i := 6) rfl 0 _).take 7)) HCS.out
          rw [HTK.out] at k2
          exact ⟨k1, F', ⟨_, k2⟩, k3⟩
        case done =>
          clear hF S5
          rintro F w4 ⟨v, hA⟩ e1 hK
          rw [List.take_length] at hA
          rw [List.nil_append] at hA
          obtain ⟨A1, c1, rfl⟩ := (Ow.its (i := 5) ⟨_, hA⟩ rfl).form
          have S4 : Hid (Ow w (fun _ => False) w4 [.blk w.heap.size 32 #[.int .i64 z.t, .string z.key, .string z.val, .int .i64 z.p, .int .i64 z.s], .blk (w.heap.size + 1) 4 #[.bool false], .ix g xs, .ix g2 xs, .blk jb 32 #[.int .i64 z.t, .string z.key, .string z.val, .int .i64 z.p, .int .i64 z.s], .its (.slice A1 xs.length c1) xs, .blk lb 25 #[(.slice A1 xs.length c1)], .obj w9.heap.size (.deferred (some []))]) := hide (hA.adopt e1 hwD hK)
          clear hA hK e1 HYL
          clear hwD
          generalize w9.heap.size = d1 at *
          go_wp2
          have S5 : Hid (Ow w (fun _ => False) (w4.alloc (.cells #[.int .i64 0] 3)) [.blk w.heap.size 32 #[.int .i64 z.t, .string z.key, .string z.val, .int .i64 z.p, .int .i64 z.s], .blk (w.heap.size + 1) 4 #[.bool false], .ix g xs, .ix g2 xs, .blk jb 32 #[.int .i64 z.t, .string z.key, .string z.val, .int .i64 z.p, .int .i64 z.s], .its (.slice A1 xs.length c1) xs, .blk lb 25 #[(.slice A1 xs.length c1)], .obj d1 (.deferred (some [])), .blk w4.heap.size 3 #[.int .i64 (0 : Nat)]]) := hide (by
            have h := S4.out.box 3 #[.int .i64 (0 : Nat)]
            exact h)
          clear S4
          generalize w4.alloc (.cells #[.int .i64 0] 3) = w6 at *
          generalize w4.heap.size = mb at *
          have HLD : Hid (w.heap.size + 1 < w6.heap.size) := hide (S5.out.blk (i := 1) rfl).lt
          obtain ⟨F, hF⟩ := S5.out
          have hwD := hF.kept.size
          refine wpIn_wide.1 (range_all (n := 4) (by omega) xs rfl rfl ?hit2 (fun q F A => OwF w (fun _ => False) F A [.blk w.heap.size 32 #[.int .i64 z.t, .string z.key, .string z.val, .int .i64 z.p, .int .i64 z.s], .blk (w.heap.size + 1) 4 #[.bool false], .ix g xs, .ix g2 xs, .blk jb 32 #[.int .i64 z.t, .string z.key, .string z.val, .int .i64 z.p, .int .i64 z.s], .its (.slice A1 xs.length c1) xs, .blk lb 25 #[(.slice A1 xs.length c1)], .obj d1 (.deferred (some [])), .blk mb 3 #[.int .i64 (q : Nat)]]) (fun _ _ _ => False)
            (fun q F A B h e1 e2 hc => h.calm hc e1 e2 hwD) (fun _ _ _ _ h _ => h) ⟨F, hF, hF.lt⟩ ?round2 ?done2 ?stop2)
          case hit2 =>
            intro l W2 J Jx hW hR h0
            obtain ⟨r, hX⟩ := Ow.ix (i := 3) ⟨F, hF⟩ rfl
            exact All_in 3 l (by omega) (hX.below hW) hR h0
          case round2 =>
            clear hF S5
            rintro q F x A hx hA e1 e2 hlA
            have hlt := (List.getElem?_eq_some_iff.1 hx).1
            obtain ⟨gw, hb1⟩ : ∃ gw, A1 = some ⟨gw, 0, none⟩ := by
              obtain ⟨g', c', h, _⟩ := (Ow.its (i := 5) ⟨F, hA⟩ rfl).block (by omega)
              injection h with h
              exact ⟨g', h⟩
            subst hb1
            have HX := hide hx
            have HQ := hide (show (0 : Int) ≤ (q : Int) ∧ (q : Int) < (xs.length : Int) by omega)
            have HNE := hide (show ¬ (q : Int) = (xs.length : Int) by omega)
            have q0 : (0 : Int) ≤ (q : Int) := by omega
            have q1 : (q : Int) < 1000 := by have := HXL.out; omega
            have HA := hide hA
            have E1 := hide e1
            have E2 := hide e2
            have HLA := hide hlA
            clear hA hx e1 e2 hlA hlt
            unfold It.v
            dsimp only
            gi_wp2
            refine ⟨(Below.refl _ _).alloc (Nat.le_refl _) _, fun C hC hs2 => ?_⟩
            obtain ⟨F1, hF1, hnew⟩ := HA.out.round_in _ _ E1.out E2.out hwD HLA.out hC
            have HST := hide hF1.restart
            have HF1 := hide hF1
            have HNEW := hide hnew
            have HCS := hide (show A.heap.size ≤ C.heap.size by rw [hs2]; simp)
            clear hF1 hnew hC hs2
            gi_wp2
            refine region_growsD [Say.is (.int .i64 (q : Int)), Say.is (.slice (some ⟨gw, 0, none⟩) xs.length c1), Say.is (.int .i64 (xs.length : Int)), Say.is (.bool false), Say.is (.bool false), Say.is (.slice (some ⟨gw, 0, none⟩) xs.length c1), Say.is (.int .i64 (q : Int)), Say.is (.pointer (some ⟨gw, q * 5, none⟩)), Say.is (.agg #[.int .i64 x.t, .string x.key, .string x.val, .int .i64 x.p, .int .i64 x.s]), Say.is (.agg #[.int .i64 x.t, .string x.key, .string x.val, .int .i64 x.p, .int .i64 x.s]), Say.is (.bool false), Say.is (.bool false)] (by kernel_rfl) (by kernel_rfl) (by kernel_rfl) (by kernel_rfl) (by kernel_rfl) ?_ ?_
            · intro i o ho a w2 hb hsz old dep
              match i, ho with
              | 0, ho =>
                obtain rfl := Option.some.inj ho
                have o14 : a.tmps.getD 14 undef = _ := old 14 (by kernel_rfl)
                rw [if_pos (wanted_none rfl)]
                have g0 := ((HST.out.below hb).blk (i := 8) rfl).cell 0 _ rfl
                refine grow_same (v := .int .i64 (q : Int)) ?_ rfl
                clear old dep ho hsz hb
                go_simp
              | 1, ho =>
                obtain rfl := Option.some.inj ho
                have o12 : a.tmps.getD 12 undef = _ := old 12 (by kernel_rfl)
                rw [if_pos (wanted_none rfl)]
                have g0 := ((HST.out.below hb).blk (i := 6) rfl).cell 0 _ rfl
                refine grow_same (v := .slice (some ⟨gw, 0, none⟩) xs.length c1) ?_ rfl
                clear old dep ho hsz hb
                go_simp
              | 2, ho =>
                obtain rfl := Option.some.inj ho
                have d1 : a.tmps.getD 109 undef = .slice (some ⟨gw, 0, none⟩) xs.length c1 := dep 1 _ _ (by kernel_rfl) rfl rfl
                have e1 : a.tmps[109]?.getD undef = _ := (Array.getD_eq_getD_getElem? ..).symm.trans d1
                rw [if_pos (wanted_none rfl)]
                refine grow_same (v := .int .i64 (xs.length : Int)) ?_ rfl
                clear old dep ho hsz hb
                go_simp
              | 3, ho =>
                obtain rfl := Option.some.inj ho
                have d0 : a.tmps.getD 108 undef = .int .i64 (q : Int) := dep 0 _ _ (by kernel_rfl) rfl rfl
                have e0 : a.tmps[108]?.getD undef = _ := (Array.getD_eq_getD_getElem? ..).symm.trans d0
                have d2 : a.tmps.getD 110 undef = .int .i64 (xs.length : Int) := dep 2 _ _ (by kernel_rfl) rfl rfl
                have e2 : a.tmps[110]?.getD undef = _ := (Array.getD_eq_getD_getElem? ..).symm.trans d2
                rw [if_pos (wanted_none rfl)]
                have g0 := HNE.out
                refine grow_same (v := .bool false) ?_ rfl
                clear old dep ho hsz hb
                go_simp
              | 4, ho =>
                obtain rfl := Option.some.inj ho
                have d3 : a.tmps.getD 111 undef = .bool false := dep 3 _ _ (by kernel_rfl) rfl rfl
                have e3 : a.tmps[111]?.getD undef = _ := (Array.getD_eq_getD_getElem? ..).symm.trans d3
                rw [if_pos (wanted_none rfl)]
                refine grow_same (v := .bool false) ?_ rfl
                clear old dep ho hsz hb
                go_simp
              | 5, ho =>
                obtain rfl := Option.some.inj ho
                have o12 : a.tmps.getD 12 undef = _ := old 12 (by kernel_rfl)
                have d4 : a.tmps.getD 112 undef = .bool false := dep 4 _ _ (by kernel_rfl) rfl rfl
                have e4 : a.tmps[112]?.getD undef = _ := (Array.getD_eq_getD_getElem? ..).symm.trans d4
                rw [if_pos (wanted_some rfl rfl rfl (by rw [hsz]; exact of_decide_eq_true rfl) d4)]
                have g0 := ((HST.out.below hb).blk (i := 6) rfl).cell 0 _ rfl
                refine grow_same (v := .slice (some ⟨gw, 0, none⟩) xs.length c1) ?_ rfl
                clear old dep ho hsz hb
                go_simp
              | 6, ho =>
                obtain rfl := Option.some.inj ho
                have o14 : a.tmps.getD 14 undef = _ := old 14 (by kernel_rfl)
                have d4 : a.tmps.getD 112 undef = .bool false := dep 4 _ _ (by kernel_rfl) rfl rfl
                have e4 : a.tmps[112]?.getD undef = _ := (Array.getD_eq_getD_getElem? ..).symm.trans d4
                rw [if_pos (wanted_some rfl rfl rfl (by rw [hsz]; exact of_decide_eq_true rfl) d4)]
                have g0 := ((HST.out.below hb).blk (i := 8) rfl).cell 0 _ rfl
                refine grow_same (v := .int .i64 (q : Int)) ?_ rfl
                clear old dep ho hsz hb
                go_simp
              | 7, ho =>
                obtain rfl := Option.some.inj ho
                have d5 : a.tmps.getD 113 undef = .slice (some ⟨gw, 0, none⟩) xs.length c1 := dep 5 _ _ (by kernel_rfl) rfl rfl
                have e5 : a.tmps[113]?.getD undef = _ := (Array.getD_eq_getD_getElem? ..).symm.trans d5
                have d6 : a.tmps.getD 114 undef = .int .i64 (q : Int) := dep 6 _ _ (by kernel_rfl) rfl rfl
                have e6 : a.tmps[114]?.getD undef = _ := (Array.getD_eq_getD_getElem? ..).symm.trans d6
                have d4 : a.tmps.getD 112 undef = .bool false := dep 4 _ _ (by kernel_rfl) rfl rfl
                have e4 : a.tmps[112]?.getD undef = _ := (Array.getD_eq_getD_getElem? ..).symm.trans d4
                rw [if_pos (wanted_some rfl rfl rfl (by rw [hsz]; exact of_decide_eq_true rfl) d4)]
                have g0 := HQ.out.1
                have g1 := HQ.out.2
                refine grow_same (v := .pointer (some ⟨gw, q * 5, none⟩)) ?_ rfl
                clear old dep ho hsz hb
                go_simp
              | 8, ho =>
                obtain rfl := Option.some.inj ho
                have d7 : a.tmps.getD 115 undef = .pointer (some ⟨gw, q * 5, none⟩) := dep 7 _ _ (by kernel_rfl) rfl rfl
                have e7 : a.tmps[115]?.getD undef = _ := (Array.getD_eq_getD_getElem? ..).symm.trans d7
                have d4 : a.tmps.getD 112 undef = .bool false := dep 4 _ _ (by kernel_rfl) rfl rfl
                have e4 : a.tmps[112]?.getD undef = _ := (Array.getD_eq_getD_getElem? ..).symm.trans d4
                rw [if_pos (wanted_some rfl rfl rfl (by rw [hsz]; exact of_decide_eq_true rfl) d4)]
                obtain ⟨g0, g1, g2, g3, g4⟩ := Its.cells ((HST.out.below hb).its (i := 5) rfl) rfl HX.out
                refine grow_same (v := .agg #[.int .i64 x.t, .string x.key, .string x.val, .int .i64 x.p, .int .i64 x.s]) ?_ rfl
                clear old dep ho hsz hb
                go_simp
              | 9, ho =>
                obtain rfl := Option.some.inj ho
                have o15 : a.tmps.getD 15 undef = _ := old 15 (by kernel_rfl)
                have d4 : a.tmps.getD 112 undef = .bool false := dep 4 _ _ (by kernel_rfl) rfl rfl
                have e4 : a.tmps[112]?.getD undef = _ := (Array.getD_eq_getD_getElem? ..).symm.trans d4
                rw [if_pos (wanted_some rfl rfl rfl (by rw [hsz]; exact of_decide_eq_true rfl) d4)]
                obtain ⟨g0, g1, g2, g3, g4⟩ := item_cells ((HST.out.below hb).blk (i := 9) rfl)
                refine grow_same (v := .agg #[.int .i64 x.t, .string x.key, .string x.val, .int .i64 x.p, .int .i64 x.s]) ?_ rfl
                clear old dep ho hsz hb
                go_simp
              | 10, ho =>
                obtain rfl := Option.some.inj ho
                have d8 : a.tmps.getD 116 undef = .agg #[.int .i64 x.t, .string x.key, .string x.val, .int .i64 x.p, .int .i64 x.s] := dep 8 _ _ (by kernel_rfl) rfl rfl
                have e8 : a.tmps[116]?.getD undef = _ := (Array.getD_eq_getD_getElem? ..).symm.trans d8
                have d9 : a.tmps.getD 117 undef = .agg #[.int .i64 x.t, .string x.key, .string x.val, .int .i64 x.p, .int .i64 x.s] := dep 9 _ _ (by kernel_rfl) rfl rfl
                have e9 : a.tmps[117]?.getD undef = _ := (Array.getD_eq_getD_getElem? ..).symm.trans d9
                have d4 : a.tmps.getD 112 undef = .bool false := dep 4 _ _ (by kernel_rfl) rfl rfl
                have e4 : a.tmps[112]?.getD undef = _ := (Array.getD_eq_getD_getElem? ..).symm.trans d4
                rw [if_pos (wanted_some rfl rfl rfl (by rw [hsz]; exact of_decide_eq_true rfl) d4)]
                refine grow_same (v := .bool false) ?_ rfl
                clear old dep ho hsz hb
                go_simp
              | 11, ho =>
                obtain rfl := Option.some.inj ho
                have d4 : a.tmps.getD 112 undef = .bool false := dep 4 _ _ (by kernel_rfl) rfl rfl
                have e4 : a.tmps[112]?.getD undef = _ := (Array.getD_eq_getD_getElem? ..).symm.trans d4
                have d10 : a.tmps.getD 118 undef = .bool false := dep 10 _ _ (by kernel_rfl) rfl rfl
                have e10 : a.tmps[118]?.getD undef = _ := (Array.getD_eq_getD_getElem? ..).symm.trans d10
                rw [if_pos (wanted_none rfl)]
                refine grow_same (v := .bool false) ?_ rfl
                clear old dep ho hsz hb
                go_simp
              | i + 12, ho => exact absurd ho (by simp)
            · intro a w9 hb hsz hdf fin keep
              obtain ⟨tm, df⟩ := a
              have hx := frame_of [108, 109, 110, 111, 112, 113, 114, 115, 116, 117, 118, 119] (by kernel_rfl) hsz keep
              dsimp only at hdf hx
              simp only [List.foldl_cons, List.foldl_nil] at hx
              subst hdf
              clear hsz keep
              have kn : tm.getD 108 undef = .int .i64 (q : Int) := fin 0 _ _ rfl rfl
              rw [kn] at hx
              clear kn
              have kn : tm.getD 109 undef = .slice (some ⟨gw, 0, none⟩) xs.length c1 := fin 1 _ _ rfl rfl
              rw [kn] at hx
              clear kn
              have kn : tm.getD 110 undef = .int .i64 (xs.length : Int) := fin 2 _ _ rfl rfl
              rw [kn] at hx
              clear kn
              have kn : tm.getD 111 undef = .bool false := fin 3 _ _ rfl rfl
              rw [kn] at hx
              clear kn
              have kn : tm.getD 112 undef = .bool false := fin 4 _ _ rfl rfl
              rw [kn] at hx
              clear kn
              have kn : tm.getD 113 undef = .slice (some ⟨gw, 0, none⟩) xs.length c1 := fin 5 _ _ rfl rfl
              rw [kn] at hx
              clear kn
              have kn : tm.getD 114 undef = .int .i64 (q : Int) := fin 6 _ _ rfl rfl
              rw [kn] at hx
              clear kn
              have kn : tm.getD 115 undef = .pointer (some ⟨gw, q * 5, none⟩) := fin 7 _ _ rfl rfl
              rw [kn] at hx
              clear kn
              have kn : tm.getD 116 undef = .agg #[.int .i64 x.t, .string x.key, .string x.val, .int .i64 x.p, .int .i64 x.s] := fin 8 _ _ rfl rfl
              rw [kn] at hx
              clear kn
              have kn : tm.getD 117 undef = .agg #[.int .i64 x.t, .string x.key, .string x.val, .int .i64 x.p, .int .i64 x.s] := fin 9 _ _ rfl rfl
              rw [kn] at hx
              clear kn
              have kn : tm.getD 118 undef = .bool false := fin 10 _ _ rfl rfl
              rw [kn] at hx
              clear kn
              have kn : tm.getD 119 undef = .bool false := fin 11 _ _ rfl rfl
              rw [kn] at hx
              clear kn
              clear fin
              simp only [List.setIfInBounds_toArray, List.set_cons_succ, List.set_cons_zero] at hx
              subst hx
              have j0 := ((HST.out.below hb).blk (i := 8) rfl).cell 0 _ rfl
              have jf := ((HST.out.below hb).blk (i := 8) rfl).frozen 0
              have HB := hide hb
              clear hb
              gi_wp2
              exact HF1.out.round_out HNEW.out (show Ow C F1 _ [.blk w.heap.size 32 #[.int .i64 z.t, .string z.key, .string z.val, .int .i64 z.p, .int .i64 z.s], .blk (w.heap.size + 1) 4 #[.bool false], .ix g xs, .ix g2 xs, .blk jb 32 #[.int .i64 z.t, .string z.key, .string z.val, .int .i64 z.p, .int .i64 z.s], .its (.slice (some ⟨gw, 0, none⟩) xs.length c1) xs, .blk lb 25 #[(.slice (some ⟨gw, 0, none⟩) xs.length c1)], .obj d1 (.deferred (some [])), .blk mb 3 #[.int .i64 (q + 1 : Nat)]] from ((HST.out.below HB.out).set_ (i := 8) rfl 0 _).take 9) HCS.out
          case done2 =>
            clear hF S5
            rintro F A hA e1 hK
            have S9 := hide (hA.adopt e1 hwD hK)
            clear hA hK e1
            have i0 := (S9.out.blk (i := 8) rfl).cell 0 _ rfl
            have v0 := (S9.out.blk (i := 6) rfl).cell 0 _ rfl
            have z0 := (S9.out.blk (i := 1) rfl).cell 0 _ rfl
            have zf := (S9.out.blk (i := 1) rfl).frozen 0
            go_wp2_with (first
              | (go_at_call 16; (with_reducible refine (ow_len S9.out (i := 2) rfl).mono ?_); rintro e W8 ⟨rfl, rfl⟩))
            have R0 := S9.out.set_ (i := 1) rfl 0 (.bool true)
            have hK0 := R0.obj (i := 9) rfl
            have R1 := R0.taken (i := 9) rfl (.deferred none)
            have hK1 := R1.obj (i := 7) rfl
            have R2 := R1.taken (i := 7) rfl (.deferred none)
            refine ⟨by simp, .inl ⟨_, _, rfl, run_takeDeferred hK0, ?_⟩⟩
            refine ⟨by simp, .inl ⟨_, _, rfl, run_takeDeferred hK1, ?_⟩⟩
            have BZ := (R2.blk (i := 1) rfl).cell 0 _ rfl
            exact ⟨.bool true, by simp [results, Try.results5, go_sem, BZ], rfl, R2.bel⟩
          case stop2 => intro c k A h; exact h.elim
        case stop => intro c k A h; exact h.elim
end Go.Proofs.Ytkcomkllnhdohaa
