/-
  The walk of PageFull.
-/
import Derived.Test.YtajpjffjhnmfmaaFill
import Derived.Test.YtajpjffjhnmfmaaRange
import Derived.WalkMore
import Derived.Deep.LoopGhost
namespace Go.Proofs.Ytajpjffjhnmfmaa
open Go.RowKit Go.Shelf

set_option linter.unusedSimpArgs false
set_option linter.unusedVariables false
attribute [local go_sem] Oper.semAt_some

/-- A page whose first k slots have the same row. -/
def fullP (E : ByteArray) (k : Nat) : Pg := ⟨0, 0, 0, fun j => if j < k then E else ⟨#[]⟩⟩
theorem full_next {w : World} {g k : Nat} {E : ByteArray} (hk : k < 5) (h : PgB w g ((fullP E k).set k E)) : PgB w g (fullP E (k + 1)) := by
  have e : ((fullP E k).set k E).cells = (fullP E (k + 1)).cells := by
    match k, hk with
    | 0, _ => rfl
    | 1, _ => rfl
    | 2, _ => rfl
    | 3, _ => rfl
    | 4, _ => rfl
  unfold PgB at *
  rwa [← e]
theorem full_free {E : ByteArray} (hE : E ≠ ⟨#[]⟩) (k : Nat) (hk : k ≤ 5) : (fullP E k).freeI [] = if k < 5 then (k : Int) else -1 := by
  have hb : ∀ j, j < k → (fullP E k).freeB [] j = false := fun j hj => freeB_full (by show (if j < k then E else _) ≠ _; rw [if_pos hj]; exact hE)
  by_cases h : k < 5
  · rw [if_pos h]
    exact free_here _ _ k h hb (by unfold Pg.freeB; simp [fullP])
  · rw [if_neg h]
    exact free_none _ _ fun j hj => hb j (by omega)
theorem and7 (x : Int) : ∃ b : Nat, b < 8 ∧ bits .and .i64 x 7 = (b : Int) := by
  have h2 : bits .and .i64 x 7 = IntKind.i64.wrap (((BitVec.ofInt 64 x &&& BitVec.ofInt 64 7).toNat : Int)) := rfl
  have h4 : (BitVec.ofInt 64 7).toNat = 2 ^ 3 - 1 := by rw [BitVec.toNat_ofInt]; rfl
  rw [h2, BitVec.toNat_and, h4, Nat.and_two_pow_sub_one_eq_mod, BitVec.toNat_ofInt]
  refine ⟨(x % ((2 ^ 64 : Nat) : Int)).toNat % 2 ^ 3, by omega, ?_⟩
  rw [IntKind.wrap_i64]; omega
theorem full_0 {w : World} {g k : Nat} {E : ByteArray} (h : PgB w g (fullP E k)) (hE : E ≠ ⟨#[]⟩) (hk : k ≤ 5) : Calls Try.prog 21 #[.pointer (some ⟨g, 0, none⟩), .slice none 0 0] w fun e w' => e = .returned (.int .i64 (if k < 5 then (k : Int) else -1)) ∧ w = w' := by
  have := free_0 h
  rwa [full_free hE k hk] at this
set_option maxRecDepth 20000 in
set_option maxHeartbeats 4000000 in
theorem full_long (t : Int) (k u : ByteArray) (y : Int) (w : World) (hl : lightsB [⟨t, k, u⟩] = false) :
    Calls Try.prog 9 #[.agg #[.int .i64 t, .string k, .string u], .int .i64 y] w fun e w' => e = .returned (.bool true) ∧ Below w.heap.size w w' := by
  have B0 : Hid (Blk (w.alloc (.cells #[.int .i64 t, .string k, .string u] 46)) w.heap.size 46 #[.int .i64 t, .string k, .string u]) := hide (heap_new w _)
  have W0 := hide ((Below.refl w.heap.size w).alloc (Nat.le_refl _) (.cells #[.int .i64 t, .string k, .string u] 46))
  refine (callsIn_wide (n := 3)).1 ?_
  refine callsIn_of_wp_marks Try.func9 rfl trivial ?_ rfl
  refine wpIn_wide.2 ?_
  simp only [Try.ntmps9, List.size_toArray, List.length_cons, List.length_nil, Nat.reduceAdd, Nat.reduceSub, Array.replicate_succ, Array.replicate_zero, List.push_toArray, List.append_toArray, List.nil_append, List.cons_append]
  go_wp2_with (first
    | (go_at_call 11; (with_reducible refine (fit_any _).mono ?_); rintro e w1 ⟨rfl, hb1⟩; have W1 := hide (W0.out.trans (hb1.mono W0.out.size)); have B1 := hide (B0.out.below hb1); obtain ⟨p1, p2, p3⟩ := B1.out.three; clear hb1)
    | (go_at_call 12; (with_reducible refine (light_one false _ k u _ hl).mono ?_); rintro e w2 ⟨rfl, hb2⟩; have W2 := hide (W1.out.trans (hb2.mono W1.out.size)); have B2 := hide (B1.out.below hb2); obtain ⟨q1, q2, q3⟩ := B2.out.three; clear hb2))
  exact ⟨_, results_tmp rfl _ _ _, rfl, W2.out⟩
set_option maxRecDepth 20000 in
set_option maxHeartbeats 4000000 in
theorem full_wrong (t : Int) (k u : ByteArray) (y : Int) (w : World) (hl : lightsB [⟨t, k, u⟩] = true) (hr : rightB t k u = false) :
    Calls Try.prog 9 #[.agg #[.int .i64 t, .string k, .string u], .int .i64 y] w fun e w' => e = .returned (.bool true) ∧ Below w.heap.size w w' := by
  have B0 : Hid (Blk (w.alloc (.cells #[.int .i64 t, .string k, .string u] 46)) w.heap.size 46 #[.int .i64 t, .string k, .string u]) := hide (heap_new w _)
  have W0 := hide ((Below.refl w.heap.size w).alloc (Nat.le_refl _) (.cells #[.int .i64 t, .string k, .string u] 46))
  refine (callsIn_wide (n := 3)).1 ?_
  refine callsIn_of_wp_marks Try.func9 rfl trivial ?_ rfl
  refine wpIn_wide.2 ?_
  simp only [Try.ntmps9, List.size_toArray, List.length_cons, List.length_nil, Nat.reduceAdd, Nat.reduceSub, Array.replicate_succ, Array.replicate_zero, List.push_toArray, List.append_toArray, List.nil_append, List.cons_append]
  go_wp2_with (first
    | (go_at_call 11; (with_reducible refine (fit_any _).mono ?_); rintro e w1 ⟨rfl, hb1⟩; have W1 := hide (W0.out.trans (hb1.mono W0.out.size)); have B1 := hide (B0.out.below hb1); obtain ⟨p1, p2, p3⟩ := B1.out.three; clear hb1)
    | (go_at_call 12; (with_reducible refine (light_one true _ k u _ hl).mono ?_); rintro e w2 ⟨rfl, hb2⟩; have W2 := hide (W1.out.trans (hb2.mono W1.out.size)); have B2 := hide (B1.out.below hb2); obtain ⟨q1, q2, q3⟩ := B2.out.three; clear hb2)
    | (go_at_call 17; (with_reducible refine (right_no _ k u _ hr).mono ?_); rintro e w3 ⟨rfl, hb3⟩; have W3 := hide (W2.out.trans (hb3.mono W2.out.size)); have B3 := hide (B2.out.below hb3); clear hb3))
  exact ⟨_, results_tmp rfl _ _ _, rfl, W3.out⟩
set_option maxRecDepth 20000 in
set_option maxHeartbeats 4000000 in
theorem full_right (t : Nat) (k u : ByteArray) (y : Int) (w : World) (hl : lightsB [⟨(t : Int), k, u⟩] = true) (hr : rightB (t : Int) k u = true) :
    Calls Try.prog 9 #[.agg #[.int .i64 (t : Int), .string k, .string u], .int .i64 y] w fun e w' => e = .returned (.bool true) ∧ Below w.heap.size w w' := by
  obtain ⟨b, hb8, hby⟩ := and7 y
  obtain ⟨eo, en⟩ := encB_ok hr
  have hE := fun W => rowenc_str (t := t) (k := k) (v := u) W hr
  generalize encB t k u = E at *
  have EO := hide eo
  have EN := hide en
  have HR := hide hr
  clear eo en hr
  have B0 : Hid (Blk (w.alloc (.cells #[.int .i64 (t : Int), .string k, .string u] 46)) w.heap.size 46 #[.int .i64 (t : Int), .string k, .string u]) := hide (heap_new w _)
  have W0 := hide ((Below.refl w.heap.size w).alloc (Nat.le_refl _) (.cells #[.int .i64 (t : Int), .string k, .string u] 46))
  refine (callsIn_wide (n := 3)).1 ?_
  refine callsIn_of_wp_marks Try.func9 rfl trivial ?_ rfl
  refine wpIn_wide.2 ?_
  simp only [Try.ntmps9, List.size_toArray, List.length_cons, List.length_nil, Nat.reduceAdd, Nat.reduceSub, Array.replicate_succ, Array.replicate_zero, List.push_toArray, List.append_toArray, List.nil_append, List.cons_append]
  go_wp2_with (first
    | (go_at_call 11; (with_reducible refine (fit_any _).mono ?_); rintro e w1 ⟨rfl, hb1⟩; have W1 := hide (W0.out.trans (hb1.mono W0.out.size)); have B1 := hide (B0.out.below hb1); obtain ⟨p1, p2, p3⟩ := B1.out.three; clear hb1)
    | (go_at_call 12; (with_reducible refine (light_one true _ k u _ hl).mono ?_); rintro e w2 ⟨rfl, hb2⟩; have W2 := hide (W1.out.trans (hb2.mono W1.out.size)); have B2 := hide (B1.out.below hb2); obtain ⟨q1, q2, q3⟩ := B2.out.three; clear hb2)
    | (go_at_call 17; (with_reducible refine (right_yes _ k u _ HR.out).mono ?_); rintro e w3 ⟨rfl, hb3⟩; have W3 := hide (W2.out.trans (hb3.mono W2.out.size)); have B3 := hide (B2.out.below hb3); clear hb3))
  have P4 : Hid (PgB (w3.alloc (.cells #[.int .u64 0, .int .i64 0, .int .i64 0, .string ⟨#[]⟩, .string ⟨#[]⟩, .string ⟨#[]⟩, .string ⟨#[]⟩, .string ⟨#[]⟩] 35)) w3.heap.size (fullP E 0)) := hide (heap_new w3 _)
  have B4 := hide (Blk.alloc B3.out (.cells #[.int .u64 0, .int .i64 0, .int .i64 0, .string ⟨#[]⟩, .string ⟨#[]⟩, .string ⟨#[]⟩, .string ⟨#[]⟩, .string ⟨#[]⟩] 35))
  have W4 := hide (W3.out.alloc W3.out.size (.cells #[.int .u64 0, .int .i64 0, .int .i64 0, .string ⟨#[]⟩, .string ⟨#[]⟩, .string ⟨#[]⟩, .string ⟨#[]⟩, .string ⟨#[]⟩] 35))
  have HNE := hide (show w3.heap.size ≠ w.heap.size by have := B3.out.lt; omega)
  have HGP := hide (show w.heap.size ≤ w3.heap.size from W3.out.size)
  clear p1 p2 p3 q1 q2 q3
  generalize w3.alloc (.cells #[.int .u64 0, .int .i64 0, .int .i64 0, .string ⟨#[]⟩, .string ⟨#[]⟩, .string ⟨#[]⟩, .string ⟨#[]⟩, .string ⟨#[]⟩] 35) = w4 at *
  generalize w3.heap.size = gp at *
  go_loopg [24] b (fun q i wr => ∃ j : Nat, j + q = b ∧ i = .int .i64 j ∧ Hid (PgB wr gp (fullP E (min j 5))) ∧ Hid (Blk wr w.heap.size 46 #[.int .i64 (t : Int), .string k, .string u]) ∧ Hid (Below w.heap.size w wr))
  case atStart => exact ⟨0, by omega, rfl, P4, B4, W4⟩
  case round =>
    obtain ⟨j, hj, rfl, hp, hbk, hbe⟩ := hrel
    obtain ⟨r1, r2, r3⟩ := hbk.out.three
    cases gk with
    | zero =>
      obtain rfl : j = b := by omega
      clear r1 r2 r3
      go_wp2
      have PK := hide (PgB.alloc hp.out (.cells #[.int .i64 0] 3))
      have CK : Hid (Blk (wr.alloc (.cells #[.int .i64 0] 3)) wr.heap.size 3 #[.int .i64 0]) := hide (heap_new wr _)
      have WK := hide (hbe.out.alloc hbe.out.size (.cells #[.int .i64 0] 3))
      have hne := hide (show gp ≠ wr.heap.size by have := hp.out.lt; omega)
      have hwk := hide (show w.heap.size ≤ wr.heap.size from hbe.out.size)
      generalize wr.alloc (.cells #[.int .i64 0] 3) = wk at *
      generalize wr.heap.size = gk at *
      have hlp := hide PK.out.lt
      have hlk := hide CK.out.lt
      have hm5 := hide (show min j 5 ≤ 5 ∧ min j 5 ≤ j by omega)
      have hmj := hide (show ((min j 5 : Nat) : Int) = min (j : Int) 5 by omega)
      generalize min j 5 = m at *
      have hok : ∀ x, x < 5 → okB ((fullP E m).s x) = true := by
        intro x _
        show okB (if x < m then E else ⟨#[]⟩) = true
        split
        · unfold okB; rw [EO.out]; simp
        · exact okB_empty
      refine wpIn_wide.1 (range_rows (gp := gp) (p := fullP E m) (n := 3) (by omega) rfl rfl hok
        (fun q A => Blk A gk 3 #[.int .i64 ((min q m : Nat) : Int)] ∧ PgB A gp (fullP E m) ∧ Below w.heap.size w A ∧ wk.heap.size ≤ A.heap.size) (fun _ _ _ => False)
        (fun q A B h hc => ⟨hc.blk h.1 (by have := hlk.out; omega) (by have := hlk.out; omega), hc.blk h.2.1 (by have := hlp.out; omega) (by have := hlp.out; omega), h.2.2.1.trans ((hc.below h.2.2.2).mono WK.out.size), Nat.le_trans h.2.2.2 hc.2.2.2.1⟩)
        (fun _ _ _ _ h _ => h) (fun q A h => h.2.1) ?skip ⟨by rw [Nat.zero_min]; exact CK.out, PK.out, WK.out, Nat.le_refl _⟩ ?round ?done (fun _ _ _ h _ => h.elim))
      case skip =>
        rintro q A hq hs ⟨h1, h2⟩
        have hqm : ¬ q < m := fun h => EN.out (by have : (if q < m then E else ⟨#[]⟩) = (⟨#[]⟩ : ByteArray) := hs; rwa [if_pos h] at this)
        refine ⟨?_, h2⟩
        rw [show min (q + 1) m = min q m by omega]
        exact h1
      case round =>
        rintro q A hq hs ⟨h1, h2, h3, h4⟩ hD
        have hqm : q < m := by
          by_cases h : q < m
          · exact h
          · exact absurd (show (if q < m then E else ⟨#[]⟩) = (⟨#[]⟩ : ByteArray) from if_neg h) hs
        rw [show min q m = q by omega] at h1
        gi_wp2
        refine ⟨Below.refl _ _, fun C hC hs2 => ?_⟩
        have hCk := hC.blk h1 (by have := hlk.out; omega) (by have := hlk.out; omega)
        have hCp := hide (hC.blk h2 (by have := hlp.out; omega) (by have := hlp.out; omega) : Blk C gp _ _)
        have hCw := hide (h3.trans ((hC.below h4).mono WK.out.size))
        have hCs := hide (Nat.le_trans h4 hC.2.2.2.1)
        have hcc := hCk.cell 0 _ rfl
        have hcf := hCk.frozen 0
        have HCK := hide hCk
        have HQ := hide hqm
        clear hCk hC hs2 h1 h2 h3 h4 hs hqm hD
        gi_wp2
        refine ⟨⟨Below.heap_setCell _ _ _ _ (by show _ ≠ gk; have := hlk.out; omega), Below.heap_setCell _ _ _ _ (by show _ ≠ gk; have := hlk.out; omega)⟩, ?_, Blk.far hCp.out (by show gp ≠ gk; exact hne.out) _, hCw.out.setCell (p := ⟨gk, 0, none⟩) hwk.out _, by simpa [World.setCell] using hCs.out⟩
        rw [show min (q + 1) m = q + 1 by have := HQ.out; omega]
        exact Blk.set_ HCK.out 0 _
      case done =>
        rintro A ⟨h1, h2, h3, h4⟩ hK
        have hd := hm5.out
        rw [show min 5 m = m by omega] at h1
        have hcc := h1.cell 0 _ rfl
        rw [hmj.out] at hcc
        clear hd
        go_wp2
        all_goals
          refine ⟨by simp, .inl ⟨_, _, rfl, run_takeDeferred hK, ?_⟩⟩
          have cc := Calm.put wk.heap.size wk.heap.size A (.deferred none) (.inl rfl)
          refine ⟨_, results_tmp rfl _ _ _, ?_, h3.trans ((cc.below h4).mono WK.out.size)⟩
          refine congrArg (fun x => Ending.returned (Value.bool x)) ?_
          rw [beq_iff_eq]
          omega
    | succ q =>
      have hjb : (j : Int) < (b : Int) := by omega
      by_cases h5 : j < 5
      · have h5i : (j : Int) < 5 := by omega
        have hm : min j 5 = j := by omega
        rw [hm] at hp
        have hfree := full_0 hp.out EN.out (by omega)
        rw [if_pos h5] at hfree
        have H5 := hide h5
        clear hm
        go_wp2_with (first
          | (go_at_call 21; (with_reducible refine hfree.mono ?_); rintro e wf ⟨rfl, rfl⟩)
          | (go_at_call 18; refine (hE _).mono ?_; rintro e we ⟨A, c, rfl, hbE, hcv⟩; have hp2 := hide (hp.out.below hbE); have hb2 := hide (hbk.out.below hbE); have hw2 := hide (hbe.out.trans (hbE.mono hbe.out.size)); clear hbE)
          | (go_at_call 19; refine (set_row hp2.out j H5.out E EN.out EO.out).mono ?_; rintro e ws ⟨rfl, hps, hgs⟩; have hp3 := hide (full_next H5.out hps); have hb3 := hide (Blk.grown hb2.out hgs (fun e => by injection e with e; exact HNE.out e)); have hw3 := hide (hw2.out.grown hgs hw2.out.size (fun x hx => by injection hx with hx; have := HGP.out; omega)); clear hps hgs))
        go_roundg q
        case rel => exact ⟨j + 1, by omega, by go_num, by rw [show min (j + 1) 5 = j + 1 by omega]; exact hp3, hb3, hw3⟩
        case measure => omega
      · have h5i : ¬ (j : Int) < 5 := by omega
        have hm : min j 5 = 5 := by omega
        rw [hm] at hp
        have hfree := full_0 hp.out EN.out (by omega)
        rw [if_neg (by omega)] at hfree
        clear hm
        go_wp2_with (first
          | (go_at_call 21; (with_reducible refine hfree.mono ?_); rintro e wf ⟨rfl, rfl⟩)
          | (go_at_call 18; refine (hE _).mono ?_; rintro e we ⟨A, c, rfl, hbE, hcv⟩; have hp2 := hide (hp.out.below hbE); have hb2 := hide (hbk.out.below hbE); have hw2 := hide (hbe.out.trans (hbE.mono hbe.out.size)); clear hbE)
          | (go_at_call 19; refine (set_out (-1) E (.inl (by omega))).mono ?_; rintro e ws ⟨rfl, rfl⟩))
        go_roundg q
        case rel => exact ⟨j + 1, by omega, by go_num, by rw [show min (j + 1) 5 = 5 by omega]; exact hp2, hb2, hw2⟩
        case measure => omega
theorem full_walk (t : Int) (k u : ByteArray) (y : Int) (w : World) (_ : (Lit.int .i64 t).wf = true) (_ : k.size ≤ maxLen) (_ : u.size ≤ maxLen) (_ : (Lit.int .i64 y).wf = true) :
    Calls Try.prog 9 #[.agg #[.int .i64 t, .string k, .string u], .int .i64 y] w fun e w' => e = .returned (.bool true) ∧ Below w.heap.size w w' := by
  cases hl : lightsB [⟨t, k, u⟩]
  · exact full_long t k u y w hl
  · cases hr : rightB t k u
    · exact full_wrong t k u y w hl hr
    · obtain ⟨n, rfl⟩ : ∃ n : Nat, t = (n : Int) := ⟨t.toNat, by have := (rightB_iff.1 hr).1; omega⟩
      exact full_right n k u y w hl hr
end Go.Proofs.Ytajpjffjhnmfmaa
