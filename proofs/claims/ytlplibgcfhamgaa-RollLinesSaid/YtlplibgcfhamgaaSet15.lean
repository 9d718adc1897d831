/-
  Package roll: Wipe and Settle.
-/
import Derived.Test.YtlplibgcfhamgaaRol
namespace Go.Proofs.Ytlplibgcfhamgaa
open Go.RowKit
set_option maxRecDepth 20000
set_option linter.unusedSimpArgs false
set_option linter.unusedVariables false

section
variable {w : World} {X : Nat → Prop} {dg : Nat} {d : Ds} {g : Rg} {n k : Nat} {r : Int} {b : Sec}
theorem rwipe_any (h : Many w X [(dg, d)]) (hr : d.at? r = some g) (hg : g.Fit n) (hz : d.size = n) (hs : Small d k) (hn : n ≤ 60000) (hk : k + n ≤ 900000) (hf : 538 ≤ n) :
    Calls Try.prog 23 #[.pointer (some ⟨dg, 0, none⟩), .int .i64 r] w fun e w' => e = .returned (.int .i64 (wipeL d r (fulls g.secs 1 538)).2) ∧ Many w' X [(dg, (wipeL d r (fulls g.secs 1 538)).1)] ∧ Out X w w' := by
  have hw : Calls Try.prog 28 #[.pointer (some ⟨dg, 0, none⟩), .int .i64 r, .int .i64 1, .int .i64 538] w _ := wipe_any (f := 1) (t := 538) h hr hg hz hs hn hk (by omega) hf
  obtain ⟨x, hx⟩ : ∃ x, wipeL d r (fulls g.secs 1 538) = x := ⟨_, rfl⟩
  rw [hx] at hw ⊢
  clear hx h hr hg hz hs
  go_enter Try.func23, Try.ntmps23
  go_wp2_with (go_at_call 28; ((with_reducible refine hw.mono ?_); rintro e w2 ⟨rfl, hm2, ho2⟩; have M2 := hide hm2; have O2 := hide ho2; clear hm2 ho2 hw))
  go_ret
  exact ⟨rfl, M2.out, O2.out⟩
theorem wipeL_small (r : Int) (l : List Nat) : ∀ {d : Ds} {k : Nat}, Small d k → Small (wipeL d r l).1 (k + l.length) := by
  induction l with
  | nil => intro d k h; exact h.br r
  | cons s l ih =>
    intro d k h
    unfold wipeL
    split
    · exact (ih (h.wr r (s : Int) [])).more (by simp only [List.length_cons]; omega)
    · exact (h.wr r (s : Int) []).more (by simp only [List.length_cons]; omega)
/-- Behind the line's reading: the result's block lb, the line's own kb. -/
structure AftRd (w : World) (X Y : Nat → Prop) (dg : Nat) (d : Ds) (s : Int) (c lb kb : Nat) (w2 : World) : Prop where
  lx : ∀ k, X k → k < lb
  sub : ∀ k, X k → Y k
  yl : Y lb
  yk : Y kb
  m : Many w2 Y [(dg, d)]
  o : Out X w w2
  l : Blk w2 lb 35 #[.int .i64 0, .int .u64 0]
  k : Blk w2 kb 35 #[.int .i64 s, .int .u64 (c : Int)]
theorem aft_read {s : Int} {c : Nat} {w2 : World} (h : Many w X [(dg, d)]) (hl : Blk (w.alloc (.cells #[.int .i64 0, .int .u64 0] 35)) w.heap.size 35 #[.int .i64 0, .int .u64 0]) (hb : Below (w.heap.size + 1) (w.alloc (.cells #[.int .i64 0, .int .u64 0] 35)) w2) :
    AftRd w X (Ext2 X w.heap.size (w2.heap.size + 1)) dg d s c w.heap.size w2.heap.size (w2.alloc (.cells #[.int .i64 s, .int .u64 (c : Int)] 35)) := by
  have hb2 := (below_up hb).alloc (below_up hb).size (.cells #[.int .i64 s, .int .u64 (c : Int)] 35)
  have hlt : w.heap.size < w2.heap.size := by have := hb.size; simp at this; omega
  exact ⟨h.1, fun _ hk => .inl hk, .inr ⟨by omega, by omega⟩, .inr ⟨by omega, by omega⟩, h.more hb2 (fun k hk => by rw [World.size_alloc]; exact hk), Out.of_below hb2, (blk_up hl hb).alloc _, Blk.new_ w2 _ _ rfl⟩
section
variable {Y : Nat → Prop} {s : Int} {c lb kb : Nat} {w2 w4 : World} {d1 : Ds}
theorem AftRd.wiped (h : AftRd w X Y dg d s c lb kb w2) (hm : Many w4 Y [(dg, d1)]) (ho : Out Y w2 w4) : AftRd w X Y dg d1 s c lb kb w4 :=
  ⟨h.lx, h.sub, h.yl, h.yk, hm, h.o.trans (ho.less h.sub), ho.blk h.l h.yl, ho.blk h.k h.yk⟩
theorem AftRd.fin (h : AftRd w X Y dg d s c lb kb w2) (u0 u1 : Value) : Many ((w2.setCell ⟨lb, 0, none⟩ u0).setCell ⟨lb, 1, none⟩ u1) X [(dg, d)] ∧ Out X w ((w2.setCell ⟨lb, 0, none⟩ u0).setCell ⟨lb, 1, none⟩ u1) := by
  have hk : Kept (fun k => k = lb) w2 ((w2.setCell ⟨lb, 0, none⟩ u0).setCell ⟨lb, 1, none⟩ u1) := (Kept.setCell w2 ⟨lb, 0, none⟩ u0).trans_same (Kept.setCell _ ⟨lb, 1, none⟩ u1)
  refine ⟨(h.m.foreign hk (fun k hk => .inl (by rw [hk]; exact h.yl))).more (Below.refl _ _) (fun k hk => .inl (h.sub k hk)), h.o.trans (hk.mono (fun k hk => .inl (fun hx => ?_)))⟩
  have := h.lx k hx
  omega
/-- A third block behind it. -/
theorem AftRd.more_ (h : AftRd w X Y dg d s c lb kb w2) (o : Obj) : AftRd w X (fun k => Y k ∨ k = w2.heap.size) dg d s c lb kb (w2.alloc o) :=
  ⟨h.lx, fun k hk => .inl (h.sub k hk), .inl h.yl, .inl h.yk, h.m.more ((Below.refl _ w2).alloc (Nat.le_refl _) o) (fun k hk => by rcases hk with hk | hk; exact .inl hk; exact .inr (by rw [World.size_alloc]; omega)), h.o.trans (Out.of_below ((Below.refl _ w2).alloc (Nat.le_refl _) o)), h.l.alloc o, h.k.alloc o⟩
end
set_option maxHeartbeats 2000000 in
theorem settle_any (h : Many w X [(dg, d)]) (hr : d.at? r = some g) (hg : g.Fit n) (hz : d.size = n) (hs : Small d k) (hn : n ≤ 60000) (hk : k + n ≤ 800000) (hf : 538 ≤ n) (hb : g.secs[0]? = some b) :
    Calls Try.prog 11 #[.pointer (some ⟨dg, 0, none⟩), .int .i64 r] w fun e w' => e = .returned (.tuple #[.agg #[.int .i64 ((settleL d r b (fulls g.secs 1 538)).1.1 : Int), .int .u64 ((settleL d r b (fulls g.secs 1 538)).1.2 : Int)], .int .i64 (settleL d r b (fulls g.secs 1 538)).2.1]) ∧ Many w' X [(dg, (settleL d r b (fulls g.secs 1 538)).2.2)] ∧ Out X w w' := by
  obtain ⟨b', hb1, hb2, h64⟩ := rd_at hr hg hz (s := 0) (by omega)
  obtain rfl : b' = b := by rw [hb] at hb2; exact (Option.some.inj hb2).symm
  have L1 := hide (Blk.new_ w #[.int .i64 0, .int .u64 0] 35 rfl)
  have M1 := hide (h.alloc (.cells #[.int .i64 0, .int .u64 0] 35))
  have hread := rread_any M1.out hb1 h64
  simp only [World.size_alloc] at hread
  have hfl := fulls_length g.secs 1 538
  have hsm := wipeL_small r (fulls g.secs 1 538) hs
  have hwipe := fun (w : World) (X : Nat → Prop) (h : Many w X [(dg, d)]) => rwipe_any h hr hg hz hs hn (by omega) hf
  unfold settleL
  obtain ⟨fl, hfe⟩ : ∃ fl, fulls g.secs 1 538 = fl := ⟨_, rfl⟩
  rw [hfe] at hfl hsm ⊢
  simp only [hfe] at hwipe
  obtain ⟨⟨d1, cw⟩, hx⟩ : ∃ x, wipeL d r fl = x := ⟨_, rfl⟩
  simp only [hx] at hwipe hsm ⊢
  have SM := hide (hsm.more (show k + fl.length ≤ 900000 by omega))
  have hs2 : staB b' ≤ 2 := knN_le _
  obtain ⟨s, hse⟩ : ∃ s, staB b' = s := ⟨_, rfl⟩
  obtain ⟨c, hce⟩ : ∃ c, cntB b' = c := ⟨_, rfl⟩
  rw [hse] at hs2 hread ⊢
  rw [hce] at hread ⊢
  have B0 := hide h
  clear h hr hg hz hs hb1 hb2 hb h64 hfl hfe hsm hx hse hce
  have HW := hide hwipe
  clear hwipe
  have hs3 : s = 1 ∨ s = 0 ∨ s = 2 := by omega
  clear hs2
  rcases hs3 with rfl | rfl | rfl
  · rw [if_pos rfl]
    go_enter Try.func11, Try.ntmps11
    go_wp2_with (go_at_call 13; ((with_reducible refine hread.mono ?_); rintro e w2 ⟨rfl, hb2⟩; have L2 := blk_up L1.out hb2; have B2 := hide (below_up hb2); have c0 := (L2.alloc (.cells #[.int .i64 1, .int .u64 (c : Int)] 35)).cell 0 _ rfl; have c1 := (L2.alloc (.cells #[.int .i64 1, .int .u64 (c : Int)] 35)).cell 1 _ rfl; have f0 := (L2.alloc (.cells #[.int .i64 1, .int .u64 (c : Int)] 35)).frozen 0; have f1 := (L2.alloc (.cells #[.int .i64 1, .int .u64 (c : Int)] 35)).frozen 1; clear hb2 hread L2))
    have hX := B0.out.1
    refine bodyPost_ret (v := .tuple #[.agg #[.int .i64 1, .int .u64 (c : Int)], .int .i64 0]) (by simp [results, Try.results11, go_sem, c0, c1, f0, f1]) rfl ⟨rfl, ?_⟩
    have hbel := (((B2.out.alloc B2.out.size (.cells #[.int .i64 1, .int .u64 (c : Int)] 35)).setCell (p := ⟨w.heap.size, 0, none⟩) (Nat.le_refl _) (.int .i64 1)).setCell (p := ⟨w.heap.size, 1, none⟩) (Nat.le_refl _) (.int .u64 (c : Int)))
    exact ⟨B0.out.below hbel, Out.of_below hbel⟩
  · rw [if_neg (by decide)]
    rw [show ((0 : Nat) : Int) = 0 from rfl] at hread
    by_cases h1 : cw = 0
    · subst h1
      rw [if_pos rfl]
      rw [if_pos rfl]
      go_enter Try.func11, Try.ntmps11
      go_wp2_with (first
      | (go_at_call 13; ((with_reducible refine hread.mono ?_); rintro e w2 ⟨rfl, hb2⟩; have A2 := aft_read (s := 0) (c := c) B0.out L1.out hb2; have hw := HW.out _ _ A2.m; have k0 := A2.k.cell 0 _ rfl; have k1 := A2.k.cell 1 _ rfl; have A2H := hide A2; clear hb2 hread A2))
      | (go_at_call 23; ((with_reducible refine hw.mono ?_); rintro e w4 ⟨rfl, hm4, ho4⟩; have A5 := A2H.out.wiped hm4 ho4; have j1 := A5.k.cell 1 _ rfl; have A4 := A5.more_ (.cells #[.int .i64 0, .int .u64 (c : Int)] 35); clear A5; have k0 := A4.k.cell 0 _ rfl; have k1 := A4.k.cell 1 _ rfl; have c0 := A4.l.cell 0 _ rfl; have c1 := A4.l.cell 1 _ rfl; have f0 := A4.l.frozen 0; have f1 := A4.l.frozen 1; have A4H := hide A4; clear hm4 ho4 hw A4)))
      refine bodyPost_ret (v := .tuple #[.agg #[.int .i64 0, .int .u64 (c : Int)], .int .i64 0]) (by simp [results, Try.results11, go_sem, c0, c1, f0, f1]) rfl ⟨rfl, A4H.out.fin _ _⟩
    · rw [if_neg h1]
      have hcb : (cw == 0) = false := by rw [beq_eq_false_iff_ne]; exact h1
      go_enter Try.func11, Try.ntmps11
      go_wp2_with (first
      | (go_at_call 13; ((with_reducible refine hread.mono ?_); rintro e w2 ⟨rfl, hb2⟩; have A2 := aft_read (s := 0) (c := c) B0.out L1.out hb2; have hw := HW.out _ _ A2.m; have k0 := A2.k.cell 0 _ rfl; have k1 := A2.k.cell 1 _ rfl; have A2H := hide A2; clear hb2 hread A2))
      | (go_at_call 23; ((with_reducible refine hw.mono ?_); rintro e w4 ⟨rfl, hm4, ho4⟩; have A4 := A2H.out.wiped hm4 ho4; have k0 := A4.k.cell 0 _ rfl; have k1 := A4.k.cell 1 _ rfl; have c0 := A4.l.cell 0 _ rfl; have c1 := A4.l.cell 1 _ rfl; have f0 := A4.l.frozen 0; have f1 := A4.l.frozen 1; have A4H := hide A4; clear hm4 ho4 hw A4)))
      refine bodyPost_ret (v := .tuple #[.agg #[.int .i64 0, .int .u64 0], .int .i64 cw]) (by simp [results, Try.results11, go_sem, c0, c1, f0, f1]) rfl ⟨rfl, A4H.out.fin _ _⟩
  · rw [if_neg (by decide)]
    rw [show ((2 : Nat) : Int) = 2 from rfl] at hread
    by_cases h1 : cw = 0
    · subst h1
      rw [if_pos rfl]
      rw [if_neg (by decide)]
      by_cases h2 : (writeL d1 r 0 c).2 = 0
      · rw [if_pos h2]
        have hwr := fun (w : World) (X : Nat → Prop) (h : Many w X [(dg, d1)]) => rwrite_any (z := 0) (s := 0) (c := c) (r := r) h SM.out (Nat.le_refl _) rfl
        obtain ⟨⟨d2, cv⟩, hx⟩ : ∃ x, writeL d1 r 0 c = x := ⟨_, rfl⟩
        simp only [hx] at hwr h2 ⊢
        subst h2
        have HWR := hide hwr
        clear hx hwr
        go_enter Try.func11, Try.ntmps11
        go_wp2_with (first
          | (go_at_call 13; ((with_reducible refine hread.mono ?_); rintro e w2 ⟨rfl, hb2⟩; have A2 := aft_read (s := 2) (c := c) B0.out L1.out hb2; have hw := HW.out _ _ A2.m; have k0 := A2.k.cell 0 _ rfl; have k1 := A2.k.cell 1 _ rfl; have A2H := hide A2; clear hb2 hread A2))
          | (go_at_call 23; ((with_reducible refine hw.mono ?_); rintro e w4 ⟨rfl, hm4, ho4⟩; have A5 := A2H.out.wiped hm4 ho4; have j1 := A5.k.cell 1 _ rfl; have A4 := A5.more_ (.cells #[.int .i64 0, .int .u64 (c : Int)] 35); clear A5; have N4 := hide (Blk.new_ w4 #[.int .i64 0, .int .u64 (c : Int)] 35 rfl); have k0 := A4.k.cell 0 _ rfl; have k1 := A4.k.cell 1 _ rfl; have hwr := HWR.out _ _ A4.m; have A4H := hide A4; clear hm4 ho4 hw A4))
          | (go_at_call 10; ((with_reducible refine hwr.mono ?_); rintro e w6 ⟨rfl, hm6, ho6⟩; have A6 := A4H.out.wiped hm6 ho6; have N6 := ho6.blk N4.out (.inr rfl); have n0 := N6.cell 0 _ rfl; have n1 := N6.cell 1 _ rfl; have c0 := A6.l.cell 0 _ rfl; have c1 := A6.l.cell 1 _ rfl; have f0 := A6.l.frozen 0; have f1 := A6.l.frozen 1; have A6H := hide A6; clear hm6 ho6 hwr A6 N6)))
        refine bodyPost_ret (v := .tuple #[.agg #[.int .i64 0, .int .u64 (c : Int)], .int .i64 0]) (by simp [results, Try.results11, go_sem, c0, c1, f0, f1]) rfl ⟨rfl, A6H.out.fin _ _⟩
      · rw [if_neg h2]
        have hwr := fun (w : World) (X : Nat → Prop) (h : Many w X [(dg, d1)]) => rwrite_any (z := 0) (s := 0) (c := c) (r := r) h SM.out (Nat.le_refl _) rfl
        obtain ⟨⟨d2, cv⟩, hx⟩ : ∃ x, writeL d1 r 0 c = x := ⟨_, rfl⟩
        simp only [hx] at hwr h2 ⊢
        have hvb : (cv == 0) = false := by rw [beq_eq_false_iff_ne]; exact h2
        have HWR := hide hwr
        clear hx hwr
        go_enter Try.func11, Try.ntmps11
        go_wp2_with (first
          | (go_at_call 13; ((with_reducible refine hread.mono ?_); rintro e w2 ⟨rfl, hb2⟩; have A2 := aft_read (s := 2) (c := c) B0.out L1.out hb2; have hw := HW.out _ _ A2.m; have k0 := A2.k.cell 0 _ rfl; have k1 := A2.k.cell 1 _ rfl; have A2H := hide A2; clear hb2 hread A2))
          | (go_at_call 23; ((with_reducible refine hw.mono ?_); rintro e w4 ⟨rfl, hm4, ho4⟩; have A5 := A2H.out.wiped hm4 ho4; have j1 := A5.k.cell 1 _ rfl; have A4 := A5.more_ (.cells #[.int .i64 0, .int .u64 (c : Int)] 35); clear A5; have N4 := hide (Blk.new_ w4 #[.int .i64 0, .int .u64 (c : Int)] 35 rfl); have k0 := A4.k.cell 0 _ rfl; have k1 := A4.k.cell 1 _ rfl; have hwr := HWR.out _ _ A4.m; have A4H := hide A4; clear hm4 ho4 hw A4))
          | (go_at_call 10; ((with_reducible refine hwr.mono ?_); rintro e w6 ⟨rfl, hm6, ho6⟩; have A6 := A4H.out.wiped hm6 ho6; have N6 := ho6.blk N4.out (.inr rfl); have n0 := N6.cell 0 _ rfl; have n1 := N6.cell 1 _ rfl; have c0 := A6.l.cell 0 _ rfl; have c1 := A6.l.cell 1 _ rfl; have f0 := A6.l.frozen 0; have f1 := A6.l.frozen 1; have A6H := hide A6; clear hm6 ho6 hwr A6 N6)))
        refine bodyPost_ret (v := .tuple #[.agg #[.int .i64 0, .int .u64 0], .int .i64 cv]) (by simp [results, Try.results11, go_sem, c0, c1, f0, f1]) rfl ⟨rfl, A6H.out.fin _ _⟩
    · rw [if_neg h1]
      have hcb : (cw == 0) = false := by rw [beq_eq_false_iff_ne]; exact h1
      go_enter Try.func11, Try.ntmps11
      go_wp2_with (first
      | (go_at_call 13; ((with_reducible refine hread.mono ?_); rintro e w2 ⟨rfl, hb2⟩; have A2 := aft_read (s := 2) (c := c) B0.out L1.out hb2; have hw := HW.out _ _ A2.m; have k0 := A2.k.cell 0 _ rfl; have k1 := A2.k.cell 1 _ rfl; have A2H := hide A2; clear hb2 hread A2))
      | (go_at_call 23; ((with_reducible refine hw.mono ?_); rintro e w4 ⟨rfl, hm4, ho4⟩; have A4 := A2H.out.wiped hm4 ho4; have k0 := A4.k.cell 0 _ rfl; have k1 := A4.k.cell 1 _ rfl; have c0 := A4.l.cell 0 _ rfl; have c1 := A4.l.cell 1 _ rfl; have f0 := A4.l.frozen 0; have f1 := A4.l.frozen 1; have A4H := hide A4; clear hm4 ho4 hw A4)))
      refine bodyPost_ret (v := .tuple #[.agg #[.int .i64 0, .int .u64 0], .int .i64 cw]) (by simp [results, Try.results11, go_sem, c0, c1, f0, f1]) rfl ⟨rfl, A4H.out.fin _ _⟩
end
end Go.Proofs.Ytlplibgcfhamgaa
