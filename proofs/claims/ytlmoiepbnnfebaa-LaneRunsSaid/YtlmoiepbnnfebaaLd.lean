/-
  A lane on a disk that is told: what a call does leaves the other regions; a lane that is wholly sure is opened with its disk left as it was.
-/
import Derived.Test.YtlmoiepbnnfebaaBox
namespace Go.Proofs.Ytlmoiepbnnfebaa
open Go.RowKit
set_option maxRecDepth 20000
set_option linter.unusedSimpArgs false
set_option linter.unusedVariables false

/-- A lane that lives, on this disk. -/
def LiveD (w : World) (X : Nat → Prop) (dg : Nat) (d : Ds) (g r n k gen : Nat) (up : Bool) (all : List Rc) (s : Nat) : Prop :=
  ∃ l kv gr, LnAt w X dg d g l kv ∧ DIs d r gr k ∧ Lv gr n l all s ∧ l.r = r ∧ d.size = n ∧ l.gen = gen ∧ (up = true → gr.armed = false)
/-- The other regions are as they were. -/
def Apart (d d' : Ds) (r : Nat) : Prop := d'.size = d.size ∧ ∀ q, q ≠ r → d'.regs[q]? = d.regs[q]?
theorem Apart.refl (d : Ds) (r : Nat) : Apart d d r := ⟨rfl, fun _ _ => rfl⟩
theorem Apart.trans {a b c : Ds} {r : Nat} (h : Apart a b r) (k : Apart b c r) : Apart a c r := ⟨k.1.trans h.1, fun q hq => (k.2 q hq).trans (h.2 q hq)⟩
theorem Next.apart {d d' : Ds} {r k : Nat} {g : Rg} (h : Next d r g k d') : Apart d d' r := ⟨h.same, fun q hq => by rw [h.regs, List.getElem?_set_ne (Ne.symm hq)]⟩
section
variable {w w' : World} {X Y : Nat → Prop} {dg g r n k k' gen s : Nat} {d : Ds} {up : Bool} {all : List Rc} {other : Option (List Rc)}
theorem Live.told (h : Live w X dg g r n k gen up all s) : ∃ d, LiveD w X dg d g r n k gen up all s := h
theorem LiveD.live (h : LiveD w X dg d g r n k gen up all s) : Live w X dg g r n k gen up all s := ⟨d, h⟩
theorem LiveD.more (h : LiveD w X dg d g r n k gen up all s) (hb : Below w.heap.size w w') (hY : ∀ k, Y k → X k ∨ (w.heap.size ≤ k ∧ k < w'.heap.size)) : LiveD w' Y dg d g r n k gen up all s := by
  obtain ⟨l, kv, gr, h1, h2⟩ := h
  exact ⟨l, kv, gr, h1.more hb hY, h2⟩
theorem LiveD.below (h : LiveD w X dg d g r n k gen up all s) (hb : Below w.heap.size w w') : LiveD w' X dg d g r n k gen up all s := h.more hb (fun _ hk => .inl hk)
theorem LiveD.upto (h : LiveD w X dg d g r n k gen up all s) (hk : k ≤ k') : LiveD w X dg d g r n k' gen up all s := by
  obtain ⟨l, kv, gr, h1, h2, h3⟩ := h
  exact ⟨l, kv, gr, h1, h2.more hk, h3⟩
/-- Behind a crash, on this disk. -/
def CrdD (w : World) (X : Nat → Prop) (dg : Nat) (d : Ds) (r n k gen : Nat) (all : List Rc) (s : Nat) (other : Option (List Rc)) : Prop :=
  ∃ gr, Many w X [(dg, d)] ∧ DIs d r gr k ∧ r < 64 ∧ gr.armed = false ∧ d.size = n ∧ (∀ q ∈ all, q.Ok) ∧ s ≤ all.length ∧ CrW gr n r gen all s other
theorem CrdD.below (h : CrdD w X dg d r n k gen all s other) (hb : Below w.heap.size w w') : CrdD w' X dg d r n k gen all s other := by
  obtain ⟨gr, h1, h2⟩ := h
  exact ⟨gr, h1.below hb, h2⟩
/-- New, on a region that was never written. -/
theorem ld_new (h : Many w X [(dg, d)]) (hr : r < 64) (hd : DIs d r (Rg.new n) k) (hdn : d.size = n) (hk : k ≤ 400000) :
    Calls Try.prog 15 #[ptr dg, .int .i64 (r : Int)] w fun e w' => ∃ g d', e = .returned (.tuple #[ptr g, .int .i64 0]) ∧ Apart d d' r ∧ LiveD w' X dg d' g r n (k + 700) 1 true [checkR] 1 ∧ Out X w w' := by
  have hsz := hd.size
  have hup := anewR_up (l := ln0 r) (F := frsR [checkR]) (g := Rg.new n) rfl rfl
  refine (new_ln h hr hd (by omega) hup.1).mono ?_
  rintro e w' ⟨g, d', kv', rfl, hnx, hln, ho⟩
  refine ⟨g, d', rfl, hnx.apart, ⟨_, kv', _, hln, hnx.is, (new_pre (by omega) hr).lv (fun q hq => by rw [List.mem_singleton] at hq; subst hq; exact checkR_ok) hup.1, rfl, hnx.same.trans hdn, rfl, fun _ => hup.2⟩, ho⟩
theorem ld_append {q : Rc} {A2 : Option Addr} {c2 : Nat} (h : LiveD w X dg d g r n k gen up all s) (hq : q.Ok) (hr : Rd w (.slice A2 q.ds.length c2) (u64s q.ds)) (hl : (frsR all).length + q.frame.length ≤ 14336) :
    Calls Try.prog 17 #[ptr g, .agg #[.int .i64 (q.k : Int), .int .i64 (q.t : Int), .int .i64 (q.p : Int), .int .i64 (q.s : Int), .string q.b, .string q.a, .string q.i, .slice A2 q.ds.length c2]] w fun e w' => e = .returned (.tuple #[.int .u64 ((gen * 1048576 + (frsR all).length + 1 : Nat) : Int), .int .i64 0]) ∧ LiveD w' X dg d g r n k gen up (all ++ [q]) s ∧ Out X w w' := by
  obtain ⟨l, kv, gr, h1, h2, h3, h4, h5, h6, h7⟩ := h
  have hc : frCode [q] (14336 - l.len) = 0 := fr_code (fun x hx => by rw [List.mem_singleton] at hx; subst hx; exact hq) (by rw [frsR_one, h3.len]; omega)
  refine (append_ln h1 h3.lf hr hq.u hc).mono ?_
  rintro e w' ⟨_, hy⟩
  obtain ⟨rfl, kv', hln, ho⟩ := hy rfl
  rw [h3.len, h6]
  exact ⟨rfl, ⟨_, kv', gr, hln, h2, h3.append hq hl, h4, h5, h6, h7⟩, ho⟩
theorem ld_flush (h : LiveD w X dg d g r n k gen true all s) (hk : k ≤ 400000) : Calls Try.prog 20 #[ptr g] w fun e w' => ∃ d', e = .returned (.int .i64 0) ∧ Apart d d' r ∧ LiveD w' X dg d' g r n (k + 301) gen true all all.length ∧ Out X w w' := by
  obtain ⟨l, kv, gr, h1, h2, h3, h4, h5, h6, h7⟩ := h
  by_cases he : l.sure = l.kept.length
  · refine (flush_none (gr := gr) (k := k) h1 he).mono ?_
    rintro e w' ⟨rfl, hb⟩
    have hs := all_sure h3 he
    exact ⟨d, rfl, Apart.refl _ _, ⟨l, kv, gr, h1.below hb, h2.more (by omega), by rw [← hs]; exact h3, h4, h5, h6, h7⟩, Out.of_below hb⟩
  · subst h4
    refine (flush_ln h1 h3.lf h2 (by omega) he).mono ?_
    rintro e w' ⟨v, rfl, rfl, d', kv', hnx, hln, ho⟩
    rw [hard_r] at hnx
    have hok := (run_up (flushD l) gr (h7 rfl)).1
    rw [hok] at hln ⊢
    exact ⟨d', rfl, hnx.apart, ⟨l.hard, kv', _, hln, hnx.is, h3.flushed hok, rfl, hnx.same.trans h5, h6, fun hu => (run_up _ _ (h7 hu)).2⟩, ho⟩
/-- What a crash of the disk makes of it, all of it being sure. -/
theorem LiveD.crashed {m : Nat → Bool} (h : LiveD w X dg d g r n k gen up all s) (hm : Many w' Y [(dg, d.crash m)]) : CrdD w' Y dg (d.crash m) r n k gen (all.take s) s none := by
  obtain ⟨l, kv, gr, h1, h2, h3, h4, h5, h6, h7⟩ := h
  subst h4
  subst h6
  obtain ⟨hc, hu⟩ := h3.cr2 m
  exact ⟨_, hm, h2.crash _, h3.lf.r, hu, h5, fun q hq => h3.ok q (List.mem_of_mem_take hq), by rw [List.length_take]; have := h3.sle; omega, hc⟩
/-- Open, all of it being sure. -/
theorem ld_open (h : CrdD w X dg d r n k gen all all.length none) (hk : k ≤ 400000) : Calls Try.prog 23 #[ptr dg, .int .i64 (r : Int)] w fun e w' => ∃ (g : Nat) (v : Value) (E : Nat → Prop) (d' : Ds), e = .returned (.tuple #[ptr g, v, .int .i64 0]) ∧
    Apart d d' r ∧ LiveD w' (fun k => X k ∨ E k) dg d' g r n (k + 700) gen true all all.length ∧ EntsAt w' E v gen all ∧ (∀ k, E k → w.heap.size ≤ k) ∧ Out X w w' := by
  obtain ⟨gr, hm, hd, hr, hup, hdn, hok, hsl, hcr⟩ := h
  obtain ⟨bank, hc⟩ : ∃ bank, Cr gr n r bank gen (frsR (all.take all.length)) (frsR all) := by
    rcases hcr with h1 | ⟨_, _, h1, _⟩
    · exact h1
    · cases h1
  have hsecs : gr.secs = gr.base := by unfold Rg.secs; rw [hc.quiet]; rfl
  have hb1 := hc.head
  rw [← hsecs] at hb1
  have hgn := gn_head ⟨r, bank, gen, 0, [], 0, false⟩ hc.gen1.2
  have hsn := sN_head ⟨r, bank, gen, 0, [], 0, false⟩ hc.bnk
  refine (open_ln hm hr hd (by omega) hb1 (by rw [hgn]; have := hc.gen1.1; show gen ≠ 0; omega) (by rw [hgn]; exact hc.gen1.2) (by rw [hsn]; exact hc.bnk)).mono ?_
  rintro e w' ⟨rs, rest, h1, h2, h3, h4⟩
  rw [hgn, hsn] at h2 h4
  dsimp only at h2 h4
  obtain ⟨b, j, hb, _, _, hj1, hj2, hj3, hj4, hj5, hj6⟩ := hc.opened hr hok hsl hup h1 h2 h3
  rw [hb1] at hb
  obtain rfl := Option.some.inj hb
  rw [hj4] at h4
  obtain ⟨g, d', kv', v, E, rfl, hE, hnx, hln, hes, ho⟩ := h4
  rw [hgn] at hes
  dsimp only at hes
  obtain rfl : j = all.length := by omega
  rw [List.take_length] at hj3 hj6
  have hg' : (openL r (pad (headRaw ⟨r, bank, gen, 0, [], 0, false⟩)) (strm gen (bankOf gr.secs bank)) (frsR rs).length).gen = gen := hgn
  exact ⟨g, v, E, d', rfl, hnx.apart, ⟨_, kv', _, hln, hnx.is, hj6, rfl, hnx.same.trans hdn, hg', fun _ => hj5⟩, by rw [← hj3]; exact hes, hE, ho⟩
/-- What is wholly sure needs no mending. -/
theorem Lv.reopened {gr : Rg} {l : Ln} (h : Lv gr n l all all.length) (hup : gr.armed = false) :
    strm l.gen (bankOf gr.secs l.bank) = frsR all ∧ openB l.r (pad (headRaw l)) (frsR all) (frsR all).length gr = (gr, true) := by
  have hsecs : gr.secs = gr.base := by unfold Rg.secs; rw [h.quiet]; rfl
  have hh : Holds l.gen (bankOf gr.base l.bank) (frsR all) := by have := h.holds; rwa [List.take_length] at this
  have hBl : (bankOf gr.base l.bank).length = 256 := bankOf_length _ _ h.lf.bank (by rw [h.fit.size]; exact h.size)
  have hl := h.lf.len
  rw [h.len] at hl
  have hgl := h.lf.gen
  have hst := (hh.good (by omega) (by rw [hBl]; omega)).1
  rw [hsecs]
  refine ⟨hst, ?_⟩
  obtain ⟨e, he⟩ : ∃ e, (frsR all).length = e := ⟨_, rfl⟩
  rw [he] at hl ⊢
  unfold openB
  rw [he, decide_eq_false (Nat.lt_irrefl e)]
  obtain ⟨lo, hlo⟩ : ∃ lo, openL l.r (pad (headRaw l)) (frsR all) e = lo := ⟨_, rfl⟩
  have hgen : lo.gen = l.gen := by rw [← hlo]; exact gn_head l h.lf.gen
  have hbank : lo.bank = l.bank := by rw [← hlo]; exact sN_head l h.lf.bank
  have hfirst : lo.first = e / 56 := by rw [← hlo]; rfl
  have hkl : lo.kept.length = e - e / 56 * 56 := by rw [← hlo]; exact openL_len _ _ _ _ (by rw [he]; exact Nat.le_refl _)
  have hns : lo.nsec = (e - e / 56 * 56 + 55) / 56 := by unfold Ln.nsec; rw [hkl]
  rw [hlo, mend_yes (l := lo) (cut := false) (gr := gr) (g1 := gr) rfl]
  have hcl : cleanD lo gr.secs (lo.first + lo.nsec) = [] := by
    unfold cleanD
    rw [List.map_eq_nil_iff, List.filter_eq_nil_iff]
    intro i hi
    rw [List.mem_range'_1] at hi
    have hi1 : i < 256 := by omega
    have hge : e ≤ 56 * i := by omega
    have hg := bankOf_get gr.base lo i hi1
    rw [hbank] at hg
    obtain ⟨s, hs⟩ : ∃ s, (bankOf gr.base l.bank)[i]? = some s := ⟨_, List.getElem?_eq_getElem (by omega)⟩
    have h1 := hh i s hs
    rw [he, if_neg (by omega)] at h1
    rw [hs] at hg
    rw [hsecs, List.getD_eq_getElem?_getD, ← hg, hgen, decide_eq_true_eq]
    exact h1
  rw [hcl, List.nil_append, run_cons]
  have hdn : gr.down = false := by unfold Rg.down; rw [hup]; rfl
  rw [hdn]
  have hq := h.quiet
  have : gr.barrier = gr := by
    unfold Rg.barrier
    rw [hsecs]
    cases gr
    simp only at hq
    subst hq
    rfl
  show (gr.barrier.run []) = _
  rw [this]
  rfl
/-- It is opened beside the old one, which lives on. -/
theorem ld_reopen (h : LiveD w X dg d g r n k gen true all all.length) (hk : k ≤ 400000) : Calls Try.prog 23 #[ptr dg, .int .i64 (r : Int)] w fun e w' => ∃ (g' : Nat) (v : Value) (E : Nat → Prop) (d' : Ds), e = .returned (.tuple #[ptr g', v, .int .i64 0]) ∧
    LiveD w' X dg d' g r n (k + 700) gen true all all.length ∧ EntsAt w' E v gen all ∧ Out X w w' := by
  obtain ⟨l, kv, gr, h1, h2, h3, h4, h5, h6, h7⟩ := h
  subst h4
  subst h6
  have hup := h7 rfl
  obtain ⟨hst, hob⟩ := h3.reopened hup
  have hsecs : gr.secs = gr.base := by unfold Rg.secs; rw [h3.quiet]; rfl
  have hb1 := h3.head
  rw [← hsecs] at hb1
  have hgn := gn_head l h3.lf.gen
  have hsn := sN_head l h3.lf.bank
  have hg1 := h3.gen1
  refine (open_ln h1.many h3.lf.r h2 (by omega) hb1 (by rw [hgn]; omega) (by rw [hgn]; exact h3.lf.gen) (by rw [hsn]; exact h3.lf.bank)).mono ?_
  rintro e w' ⟨rs, rest, ha, hb, hc, hd⟩
  rw [hgn, hsn, hst] at hb hd
  have hrs : rs = all := by
    obtain ⟨j, hj1, hj2, hj3⟩ := ents_prefix rs all _ rest ha h3.ok (List.prefix_refl _) hb hc
    have := hj3 all.length (Nat.le_refl _) (by rw [List.take_length]; exact Nat.le_refl _)
    rw [hj2, List.take_of_length_le this]
  subst hrs
  rw [hob] at hd
  obtain ⟨g', d', kv', v, E, rfl, hE, hnx, hln, hes, ho⟩ := hd
  rw [hob] at hnx
  rw [hgn] at hes
  refine ⟨g', v, E, d', rfl, ⟨l, kv, gr, ?_, hnx.is, h3, rfl, hnx.same.trans h5, rfl, h7⟩, hes, ho.less (fun k hk => .inl hk)⟩
  exact ⟨hln.many.more (Below.refl _ _) (fun k hk => .inl (.inl (.inl hk))), h1.xg, h1.xk, ho.blk h1.blk (.inr (.inl rfl)), h1.kept.out ho (fun k hk => .inr (.inr hk))⟩
end
section
variable {w w' : World} {X Y : Nat → Prop} {dg g n k k' gen s : Nat} {d : Ds} {up : Bool} {all : List Rc}
theorem ld_reopen0 (h : LiveD w X dg d g 0 n k gen true all all.length) (hk : k ≤ 400000) : Calls Try.prog 23 #[.pointer (some ⟨dg, 0, none⟩), .int .i64 0] w fun e w' => ∃ (g' : Nat) (v : Value) (E : Nat → Prop) (d' : Ds), e = .returned (.tuple #[.pointer (some ⟨g', 0, none⟩), v, .int .i64 0]) ∧
    LiveD w' X dg d' g 0 n (k + 700) gen true all all.length ∧ EntsAt w' E v gen all ∧ Out X w w' := ld_reopen (r := 0) h hk
theorem ld_open0 (h : CrdD w X dg d 0 n k gen all all.length none) (hk : k ≤ 400000) : Calls Try.prog 23 #[.pointer (some ⟨dg, 0, none⟩), .int .i64 0] w fun e w' => ∃ (g : Nat) (v : Value) (E : Nat → Prop) (d' : Ds), e = .returned (.tuple #[.pointer (some ⟨g, 0, none⟩), v, .int .i64 0]) ∧
    Apart d d' 0 ∧ LiveD w' (fun k => X k ∨ E k) dg d' g 0 n (k + 700) gen true all all.length ∧ EntsAt w' E v gen all ∧ (∀ k, E k → w.heap.size ≤ k) ∧ Out X w w' := ld_open (r := 0) h hk
theorem ld_new0 (h : Many w X [(dg, d)]) (hd : DIs d 0 (Rg.new n) k) (hdn : d.size = n) (hk : k ≤ 400000) :
    Calls Try.prog 15 #[.pointer (some ⟨dg, 0, none⟩), .int .i64 0] w fun e w' => ∃ g d', e = .returned (.tuple #[.pointer (some ⟨g, 0, none⟩), .int .i64 0]) ∧ Apart d d' 0 ∧ LiveD w' X dg d' g 0 n (k + 700) 1 true [checkR] 1 ∧ Out X w w' := ld_new (r := 0) h (by omega) hd hdn hk
theorem ld_reopen1 (h : LiveD w X dg d g 1 n k gen true all all.length) (hk : k ≤ 400000) : Calls Try.prog 23 #[.pointer (some ⟨dg, 0, none⟩), .int .i64 1] w fun e w' => ∃ (g' : Nat) (v : Value) (E : Nat → Prop) (d' : Ds), e = .returned (.tuple #[.pointer (some ⟨g', 0, none⟩), v, .int .i64 0]) ∧
    LiveD w' X dg d' g 1 n (k + 700) gen true all all.length ∧ EntsAt w' E v gen all ∧ Out X w w' := ld_reopen (r := 1) h hk
theorem ld_open1 (h : CrdD w X dg d 1 n k gen all all.length none) (hk : k ≤ 400000) : Calls Try.prog 23 #[.pointer (some ⟨dg, 0, none⟩), .int .i64 1] w fun e w' => ∃ (g : Nat) (v : Value) (E : Nat → Prop) (d' : Ds), e = .returned (.tuple #[.pointer (some ⟨g, 0, none⟩), v, .int .i64 0]) ∧
    Apart d d' 1 ∧ LiveD w' (fun k => X k ∨ E k) dg d' g 1 n (k + 700) gen true all all.length ∧ EntsAt w' E v gen all ∧ (∀ k, E k → w.heap.size ≤ k) ∧ Out X w w' := ld_open (r := 1) h hk
theorem ld_new1 (h : Many w X [(dg, d)]) (hd : DIs d 1 (Rg.new n) k) (hdn : d.size = n) (hk : k ≤ 400000) :
    Calls Try.prog 15 #[.pointer (some ⟨dg, 0, none⟩), .int .i64 1] w fun e w' => ∃ g d', e = .returned (.tuple #[.pointer (some ⟨g, 0, none⟩), .int .i64 0]) ∧ Apart d d' 1 ∧ LiveD w' X dg d' g 1 n (k + 700) 1 true [checkR] 1 ∧ Out X w w' := ld_new (r := 1) h (by omega) hd hdn hk
end
end Go.Proofs.Ytlmoiepbnnfebaa
