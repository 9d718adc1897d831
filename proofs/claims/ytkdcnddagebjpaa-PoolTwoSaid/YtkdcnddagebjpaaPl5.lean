/-
  A lane laid anew, or opened, and a pool beside it: what stands behind the lane's sectors is as it was.
-/
import Derived.Test.YtkdcnddagebjpaaPl4
namespace Go.Proofs.Ytkdcnddagebjpaa
open Go.RowKit
set_option maxRecDepth 20000
set_option linter.unusedSimpArgs false
set_option linter.unusedVariables false

theorem waits_any {w : World} {lab : Nat → Nat} {g : Nat} {d : Ds} (h : DkAt w lab g d) (r : Int) : Calls Try.prog 28 #[ptr g, .int .i64 r] w fun e w' => e = .returned (.int .i64 (d.waits r : Int)) ∧ w = w' := by
  obtain ⟨_, _, _, g2, cs, _, hb, hb2, hcs, hall⟩ := id h
  unfold Ds.waits
  cases hr : d.at? r with
  | none =>
    have hout := out_of hr
    simp only
    go_enter Try.func28, Try.ntmps28
    go_wp2_with (go_at_call 46; refine (region_out hb r hout).mono ?_; rintro e w1 ⟨rfl, rfl⟩)
    go_ret
    exact ⟨rfl, rfl⟩
  | some rg =>
    obtain ⟨i, rfl, hi, hri⟩ := at_some hr
    obtain ⟨sb, pv, c0, c1, c2, c3, _, _, hown, _, _⟩ := hall i rg hri
    obtain ⟨A, c, rfl⟩ := own_form_n hown
    have hc1 := hb2.cell _ _ c1
    simp only
    clear hown hall
    go_enter Try.func28, Try.ntmps28
    go_wp2_with (go_at_call 46; refine (region_some hb i hi).mono ?_; rintro e w1 ⟨rfl, rfl⟩)
    go_ret
    exact ⟨rfl, rfl⟩
theorem waits_quiet {w : World} {X : Nat → Prop} {dg : Nat} {d : Ds} {gr : Rg} {r k : Nat} (h : Many w X [(dg, d)]) (hd : DIs d r gr k) (hq : gr.ws = []) : Calls Try.prog 28 #[.pointer (some ⟨dg, 0, none⟩), .int .i64 (r : Int)] w fun e w' => e = .returned (.int .i64 0) ∧ w = w' := by
  obtain ⟨lab, hk⟩ := many_at (i := 0) h rfl
  refine (waits_any hk (r : Int)).mono ?_
  rintro e w' ⟨rfl, rfl⟩
  unfold Ds.waits
  rw [hd.at]
  show Ending.returned (.int .i64 ((gr.ws.length : Nat) : Int)) = _ ∧ _
  rw [hq]
  exact ⟨rfl, rfl⟩
section
variable {g : Rg} {n : Nat} {l : Ln}
theorem cleanD_off {S : List Sec} {m t : Nat} (hb : l.bank ≤ 1) (ht : 514 ≤ t) : ∀ o ∈ cleanD l S m, o.off t := by
  intro o ho
  cases o with
  | bar => trivial
  | w s b =>
    obtain ⟨i, _, hi, _, e⟩ := cleanD_mem (wsOf_of ho)
    injection e with e _
    show s ≠ t
    unfold Ln.sec at e
    omega
theorem keptD_off {t : Nat} (hb : l.bank ≤ 1) (hl : l.len ≤ 14336) (ht : 514 ≤ t) : ∀ o ∈ keptD l, o.off t := by
  intro o ho
  cases o with
  | bar => trivial
  | w s b =>
    obtain ⟨i, hi, e⟩ := keptD_mem (wsOf_of ho)
    injection e with e _
    show s ≠ t
    unfold Ln.len at hl
    unfold Ln.nsec at hi
    unfold Ln.sec at e
    omega
/-- Anew turns nothing behind the lane's sectors. -/
theorem anew_behind {F : List UInt8} {t : Nat} (ha : l.astray = false) (hb : l.bank ≤ 1) (hF : F.length ≤ 14336) (ht : 514 ≤ t) : (anewR l F g).1.secs[t]? = g.secs[t]? := by
  rw [anewR_eq ha]
  refine run_secs _ _ (fun o ho => ?_)
  have hbn : (l.next F).bank ≤ 1 := by show 1 - l.bank ≤ 1; omega
  have hln : (l.next F).len ≤ 14336 := by show 0 * 56 + F.length ≤ 14336; omega
  unfold anewT at ho
  rcases List.mem_append.1 ho with h1 | h1
  · exact cleanD_off hbn ht o h1
  · rcases List.mem_append.1 h1 with h1 | h1
    · unfold hardD at h1
      rcases List.mem_append.1 h1 with h1 | h1
      · exact keptD_off hbn hln ht o h1
      · rw [List.mem_singleton] at h1; subst h1; trivial
    · rcases List.mem_append.1 h1 with h1 | h1
      · rw [List.mem_singleton] at h1
        subst h1
        show 1 ≠ t
        omega
      · rw [List.mem_singleton] at h1; subst h1; trivial
/-- So does Open. -/
theorem open_behind {r : Nat} {b : Sec} {st : List UInt8} {e t : Nat} (hr : r < 64) (h1 : sN b ≤ 1) (h2 : gn b ≤ 1000000) (he : e ≤ st.length) (hs : st.length ≤ 14336) (ht : 514 ≤ t) : (openB r b st e g).1.secs[t]? = g.secs[t]? := by
  have hf := openL_fit hr h1 h2 he hs
  unfold openB mendR
  have hm : ∀ o ∈ mendP (openL r b st e) (decide (e < st.length)), o.off t := by
    intro o ho
    unfold mendP at ho
    split at ho
    · exact keptD_off hf.bank hf.len ht o ho
    · cases ho
  split
  · rw [run_secs _ _ (fun o ho => ?_), run_secs _ _ hm]
    rcases List.mem_append.1 ho with h3 | h3
    · exact cleanD_off hf.bank ht o h3
    · rw [List.mem_singleton] at h3; subst h3; trivial
  · exact run_secs _ _ hm
end
/-- A lane alone, all of it up; B: what stands behind its sectors. -/
def LaneP (w : World) (X : Nat → Prop) (dg : Nat) (d : Ds) (g r k gen : Nat) (all : List Rc) (s : Nat) (B : List Sec) : Prop :=
  ∃ l kv gr, LnAt w X dg d g l kv ∧ DIs d r gr k ∧ Lv gr 538 l all s ∧ l.r = r ∧ d.size = 538 ∧ l.gen = gen ∧ gr.armed = false ∧ ∀ t, 514 ≤ t → gr.base[t]? = B[t]?
section
variable {w w' : World} {X Y : Nat → Prop} {dg : Nat} {d : Ds} {g q r k gen s : Nat} {all : List Rc} {P : Po} {D : Nat → Pg} {x : Option Nat} {B : List Sec}
theorem pgB_behind {S S' : List Sec} (h : ∀ t, 514 ≤ t → S'[t]? = S[t]?) (n : Nat) : pgB S' n 4 = pgB S n 4 :=
  pgB_like (fun j _ => by rw [List.getD_eq_getElem?_getD, List.getD_eq_getElem?_getD, h _ (by omega)]) 4 (Nat.le_refl _)
/-- lane.New, on a region that was never written. -/
theorem start_lane (h : Many w X [(dg, d)]) (hr : r < 64) (hd : DIs d r (Rg.new 538) k) (hdn : d.size = 538) (hk : k ≤ 400000) :
    Calls Try.prog 10 #[.pointer (some ⟨dg, 0, none⟩), .int .i64 (r : Int)] w fun e w' => ∃ g d', e = .returned (.tuple #[.pointer (some ⟨g, 0, none⟩), .int .i64 0]) ∧ ApartP d d' r ∧ LaneP w' X dg d' g r (k + 700) 1 [checkR] 1 (Rg.new 538).base ∧ Out X w w' := by
  have hup := anewR_up (l := ln0 r) (F := frsR [checkR]) (g := Rg.new 538) rfl rfl
  refine (new_ln h hr hd (by omega) hup.1).mono ?_
  rintro e w' ⟨g, d', kv', rfl, hnx, hln, ho⟩
  have hlv := (new_pre (n := 538) (by omega) hr).lv (fun q hq => by rw [List.mem_singleton] at hq; subst hq; exact checkR_ok) hup.1
  refine ⟨g, d', rfl, hnx.apartP, ⟨_, kv', _, hln, hnx.is, hlv, rfl, hnx.same.trans hdn, rfl, hup.2, fun t ht => ?_⟩, ho⟩
  rw [← hlv.secs]
  exact anew_behind rfl (by show 1 ≤ 1; omega) (by rw [frsR_one, checkR_frame]; omega) ht
/-- pool.New. -/
theorem start_pool (h : LaneP w X dg d g r k gen all s B) (hD : ∀ m, m < 6 → DecP (pgB B m 4) r m (D m) 0 ∧ (D m).mark < lim gen (all.take s)) :
    Calls Try.prog 11 #[.pointer (some ⟨dg, 0, none⟩), .int .i64 (r : Int), .pointer (some ⟨g, 0, none⟩)] w fun e w' => ∃ q, e = .returned (.pointer (some ⟨q, 0, none⟩)) ∧ PoolT w' X dg d g q r k gen all s (Po.new r) D none ∧ Below w.heap.size w w' := by
  obtain ⟨l, kv, gr, h1, h2, h3, h4, h5, h6, h7, h8⟩ := h
  refine (pool_new h1 r).mono ?_
  rintro e w' ⟨q, rfl, hp, hb⟩
  refine ⟨q, rfl, ⟨l, kv, gr, hp, h2, h3, h4, rfl, h5, h6, h7, ⟨by show 0 < 3; omega, fun m hm => ?_, fun i hi hp => absurd rfl hp, fun i hi _ => rfl, fun i j hi hj hp => absurd rfl hp, fun i hi hp => absurd rfl hp⟩⟩, hb⟩
  rw [pgB_behind h8]
  exact hD m hm
/-- The pages of a region that was never written. -/
theorem zero_pages (r m : Nat) (hm : m < 6) (hi : Nat) (h : 0 < hi) : DecP (pgB (Rg.new 538).base m 4) r m (pTN r m) 0 ∧ (pTN r m).mark < hi := by
  refine ⟨?_, h⟩
  show DecP (pgB (List.replicate 538 zsec) m 4) r m (pTN r m) 0
  rw [pgB_new m 538 hm (by omega)]
  exact DecP.zeros r m
theorem lim_pos (gen : Nat) (F : List Rc) : 0 < lim gen F := by unfold lim; omega
/-- Behind a crash of the disk, of whatever lane and pool were there. -/
theorem PoolT.crashed (h : PoolT w X dg d g q r k gen all s P D x) (hk : k ≤ 900000) (mask : Nat) : Calls Try.prog 16 #[.pointer (some ⟨dg, 0, none⟩), .int .u64 (mask : Int)] w fun e w' => e = .returned (.tuple #[]) ∧ ∃ d', Out X w w' ∧ d'.size = 538 ∧ Many w' X [(dg, d')] ∧ ∃ gr bank, DIs d' r gr k ∧ gr.armed = false ∧ Cr gr 538 r bank gen (frsR ((all.take s).take s)) (frsR (all.take s)) ∧ ∀ m, m < 6 → DecP (pgB gr.base m 4) r m (D m) 0 ∧ (D m).mark < lim gen (all.take s) := by
  obtain ⟨l, kv, gr, h1, h2, h3, h4, h5, h6, h7, h8, h9⟩ := h
  subst h4
  subst h7
  refine (crash_many (i := 0) h1.ln.many rfl (h2.small.more (by omega)) mask).mono ?_
  rintro e w' ⟨rfl, hm', ho⟩
  obtain ⟨hc, hu⟩ := h3.cr2 (bitOf mask)
  have hb : (gr.crash (bitOf mask)).base = gr.base := by unfold Rg.crash; rw [h3.quiet]; rfl
  rcases hc with ⟨bank, hc⟩ | ⟨_, _, hc, _⟩
  · have hm2 : Many w' X [(dg, d.crash (bitOf mask))] := Many.more hm' (Below.refl _ _) (fun k hk => .inl (.inl (.inl hk)))
    exact ⟨rfl, d.crash (bitOf mask), ho.less (fun k hk => .inl (.inl hk)), h6, hm2, _, bank, h2.crash _, hu, hc, fun m hm => by rw [hb]; exact h9.on m hm⟩
  · cases hc
/-- Open, behind that. -/
theorem open_lane {gr : Rg} {bank : Nat} (hm : Many w X [(dg, d)]) (hr : r < 64) (hd : DIs d r gr k) (hk : k ≤ 400000) (hdn : d.size = 538) (hup : gr.armed = false) (hok : ∀ q ∈ all, q.Ok) (hsl : s ≤ all.length) (hc : Cr gr 538 r bank gen (frsR (all.take s)) (frsR all)) :
    Calls Try.prog 17 #[.pointer (some ⟨dg, 0, none⟩), .int .i64 (r : Int)] w fun e w' => ∃ (g : Nat) (v : Value) (E : Nat → Prop) (j : Nat) (d' : Ds), e = .returned (.tuple #[.pointer (some ⟨g, 0, none⟩), v, .int .i64 0]) ∧ s ≤ j ∧ j ≤ all.length ∧ ApartP d d' r ∧ LaneP w' X dg d' g r (k + 700) gen (all.take j) j gr.base ∧ Out X w w' := by
  have hsecs : gr.secs = gr.base := by unfold Rg.secs; rw [hc.quiet]; rfl
  have hb1 := hc.head
  rw [← hsecs] at hb1
  have hgn := gn_head ⟨r, bank, gen, 0, [], 0, false⟩ hc.gen1.2
  have hsn := sN_head ⟨r, bank, gen, 0, [], 0, false⟩ hc.bnk
  refine (open_ln hm hr hd (by omega) hb1 (by rw [hgn]; have := hc.gen1.1; show gen ≠ 0; omega) (by rw [hgn]; exact hc.gen1.2) (by rw [hsn]; exact hc.bnk)).mono ?_
  rintro e w' ⟨rs, rest, h1, h2, h3, h4⟩
  rw [hgn, hsn] at h2 h4
  dsimp only at h2 h4
  obtain ⟨b, j, hb, _, _, hj1, hj2, hj3, hj4, hj5, hj6⟩ := hc.opened hr hok hsl hup h1 h2 h3
  rw [hb1] at hb
  obtain rfl := Option.some.inj hb
  rw [hj4] at h4
  obtain ⟨g, d', kv', v, E, rfl, hE, hnx, hln, hes, ho⟩ := h4
  have hg' : (openL r (pad (headRaw ⟨r, bank, gen, 0, [], 0, false⟩)) (strm gen (bankOf gr.secs bank)) (frsR rs).length).gen = gen := hgn
  have hBl : (bankOf gr.base bank).length = 256 := bankOf_length _ _ hc.bnk (by rw [hc.fit.size]; exact hc.size)
  refine ⟨g, v, E, j, d', rfl, hj1, hj2, hnx.apartP, ⟨_, kv', _, hln.sub (fun k hk => .inl hk), hnx.is, hj6, rfl, hnx.same.trans hdn, hg', hj5, fun t ht => ?_⟩, ho⟩
  have hsl2 : (strm gen (bankOf gr.secs bank)).length ≤ 14336 := by
    have := strm_le gen (bankOf gr.secs bank)
    rw [hsecs, hBl] at this
    rw [hsecs]
    omega
  have := open_behind (g := gr) (r := r) (b := pad (headRaw ⟨r, bank, gen, 0, [], 0, false⟩)) (st := strm gen (bankOf gr.secs bank)) (e := (frsR rs).length) hr (by rw [hsn]; exact hc.bnk) (by rw [hgn]; exact hc.gen1.2) (by rw [h2, List.length_append]; omega) hsl2 ht
  rw [hj6.secs] at this
  exact this.trans (by rw [hsecs])
end
end Go.Proofs.Ytkdcnddagebjpaa
