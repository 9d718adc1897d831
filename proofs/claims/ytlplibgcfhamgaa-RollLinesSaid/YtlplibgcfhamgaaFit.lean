/-
  What stage 7's statements lean on, part 6 of 6 (put together by merge.py).
-/
import Derived.Test.YtlplibgcfhamgaaB5
namespace Go.Proofs.Ytlplibgcfhamgaa
set_option linter.unusedSimpArgs false
set_option linter.unusedVariables false
section
/- Anew and New, as what they make of a lane on its disk (plain data). -/
open Go.RowKit
set_option maxRecDepth 20000
set_option linter.unusedSimpArgs false
set_option linter.unusedVariables false

/-- What Anew starts from. -/
structure Pre (g : Rg) (n : Nat) (l : Ln) (F : List UInt8) : Prop where
  fit : g.Fit n
  size : 514 ≤ n
  quiet : g.ws = []
  lf : l.Fit
  ast : l.astray = false
  gen1 : l.gen + 1 ≤ 1000000
  len : F.length ≤ 14336
def anewA (l : Ln) (F : List UInt8) (S : List Sec) : List Do := cleanD (l.next F) S ((l.next F).first + (l.next F).nsec) ++ keptD (l.next F)
theorem anewT_eq (l : Ln) (F : List UInt8) (S : List Sec) : anewT l F S = (anewA l F S ++ [.bar]) ++ ([headD (l.next F).hard] ++ [.bar]) := by
  unfold anewT anewA hardD
  simp only [List.append_assoc]
theorem anewR_eq {l : Ln} {F : List UInt8} {g : Rg} (h : l.astray = false) : anewR l F g = g.run (anewT l F g.secs) := by
  have : recallD l = [] := by unfold recallD; rw [h]; rfl
  exact anew_yes (by rw [this]; rfl)
theorem anewA_all (l : Ln) (F : List UInt8) (S : List Sec) : allW (anewA l F S) := by
  intro o ho
  rcases List.mem_append.1 ho with h1 | h1
  · exact cleanD_all _ _ _ o h1
  · exact keptD_all _ o h1
theorem next_nsec (l : Ln) (F : List UInt8) : (l.next F).nsec = (F.length + 55) / 56 := rfl
theorem anewA_mem {l : Ln} {F : List UInt8} {S : List Sec} {x : Nat × Sec} (hF : F.length ≤ 14336) (h : x ∈ wsOf (anewA l F S)) : ∃ i, i < 256 ∧ x.1 = (l.next F).sec i ∧ x.2.length = 64 := by
  unfold anewA at h
  rw [wsOf_append] at h
  rcases List.mem_append.1 h with h1 | h1
  · obtain ⟨i, _, hi, _, e⟩ := cleanD_mem h1
    exact ⟨i, hi, by rw [e], by rw [e]; rfl⟩
  · obtain ⟨i, hi, e⟩ := keptD_mem h1
    rw [next_nsec] at hi
    exact ⟨i, by omega, by rw [e]; show (l.next F).sec (0 + i) = _; rw [Nat.zero_add], by rw [e]; exact secOf_length _ _ (chunk_le _ _)⟩
section
variable {g : Rg} {n : Nat} {l : Ln} {F : List UInt8}
theorem Pre.fits (h : Pre g n l F) : ∀ o ∈ anewT l F g.secs, o.Fit n := by
  intro o ho
  have hn := h.size
  have hb := h.lf.bank
  rw [anewT_eq] at ho
  cases o with
  | bar => trivial
  | w s b =>
    rcases List.mem_append.1 ho with h1 | h1
    · rcases List.mem_append.1 h1 with h1 | h1
      · obtain ⟨i, hi, e1, e2⟩ := anewA_mem h.len (wsOf_of h1)
        refine ⟨?_, e2⟩
        dsimp only at e1
        rw [e1]
        unfold Ln.sec
        show 2 + (1 - l.bank) * 256 + i < n
        omega
      · rw [List.mem_singleton] at h1; cases h1
    · rcases List.mem_append.1 h1 with h1 | h1
      · rw [List.mem_singleton] at h1
        unfold headD at h1
        injection h1 with e1 e2
        refine ⟨by omega, ?_⟩
        rw [e2]
        exact pad_length _ (by simp [headRaw, be_length])
      · rw [List.mem_singleton] at h1; cases h1
/-- The bank that was laid. -/
theorem Pre.laid (h : Pre g n l F) : Holds (l.gen + 1) (bankOf (put g.base (wsOf (anewA l F g.secs))) (1 - l.bank)) F := by
  have hsecs : g.secs = g.base := by unfold Rg.secs; rw [h.quiet]; rfl
  have hl := h.len
  intro i x hx
  obtain ⟨hi, hx⟩ := bank_of (l := l.next F) hx
  have hil : (l.next F).sec i < g.base.length := by
    rw [h.fit.size]
    have := h.size
    have := h.lf.bank
    unfold Ln.sec
    show 2 + (1 - l.bank) * 256 + i < n
    omega
  unfold anewA at hx
  rw [wsOf_append] at hx
  have hns := next_nsec l F
  by_cases hin : 56 * i < F.length
  · rw [if_pos hin]
    have hm := keptD_of (l := l.next F) (i := i) (by rw [hns]; omega)
    rw [show (l.next F).first + i = i from Nat.zero_add i] at hm
    have := put_some (List.mem_append_right (wsOf (cleanD (l.next F) g.secs ((l.next F).first + (l.next F).nsec))) hm) (fun b' hb' => by
      rcases List.mem_append.1 hb' with h1 | h1
      · obtain ⟨j, hj, _, _, e⟩ := cleanD_mem h1
        injection e with e1 _
        have := sec_inj _ e1
        rw [show (l.next F).first = 0 from rfl, hns] at hj
        omega
      · obtain ⟨j, hj, e⟩ := keptD_mem h1
        injection e with e1 e2
        have := sec_inj _ e1
        rw [show (l.next F).first + j = j from Nat.zero_add j] at this
        rw [e2, this]) hil
    rw [this] at hx
    exact (Option.some.inj hx).symm
  · rw [if_neg hin]
    have hge : (l.next F).first + (l.next F).nsec ≤ i := by rw [show (l.next F).first = 0 from rfl, hns]; omega
    have hnoK : ∀ b, ((l.next F).sec i, b) ∉ wsOf (keptD (l.next F)) := by
      intro b hb'
      obtain ⟨j, hj, e⟩ := keptD_mem hb'
      injection e with e1 _
      have := sec_inj _ e1
      rw [show (l.next F).first + j = j from Nat.zero_add j] at this
      omega
    have hgd : g.secs.getD ((l.next F).sec i) zsec = g.base[(l.next F).sec i] := by rw [hsecs, List.getD_eq_getElem?_getD, List.getElem?_eq_getElem hil]; rfl
    by_cases hg : gn (g.base[(l.next F).sec i]) = l.gen + 1
    · have hm : ((l.next F).sec i, zsec) ∈ wsOf (cleanD (l.next F) g.secs ((l.next F).first + (l.next F).nsec)) := cleanD_of hge hi (by rw [hgd]; exact hg)
      have := put_some (List.mem_append_left (wsOf (keptD (l.next F))) hm) (fun b' hb' => by
        rcases List.mem_append.1 hb' with h1 | h1
        · obtain ⟨_, _, _, _, e⟩ := cleanD_mem h1
          injection e
        · exact absurd h1 (hnoK b')) hil
      rw [this] at hx
      rw [← Option.some.inj hx, gn_zsec]
      omega
    · rw [put_none] at hx
      · rw [List.getElem?_eq_getElem hil] at hx
        rw [← Option.some.inj hx]
        exact hg
      · intro b hb'
        rcases List.mem_append.1 hb' with h1 | h1
        · obtain ⟨j, _, _, hj, e⟩ := cleanD_mem h1
          injection e with e1 _
          have := sec_inj _ e1
          subst this
          rw [hgd] at hj
          exact hg hj
        · exact hnoK b h1
/-- All else is as it was. -/
theorem Pre.else_ (h : Pre g n l F) {i : Nat} (hi : ∀ j, j < 256 → i ≠ (l.next F).sec j) : (put g.base (wsOf (anewA l F g.secs)))[i]? = g.base[i]? :=
  put_none (fun b hb => by
    obtain ⟨j, hj, e, _⟩ := anewA_mem h.len hb
    exact hi j hj e)
/-- Anew, all well. -/
theorem Pre.done_ (h : Pre g n l F) (hok : (anewR l F g).2 = true) : (anewR l F g).1.Fit n ∧ (anewR l F g).1.ws = [] ∧ (anewR l F g).1.base[1]? = some (pad (headRaw (l.next F).hard)) ∧ Holds (l.gen + 1) (bankOf (anewR l F g).1.base (1 - l.bank)) F := by
  rw [anewR_eq h.ast] at hok ⊢
  have hfit := run_fit _ _ h.fit h.fits
  rw [anewT_eq] at hok hfit ⊢
  cases h1 : (g.run (anewA l F g.secs ++ [.bar])).2
  · rw [run_append, h1] at hok
    simp only [Bool.false_eq_true, if_false] at hok
    rw [h1] at hok
    cases hok
  · obtain ⟨hb1, hq1⟩ := (run_bar (anewA_all l F g.secs) h.quiet).1 h1
    have e : g.run (anewA l F g.secs ++ [.bar]) = ((g.run (anewA l F g.secs ++ [.bar])).1, true) := Prod.ext rfl h1
    rw [run_yes e] at hok hfit ⊢
    generalize (g.run (anewA l F g.secs ++ [.bar])).1 = g1 at *
    have hW : allW [headD (l.next F).hard] := by intro o ho; rw [List.mem_singleton] at ho; subst ho; intro e; cases e
    obtain ⟨hb2, hq2⟩ := (run_bar hW hq1).1 hok
    have hlen : g1.base.length = n := by rw [hb1, put_length]; exact h.fit.size
    have hn := h.size
    have hws : wsOf [headD (l.next F).hard] = [(1, pad (headRaw (l.next F).hard))] := rfl
    rw [hws] at hb2
    refine ⟨hfit, hq2, ?_, ?_⟩
    · rw [hb2]
      exact put_some (List.mem_singleton.2 rfl) (fun b' hb' => by rw [List.mem_singleton] at hb'; injection hb') (by omega)
    · have := h.laid
      rw [← hb1] at this
      intro i x hx
      refine this i x ?_
      obtain ⟨hi, hx⟩ := bank_of (l := l.next F) hx
      rw [hb2, put_none (fun b hb => by rw [List.mem_singleton] at hb; injection hb with e1 _; exact sec_ne1 _ _ e1)] at hx
      rw [show (1 - l.bank) = (l.next F).bank from rfl, bankOf_get _ _ _ hi]
      exact hx
/-- Anew, broken off; behind a crash: the old head and bank, or the new ones. -/
theorem Pre.broken (h : Pre g n l F) (hno : (anewR l F g).2 = false) (m : Nat → Bool) : ((anewR l F g).1.crash m).Fit n ∧
    ((((anewR l F g).1.crash m).base[1]? = g.base[1]? ∧ bankOf ((anewR l F g).1.crash m).base l.bank = bankOf g.base l.bank) ∨
     (((anewR l F g).1.crash m).base[1]? = some (pad (headRaw (l.next F).hard)) ∧ Holds (l.gen + 1) (bankOf ((anewR l F g).1.crash m).base (1 - l.bank)) F)) := by
  rw [anewR_eq h.ast] at hno ⊢
  have hfit := run_fit _ _ h.fit h.fits
  have hbk : l.bank ≠ (l.next F).bank := by have := h.lf.bank; show l.bank ≠ 1 - l.bank; omega
  refine ⟨hfit.crash m, ?_⟩
  rw [anewT_eq] at hno hfit ⊢
  have hbank : ∀ B B' : List Sec, (∀ i, i < 256 → B[l.sec i]? = B'[l.sec i]?) → B.length = B'.length → bankOf B l.bank = bankOf B' l.bank := by
    intro B B' hB hl
    apply List.ext_getElem?
    intro i
    by_cases hi : i < 256
    · rw [bankOf_get _ _ _ hi, bankOf_get _ _ _ hi, hB i hi]
    · unfold bankOf
      rw [List.getElem?_eq_none, List.getElem?_eq_none]
      · rw [List.length_take]; omega
      · rw [List.length_take]; omega
  cases h1 : (g.run (anewA l F g.secs ++ [.bar])).2
  · obtain ⟨hb1, hw1⟩ := (run_bar (anewA_all l F g.secs) h.quiet).2 h1
    have e : g.run (anewA l F g.secs ++ [.bar]) = ((g.run (anewA l F g.secs ++ [.bar])).1, false) := Prod.ext rfl h1
    rw [run_no e]
    generalize (g.run (anewA l F g.secs ++ [.bar])).1 = g1 at *
    have same : ∀ i, (∀ j, j < 256 → i ≠ (l.next F).sec j) → (g1.crash m).base[i]? = g.base[i]? := by
      intro i hi
      rcases crash_get (g := g1) m i with e | ⟨b, h2, _⟩
      · rw [e, hb1]
      · obtain ⟨j, hj, e, _⟩ := anewA_mem h.len (hw1 _ h2)
        exact absurd e (hi j hj)
    refine .inl ⟨same 1 (fun j _ e => sec_ne1 _ _ e.symm), hbank _ _ (fun i hi => same _ (fun j hj => sec_bank hi hj hbk)) ?_⟩
    rw [crash_len, hb1]
  · obtain ⟨hb1, hq1⟩ := (run_bar (anewA_all l F g.secs) h.quiet).1 h1
    have e : g.run (anewA l F g.secs ++ [.bar]) = ((g.run (anewA l F g.secs ++ [.bar])).1, true) := Prod.ext rfl h1
    rw [run_yes e] at hno hfit ⊢
    generalize (g.run (anewA l F g.secs ++ [.bar])).1 = g1 at *
    have hW : allW [headD (l.next F).hard] := by intro o ho; rw [List.mem_singleton] at ho; subst ho; intro e; cases e
    obtain ⟨hb2, hw2⟩ := (run_bar hW hq1).2 hno
    generalize (g1.run ([headD (l.next F).hard] ++ [.bar])).1 = g2 at *
    have hws : wsOf [headD (l.next F).hard] = [(1, pad (headRaw (l.next F).hard))] := rfl
    have same : ∀ i, i ≠ 1 → (g2.crash m).base[i]? = g1.base[i]? := by
      intro i hi
      rcases crash_get (g := g2) m i with e | ⟨b, h2, _⟩
      · rw [e, hb2]
      · have := hw2 _ h2
        rw [hws, List.mem_singleton] at this
        injection this with e1 _
        exact absurd e1 hi
    rcases crash_get (g := g2) m 1 with e | ⟨b, h2, h3⟩
    · refine .inl ⟨?_, hbank _ _ (fun i hi => ?_) ?_⟩
      · rw [e, hb2, hb1, h.else_ (fun j _ e => sec_ne1 _ _ e.symm)]
      · rw [same _ (sec_ne1 _ _), hb1, h.else_ (fun j hj => sec_bank hi hj hbk)]
      · rw [crash_len, hb2, hb1, put_length]
    · have := hw2 _ h2
      rw [hws, List.mem_singleton] at this
      injection this with _ e2
      refine .inr ⟨by rw [h3, e2], ?_⟩
      have hl := h.laid
      rw [← hb1] at hl
      intro i x hx
      refine hl i x ?_
      obtain ⟨hi, hx⟩ := bank_of (l := l.next F) hx
      rw [same _ (sec_ne1 _ _)] at hx
      rw [show (1 - l.bank) = (l.next F).bank from rfl, bankOf_get _ _ _ hi]
      exact hx
end
/-- What Anew leaves. -/
theorem Pre.lv {g : Rg} {n : Nat} {l : Ln} {rs : List Rc} (h : Pre g n l (frsR rs)) (hrs : ∀ r ∈ rs, r.Ok) (hok : (anewR l (frsR rs) g).2 = true) : Lv (anewR l (frsR rs) g).1 n (l.next (frsR rs)).hard rs rs.length := by
  obtain ⟨h1, h2, h3, h4⟩ := h.done_ hok
  have hl := h.len
  have hfk : (l.next (frsR rs)).full = (frsR rs).length / 56 := rfl
  refine ⟨h1, h.size, h2, (Next.to_fit h.lf hl h.gen1).hard, Nat.le_add_left 1 l.gen, rfl, h3, hrs, ⟨?_, ?_⟩, Nat.le_refl _, ⟨?_, ?_⟩, ?_⟩
  · show (frsR rs).drop ((0 + (l.next (frsR rs)).full) * 56) = (frsR rs).drop ((l.next (frsR rs)).full * 56)
    rw [Nat.zero_add]
  · show (0 + (l.next (frsR rs)).full) * 56 ≤ _
    rw [Nat.zero_add, hfk]
    exact Nat.div_mul_le_self _ 56
  · rw [List.take_length]
    show _ = (0 + (l.next (frsR rs)).full) * 56 + ((frsR rs).drop ((l.next (frsR rs)).full * 56)).length
    rw [Nat.zero_add, hfk, List.length_drop]
    have := Nat.div_mul_le_self (frsR rs).length 56
    omega
  · show ((frsR rs).drop ((l.next (frsR rs)).full * 56)).length < 56
    rw [hfk, List.length_drop]
    omega
  · rw [List.take_length]
    exact h4
theorem Lv.pre_ {g : Rg} {n : Nat} {l : Ln} {all : List Rc} {s : Nat} (h : Lv g n l all s) (hg : l.gen + 1 ≤ 1000000) {F : List UInt8} (hF : F.length ≤ 14336) : Pre g n l F := ⟨h.fit, h.size, h.quiet, h.lf, h.ast, hg, hF⟩
theorem Lv.anewed {g : Rg} {n : Nat} {l : Ln} {all rs : List Rc} {s : Nat} (h : Lv g n l all s) (hg : l.gen + 1 ≤ 1000000) (hF : (frsR rs).length ≤ 14336) (hrs : ∀ r ∈ rs, r.Ok) (hok : (anewR l (frsR rs) g).2 = true) : Lv (anewR l (frsR rs) g).1 n (l.next (frsR rs)).hard rs rs.length :=
  (h.pre_ hg hF).lv hrs hok
theorem Lv.unanewed {g : Rg} {n : Nat} {l : Ln} {all rs : List Rc} {s : Nat} (h : Lv g n l all s) (hg : l.gen + 1 ≤ 1000000) (hF : (frsR rs).length ≤ 14336) (hno : (anewR l (frsR rs) g).2 = false) (m : Nat → Bool) :
    Cr ((anewR l (frsR rs) g).1.crash m) n l.r l.bank l.gen (frsR (all.take s)) (frsR all) ∨ Cr ((anewR l (frsR rs) g).1.crash m) n l.r (1 - l.bank) (l.gen + 1) (frsR (rs.take rs.length)) (frsR rs) := by
  obtain ⟨h1, h2 | h2⟩ := (h.pre_ hg hF).broken hno m
  · left
    refine ⟨h1, h.size, rfl, h.lf.bank, ⟨h.gen1, h.lf.gen⟩, ?_, ?_, frsR_take all s, ?_⟩
    · rw [h2.1]; exact h.head
    · rw [h2.2]; exact h.holds.mixed
    · have := h.lf.len
      rwa [h.len] at this
  · right
    have hb := h.lf.bank
    refine ⟨h1, h.size, rfl, by omega, ⟨by omega, hg⟩, h2.1, ?_, frsR_take rs _, hF⟩
    rw [List.take_length]
    exact h2.2.mixed
theorem new_pre {n r : Nat} (hn : 514 ≤ n) (hr : r < 64) : Pre (Rg.new n) n (ln0 r) (frsR [checkR]) :=
  ⟨Rg.new_fit n, hn, rfl, ln0_fit hr, rfl, by show 0 + 1 ≤ 1000000; omega, by rw [frsR_one, checkR_frame]; omega⟩
/-- Where nothing is armed. -/
theorem anewR_up {l : Ln} {F : List UInt8} {g : Rg} (h : l.astray = false) (hup : g.armed = false) : (anewR l F g).2 = true ∧ (anewR l F g).1.armed = false := by
  rw [anewR_eq h]
  exact run_up _ _ hup
end
section
/- A lane on its disk, as the statements of stage 7 walk over it: what each call makes of it. -/
open Go.RowKit
set_option maxRecDepth 20000
set_option linter.unusedSimpArgs false
set_option linter.unusedVariables false

/-- What a crash may leave: the records from the first s of all on, or just the other ones. -/
def CrW (gr : Rg) (n r gen : Nat) (all : List Rc) (s : Nat) (other : Option (List Rc)) : Prop :=
  (∃ bank, Cr gr n r bank gen (frsR (all.take s)) (frsR all)) ∨ ∃ rs bank, other = some rs ∧ (∀ q ∈ rs, q.Ok) ∧ Cr gr n r bank (gen + 1) (frsR (rs.take rs.length)) (frsR rs)
/-- Behind a crash. -/
def Crd (w : World) (X : Nat → Prop) (dg r n k gen : Nat) (all : List Rc) (s : Nat) (other : Option (List Rc)) : Prop :=
  ∃ d gr, Many w X [(dg, d)] ∧ DIs d r gr k ∧ r < 64 ∧ gr.armed = false ∧ d.size = n ∧ (∀ q ∈ all, q.Ok) ∧ s ≤ all.length ∧ CrW gr n r gen all s other
section
variable {w w' : World} {X Y : Nat → Prop} {dg g r n k k' gen s : Nat} {up : Bool} {all : List Rc} {other : Option (List Rc)}
theorem Crd.below (h : Crd w X dg r n k gen all s other) (hb : Below w.heap.size w w') : Crd w' X dg r n k gen all s other := by
  obtain ⟨d, gr, h1, h2⟩ := h
  exact ⟨d, gr, h1.below hb, h2⟩

theorem all_sure {g0 : Rg} {l : Ln} (h : Lv g0 n l all s) (he : l.sure = l.kept.length) : s = all.length := by
  have h1 := h.sure.1
  have h2 := h.keptlen
  have h3 := h.bytes.2
  have h4 : (frsR (all.take s)).length = (frsR all).length := by omega
  have h5 : frsR all = frsR (all.take s) ++ frsR (all.drop s) := by rw [← frsR_append, List.take_append_drop]
  have h6 := congrArg List.length h5
  rw [List.length_append, h4] at h6
  have h7 := frsR_ge (all.drop s)
  rw [List.length_drop] at h7
  have := h.sle
  omega
end
theorem DIs.crash {d : Ds} {r k : Nat} {gr : Rg} (h : DIs d r gr k) (m : Nat → Bool) : DIs (d.crash m) r (gr.crash m) k :=
  ⟨by show (d.regs.map (Rg.crash m))[r]? = _; rw [List.getElem?_map, h.at_]; rfl, h.size, h.fit.crash m, h.small.crash m⟩
section
variable {w w' : World} {X Y : Nat → Prop} {dg g r n k k' gen s : Nat} {up : Bool} {all : List Rc} {other : Option (List Rc)}
/-- Nothing waits: a crash leaves just what is sure. -/
theorem Lv.cr2 {g : Rg} {n : Nat} {l : Ln} {all : List Rc} {s : Nat} (h : Lv g n l all s) (m : Nat → Bool) : CrW (g.crash m) n l.r l.gen (all.take s) s none ∧ (g.crash m).armed = false := by
  have hb : (g.crash m).base = g.base := by unfold Rg.crash; rw [h.quiet]; rfl
  refine ⟨.inl ⟨l.bank, h.fit.crash m, h.size, rfl, h.lf.bank, ⟨h.gen1, h.lf.gen⟩, by rw [hb]; exact h.head, ?_, ?_, ?_⟩, rfl⟩
  · rw [hb, List.take_take, Nat.min_self]
    exact h.holds.mixed
  · rw [List.take_take, Nat.min_self]
    exact List.prefix_refl _
  · have h1 := h.lf.len
    rw [h.len] at h1
    have := (frsR_take all s).length_le
    omega
end
end
section
/- The example at each statement's head. -/
open Go.RowKit
set_option maxRecDepth 20000
set_option linter.unusedSimpArgs false
set_option linter.unusedVariables false

/-- A disk of one region. -/
theorem disk_new1 (w : World) : Calls Try.prog 7 #[.int .i64 1, .int .i64 538] w fun e w' => ∃ dg d, e = .returned (.pointer (some ⟨dg, 0, none⟩)) ∧ Many w' (fun k => k < w.heap.size) [(dg, d)] ∧ DIs d 0 (Rg.new 538) 0 ∧ d.size = 538 ∧ Below w.heap.size w w' := by
  refine (new_many (X := fun k => k < w.heap.size) (Many.nil (fun k hk => hk)) 1 538 (by omega) (by omega) (by omega) (by omega)).mono ?_
  rintro e w' ⟨dg, rfl, hm, hb⟩
  exact ⟨dg, _, rfl, hm, ⟨rfl, by show 514 ≤ 538; omega, Rg.new_fit 538, Small.new 1 538⟩, rfl, hb⟩
section
variable {w w' : World} {X Y : Nat → Prop} {dg g n k gen s : Nat} {up : Bool} {all : List Rc} {other : Option (List Rc)}
def endR : Rc := ⟨6, 0, 0, 0, ⟨#[]⟩, ⟨#[]⟩, ⟨#[]⟩, []⟩
theorem endR_ok : endR.Ok := (Rc.right_iff _).1 (by decide)
theorem endR_frame : endR.frame.length = 11 := by rw [Rc.frame_length]; rfl
end
/-- The first entry, where it lies. -/
theorem ents_first {w : World} {E : Nat → Prop} {v : Value} {gen : Nat} {rs : List Rc} {r : Rc} (h : EntsAt w E v gen (r :: rs)) : ∃ b o c, v = .slice (some ⟨b, o, none⟩) (rs.length + 1) c ∧ w.cell? ⟨b, o, none⟩ = some (.int .i64 (r.k : Int)) ∧ w.cell? ⟨b, o + 8, none⟩ = some (.int .u64 ((gen * 1048576 + 1 : Nat) : Int)) := by
  obtain ⟨A, c, rfl, _⟩ := h.1.form
  obtain ⟨b, o, rfl, _, _, A2, c2, hr, _⟩ := h.1.get (j := 0) (r := r) rfl
  refine ⟨b, o, c, rfl, ?_, ?_⟩
  · have := hr 0 _ rfl
    simpa using this
  · have := h.2 b o _ c rfl 0 (by simp)
    simpa [frsR] using this
end

end Go.Proofs.Ytlplibgcfhamgaa
