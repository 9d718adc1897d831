/-
  A pool on its disk, all of it up: Get, Touch, Flush, a page's Set, the lane's Append.
-/
import Derived.Test.YtkdcnddagebjpaaPl2
namespace Go.Proofs.Ytkdcnddagebjpaa
open Go.RowKit
set_option maxRecDepth 20000
set_option linter.unusedSimpArgs false
set_option linter.unusedVariables false

section
variable {B B' : List Sec} {r lo lo' hi hi' : Nat} {P P' : Po} {D D' : Nat → Pg} {x : Option Nat}
theorem not_at {n z : Nat} (h : P.find n = none) (hz : z < 3) (hp : (P.f z).pb ≠ none) : (P.f z).num ≠ n := by
  intro e
  obtain ⟨b, hb⟩ := Option.ne_none_iff_exists'.1 hp
  have := Po.find_not h z hz
  rw [hasB_yes hb e] at this
  cases this
/-- The victim is gone. -/
theorem Po.gone_f (P : Po) (i : Nat) : P.gone.f i = if i = P.ahd P.pas then fZ else (P.unreq P.pas).f i := by
  show ((P.unreq P.pas).set (P.ahd P.pas) fZ).f i = _
  by_cases e : i = P.ahd P.pas
  · rw [if_pos e, ← e, Po.set_same]
  · rw [if_neg e, Po.set_other _ _ e]
theorem Po.gone_same (P : Po) {i : Nat} (h : i ≠ P.ahd P.pas) : ∃ b, P.gone.f i = ⟨(P.f i).pb, (P.f i).num, b, (P.f i).dirty, (P.f i).since, (P.f i).pg⟩ := by
  rw [P.gone_f, if_neg h]
  exact P.unreq_f i P.pas
theorem Po.gone_none (P : Po) : P.gone.f (P.ahd P.pas) = fZ := by rw [P.gone_f, if_pos rfl]
theorem PoolD.gone {Q : Po} (h : PoolD B r lo hi Q D x) (hQ : ∀ i, i ≠ P.ahd P.pas → Q.f i = P.f i) (hx : x = none ∨ x = some (P.ahd P.pas)) : PoolD B r lo hi P.gone D none := by
  have nz : ∀ i, (P.gone.f i).pb ≠ none → i ≠ P.ahd P.pas := by
    intro i hp e
    rw [e, P.gone_none] at hp
    exact hp rfl
  have g : ∀ i, i ≠ P.ahd P.pas → ∃ b, P.gone.f i = ⟨(Q.f i).pb, (Q.f i).num, b, (Q.f i).dirty, (Q.f i).since, (Q.f i).pg⟩ := by
    intro i hi'
    rw [hQ i hi']
    exact P.gone_same hi'
  refine ⟨Nat.mod_lt _ (by omega), h.on, ?_, ?_, ?_, ?_⟩
  · intro i hi' hp
    obtain ⟨b, e⟩ := g i (nz i hp)
    rw [e] at hp ⊢
    obtain ⟨h1, h2, h3, h4, h5, h6, h7⟩ := h.fr i hi' hp
    exact ⟨h1, h2, h3, h4, h5, h6, h7⟩
  · intro i hi' hp
    by_cases e : i = P.ahd P.pas
    · rw [e, P.gone_none]
    · obtain ⟨b, eg⟩ := P.gone_same e
      rw [P.gone_f, if_neg e] at hp ⊢
      have hq := h.zero i hi'
      rw [hQ i e] at hq
      obtain ⟨b', e'⟩ := P.unreq_f i P.pas
      rw [e'] at hp
      have hz := hq hp
      -- a frame without a page is asked for nothing
      have : ∀ m, (P.unreq m).f i = fZ := by
        intro m
        induction m with
        | zero => exact hz
        | succ m ih =>
          show ((P.unreq m).set (P.ahd m) ((P.unreq m).f (P.ahd m)).unreq).f i = fZ
          by_cases e2 : i = P.ahd m
          · rw [← e2, Po.set_same, ih]; rfl
          · rw [Po.set_other _ _ e2, ih]
      exact this _
  · intro i j hi' hj hp hq en
    obtain ⟨b, e⟩ := g i (nz i hp)
    obtain ⟨c, e'⟩ := g j (nz j hq)
    rw [e] at hp en
    rw [e'] at hq en
    exact h.apart i j hi' hj hp hq en
  · intro i hi' hp _
    have hne := nz i hp
    obtain ⟨b, e⟩ := g i hne
    rw [e] at hp ⊢
    have hs := h.sync i hi' hp (by
      rcases hx with hx | hx
      · rw [hx]; simp
      · rw [hx]; intro ex; exact hne (Option.some.inj ex).symm)
    exact ⟨hs.same, hs.mark⟩
/-- A page is read into a frame that had none. -/
theorem PoolD.given (h : PoolD B r lo hi P D none) (hlo : lo ≤ hi) (hr : r < 64) {n z b : Nat} {y : Pg} (hn : n < 6) (hz : z < 3) (hp : (P.f z).pb = none) (hf : P.find n = none) (hy : DecP (pgB B n 4) r n y 0) : PoolD B r lo hi (P.set z ((P.f z).with_ b n y)) D none := by
  have hz0 := h.zero z hz hp
  obtain ⟨hd, hdl⟩ := h.on n hn
  have hv := DecP.same (by omega) (by omega) hy hd
  obtain ⟨g1, g2, g3, g4, g5⟩ := DecP.good (by omega) (by omega) hy
  have hmk := (pg_of_val hv).1
  refine ⟨h.hand, h.on, ?_, ?_, ?_, ?_⟩
  · intro i hi' hpi
    by_cases e : i = z
    · subst e
      rw [Po.set_same, hz0]
      exact ⟨hn, g1, g2, g3, fun _ => rfl, (by show y.mark < hi; omega), fun e => by cases e⟩
    · rw [Po.set_other _ _ e] at hpi ⊢
      exact h.fr i hi' hpi
  · intro i hi' hpi
    by_cases e : i = z
    · subst e; rw [Po.set_same] at hpi; cases hpi
    · rw [Po.set_other _ _ e] at hpi ⊢
      exact h.zero i hi' hpi
  · intro i j hi' hj hpi hpj en
    by_cases e : i = z
    · subst e
      by_cases e2 : j = i
      · exact e2.symm
      · rw [Po.set_other _ _ e2] at hpj en
        rw [Po.set_same] at en
        exact absurd en.symm (not_at hf hj hpj)
    · rw [Po.set_other _ _ e] at hpi en
      by_cases e2 : j = z
      · subst e2
        rw [Po.set_same] at en
        exact absurd en (not_at hf hi' hpi)
      · rw [Po.set_other _ _ e2] at hpj en
        exact h.apart i j hi' hj hpi hpj en
  · intro i hi' hpi _
    by_cases e : i = z
    · subst e
      rw [Po.set_same, hz0]
      exact ⟨fun _ => hv, fun e => by cases e⟩
    · rw [Po.set_other _ _ e] at hpi ⊢
      exact h.sync i hi' hpi (by simp)
end
/-- The other regions are as they were. -/
def ApartP (d d' : Ds) (r : Nat) : Prop := d'.size = d.size ∧ ∀ q, q ≠ r → d'.regs[q]? = d.regs[q]?
theorem ApartP.refl (d : Ds) (r : Nat) : ApartP d d r := ⟨rfl, fun _ _ => rfl⟩
theorem ApartP.trans {a b c : Ds} {r : Nat} (h : ApartP a b r) (k : ApartP b c r) : ApartP a c r := ⟨k.1.trans h.1, fun q hq => (k.2 q hq).trans (h.2 q hq)⟩
theorem Next.apartP {d d' : Ds} {r k : Nat} {g : Rg} (h : Next d r g k d') : ApartP d d' r := ⟨h.same, fun q hq => by rw [h.regs, List.getElem?_set_ne (Ne.symm hq)]⟩
/-- A pool that lives, all of it up; of all records the first s are sure. -/
def PoolT (w : World) (X : Nat → Prop) (dg : Nat) (d : Ds) (g q r k gen : Nat) (all : List Rc) (s : Nat) (P : Po) (D : Nat → Pg) (x : Option Nat) : Prop :=
  ∃ l kv gr, PAt w X dg d g l kv q P ∧ DIs d r gr k ∧ Lv gr 538 l all s ∧ l.r = r ∧ P.r = r ∧ d.size = 538 ∧ l.gen = gen ∧ gr.armed = false ∧ PoolD gr.base r (lim gen (all.take s)) (lim gen all) P D x
/-- What Get leaves of the pages. -/
structure Got (P : Po) (D : Nat → Pg) (n z : Nat) (P' : Po) (D' : Nat → Pg) : Prop where
  cont : ∀ m, m < 6 → (cont P' D' m).val = (cont P D m).val
  nums : ∀ i, i < 3 → (P'.f i).pb ≠ none → (P'.f i).num = n ∨ ∃ j, j < 3 ∧ (P.f j).pb ≠ none ∧ (P.f j).num = (P'.f i).num
  since : ((∃ i, i < 3 ∧ (P.f i).pb = none) ∨ P.find n ≠ none) → ∀ m, P'.sinceOf m = P.sinceOf m
theorem Po.free_or (P : Po) : (∃ z, z < 3 ∧ (P.f z).pb = none ∧ ∀ j, j < z → (P.f j).pb ≠ none) ∨ ∀ j, j < 3 → (P.f j).pb ≠ none := by
  by_cases h0 : (P.f 0).pb = none
  · exact .inl ⟨0, by omega, h0, fun j hj => absurd hj (by omega)⟩
  · by_cases h1 : (P.f 1).pb = none
    · refine .inl ⟨1, by omega, h1, fun j hj => ?_⟩
      obtain rfl : j = 0 := by omega
      exact h0
    · by_cases h2 : (P.f 2).pb = none
      · refine .inl ⟨2, by omega, h2, fun j hj => ?_⟩
        rcases (show j = 0 ∨ j = 1 by omega) with rfl | rfl
        · exact h0
        · exact h1
      · right
        intro j hj
        rcases (show j = 0 ∨ j = 1 ∨ j = 2 by omega) with rfl | rfl | rfl
        · exact h0
        · exact h1
        · exact h2
theorem gone_hasB {P : Po} {m i : Nat} : P.gone.hasB m i = (P.hasB m i && decide (i ≠ P.ahd P.pas)) := by
  by_cases e : i = P.ahd P.pas
  · rw [hasB_none (by rw [e, P.gone_none]; rfl)]
    simp [e]
  · obtain ⟨b, eg⟩ := P.gone_same e
    unfold Po.hasB
    rw [eg]
    simp [e]
theorem find_none_iff {P : Po} {m : Nat} : P.find m = none ↔ ∀ j, j < 3 → P.hasB m j = false := ⟨Po.find_not, Po.find_none⟩
theorem gone_find_none {P : Po} {m : Nat} (h : P.find m = none) : P.gone.find m = none := by
  rw [find_none_iff] at h ⊢
  intro j hj
  rw [gone_hasB, h j hj]
  rfl
section
variable {B B' : List Sec} {r lo lo' hi hi' : Nat} {P P' : Po} {D D' : Nat → Pg} {x : Option Nat}
/-- What the pages are, the victim gone. -/
theorem cont_gone (h : PoolD B r lo hi P D x) (hall : ∀ j, j < 3 → (P.f j).pb ≠ none) {zz : Nat} (hzz : P.ahd P.pas = zz) (hD : ∀ m, m ≠ (P.f zz).num → D' m = D m) (hz : (D' (P.f zz).num).val = (P.f zz).pg.val) : ∀ m, m < 6 → (Go.Proofs.Ytkdcnddagebjpaa.cont P.gone D' m).val = (Go.Proofs.Ytkdcnddagebjpaa.cont P D m).val := by
  intro m _
  have hzlt := P.ahd_lt P.pas
  rw [hzz] at hzlt
  obtain ⟨pb, hpb⟩ := Option.ne_none_iff_exists'.1 (hall zz hzlt)
  unfold Go.Proofs.Ytkdcnddagebjpaa.cont
  cases hf : P.find m with
  | none =>
    rw [gone_find_none hf]
    exact congrArg Pg.val (hD m (Ne.symm (not_at hf hzlt (hall zz hzlt))))
  | some y =>
    obtain ⟨hy, hlow, hyb⟩ := Po.find_some hf
    obtain ⟨yb, hyp, hyn⟩ := hasB_iff hyb
    by_cases e : y = zz
    · subst e
      have : P.gone.find m = none := by
        rw [find_none_iff]
        intro j hj
        rw [gone_hasB, hzz]
        by_cases e2 : j = y
        · simp [e2]
        · have : P.hasB m j = false := by
            apply hasB_other
            intro en
            exact e2 (h.apart j y hj hy (hall j hj) (hall y hy) (en.trans hyn.symm))
          rw [this]
          rfl
      rw [this]
      show (D' m).val = (P.f y).pg.val
      rw [← hyn]
      exact hz
    · have : P.gone.find m = some y := by
        refine Po.find_at hy (fun j hj => ?_) ?_
        · rw [gone_hasB, hlow j hj]; rfl
        · rw [gone_hasB, hyb, hzz]; simp [e]
      rw [this]
      obtain ⟨b, eg⟩ := P.gone_same (i := y) (by rw [hzz]; exact e)
      show (P.gone.f y).pg.val = _
      rw [eg]
theorem Got.given {Q : Po} {n z b : Nat} {y : Pg} (h : PoolD B r lo hi Q D' none) (hlo : lo ≤ hi) (hr : r < 64) (hn : n < 6) (hz : z < 3) (hp : (Q.f z).pb = none) (hf : Q.find n = none) (hy : DecP (pgB B n 4) r n y 0)
    (hC : ∀ m, m < 6 → (Go.Proofs.Ytkdcnddagebjpaa.cont Q D' m).val = (Go.Proofs.Ytkdcnddagebjpaa.cont P D m).val) (hN : ∀ i, i < 3 → (Q.f i).pb ≠ none → ∃ j, j < 3 ∧ (P.f j).pb ≠ none ∧ (P.f j).num = (Q.f i).num)
    (hS : ((∃ i, i < 3 ∧ (P.f i).pb = none) ∨ P.find n ≠ none) → ∀ m, Q.sinceOf m = P.sinceOf m) : Got P D n z (Q.set z ((Q.f z).with_ b n y)) D' := by
  have hg := h.given hlo hr (b := b) hn hz hp hf hy
  have hfn : (Q.set z ((Q.f z).with_ b n y)).find n = some z := hg.find_one hz (b := b) (by rw [Po.set_same]; rfl) (by rw [Po.set_same]; rfl)
  have hfm : ∀ m, m ≠ n → (Q.set z ((Q.f z).with_ b n y)).find m = Q.find m := by
    intro m hm
    have e : ∀ i, (Q.set z ((Q.f z).with_ b n y)).hasB m i = Q.hasB m i := by
      intro i
      by_cases ei : i = z
      · subst ei
        rw [hasB_none hp]
        exact hasB_other (by rw [Po.set_same]; exact Ne.symm hm)
      · unfold Po.hasB
        rw [Po.set_other _ _ ei]
    unfold Po.find
    rw [e 0, e 1, e 2]
  have hnz : ∀ m y', Q.find m = some y' → y' ≠ z := by
    intro m y' h' e
    subst e
    obtain ⟨c, hc, _⟩ := hasB_iff (Po.find_some h').2.2
    rw [hp] at hc
    cases hc
  have hz0 := h.zero z hz hp
  refine ⟨fun m hm => ?_, fun i hi hpi => ?_, fun hc m => ?_⟩
  · rw [← hC m hm]
    by_cases e : m = n
    · subst e
      unfold Go.Proofs.Ytkdcnddagebjpaa.cont
      rw [hfn, hf]
      show ((Q.set z ((Q.f z).with_ b m y)).f z).pg.val = _
      rw [Po.set_same]
      exact DecP.same (by omega) (by omega) hy (h.on m hn).1
    · unfold Go.Proofs.Ytkdcnddagebjpaa.cont
      rw [hfm m e]
      cases hq : Q.find m with
      | none => rfl
      | some y' =>
        show ((Q.set z ((Q.f z).with_ b n y)).f y').pg.val = _
        rw [Po.set_other _ _ (hnz m y' hq)]
  · by_cases e : i = z
    · subst e; left; rw [Po.set_same]; rfl
    · rw [Po.set_other _ _ e] at hpi ⊢
      exact .inr (hN i hi hpi)
  · rw [← hS hc m]
    unfold Po.sinceOf
    by_cases e : m = n
    · subst e
      rw [hfn, hf]
      show ((Q.set z ((Q.f z).with_ b m y)).f z).since = 0
      rw [Po.set_same, hz0]
      rfl
    · rw [hfm m e]
      cases hq : Q.find m with
      | none => rfl
      | some y' =>
        show ((Q.set z ((Q.f z).with_ b n y)).f y').since = _
        rw [Po.set_other _ _ (hnz m y' hq)]
end
section
variable {w w' : World} {X Y : Nat → Prop} {dg : Nat} {d : Ds} {g q r k gen s : Nat} {all : List Rc} {P : Po} {D : Nat → Pg} {x : Option Nat}
theorem PoolT.below (h : PoolT w X dg d g q r k gen all s P D x) (hb : Below w.heap.size w w') : PoolT w' X dg d g q r k gen all s P D x := by
  obtain ⟨l, kv, gr, h1, h2⟩ := h
  exact ⟨l, kv, gr, h1.below hb, h2⟩
theorem PoolT.more (h : PoolT w X dg d g q r k gen all s P D x) (hb : Below w.heap.size w w') (hY : ∀ k, Y k → X k ∨ (w.heap.size ≤ k ∧ k < w'.heap.size)) : PoolT w' Y dg d g q r k gen all s P D x := by
  obtain ⟨l, kv, gr, h1, h2⟩ := h
  exact ⟨l, kv, gr, h1.more hb hY, h2⟩
theorem PoolT.upto {k' : Nat} (h : PoolT w X dg d g q r k gen all s P D x) (hk : k ≤ k') : PoolT w X dg d g q r k' gen all s P D x := by
  obtain ⟨l, kv, gr, h1, h2, h3⟩ := h
  exact ⟨l, kv, gr, h1, h2.more hk, h3⟩
theorem PoolT.in_ (h : PoolT w X dg d g q r k gen all s P D x) : r < 64 ∧ (∀ k, X k → k < w.heap.size) ∧ (frsR all).length ≤ 14336 ∧ (∀ c ∈ all, c.Ok) ∧ s ≤ all.length := by
  obtain ⟨l, kv, gr, h1, h2, h3, h4, _⟩ := h
  refine ⟨by rw [← h4]; exact h3.lf.r, fun k hk => h1.ln.many.1 k (.inl (.inl hk)), ?_, h3.ok, h3.sle⟩
  rw [← h3.len]
  exact h3.lf.len
theorem Lv.secs {gr : Rg} {n : Nat} {l : Ln} (h : Lv gr n l all s) : gr.secs = gr.base := by unfold Rg.secs; rw [h.quiet]; rfl
/-- Get, whatever is at hand. -/
theorem po_get (h : PoolT w X dg d g q r k gen all s P D none) (hk : k ≤ 600000) {n : Nat} (hn : n < 6) :
    Calls Try.prog 12 #[.pointer (some ⟨q, 0, none⟩), .int .i64 (n : Int)] w fun e w' => ∃ b z P' D' s' d', e = .returned (.tuple #[.pointer (some ⟨b, 0, none⟩), .int .i64 0]) ∧ z < 3 ∧ (P'.f z).pb = some b ∧ (P'.f z).num = n ∧ Got P D n z P' D' ∧ ApartP d d' r ∧ PoolT w' X dg d' g q r (k + 310) gen all s' P' D' none ∧ Out X w w' := by
  have hr := h.in_.1
  obtain ⟨l, kv, gr, h1, h2, h3, h4, h5, h6, h7, h8, h9⟩ := h
  have hsec := h3.secs
  have hlr : l.r = P.r := h4.trans h5.symm
  have hd5 : DIs d P.r gr k := by rw [h5]; exact h2
  have hlim := lim_take gen all s
  cases hf : P.find n with
  | some z =>
    obtain ⟨hz, b, hb, hbn⟩ := Po.find_b h1 hf
    have hpn : (P.f z).pb ≠ none := by rw [hb]; simp
    refine (get_found h1 hn hf hb).mono ?_
    rintro e w' ⟨rfl, hpa, hkp⟩
    have hfz := h9.fr z hz hpn
    have hfind := fun m => find_set (P := P) (z := z) (y := (P.f z).asked) rfl rfl m
    refine ⟨b, z, P.set z (P.f z).asked, D, s, d, rfl, hz, by rw [Po.set_same]; exact hb, by rw [Po.set_same]; exact hbn, ⟨?_, ?_, ?_⟩, ApartP.refl _ _, ⟨l, kv, gr, hpa, h2.more (by omega), h3, h4, h5, h6, h7, h8, h9.set hz rfl hpn rfl ⟨hfz.num, hfz.good, hfz.ten, hfz.pnum, hfz.since, hfz.lim, hfz.dsince⟩ (fun _ => ⟨(h9.sync z hz hpn (by simp)).same, (h9.sync z hz hpn (by simp)).mark⟩) (fun _ _ h => h)⟩, h1.outQ hkp⟩
    · intro m _
      unfold Go.Proofs.Ytkdcnddagebjpaa.cont
      rw [hfind]
      cases hfm : P.find m with
      | none => rfl
      | some y =>
        by_cases e : y = z
        · subst e; simp only [Po.set_same]; rfl
        · simp only [Po.set_other _ _ e]
    · intro i hi hp
      by_cases e : i = z
      · subst e; left; rw [Po.set_same]; exact hbn
      · rw [Po.set_other _ _ e] at hp ⊢; exact .inr ⟨i, hi, hp, rfl⟩
    · intro _ m
      unfold Po.sinceOf
      rw [hfind]
      cases hfm : P.find m with
      | none => rfl
      | some y =>
        by_cases e : y = z
        · subst e; simp only [Po.set_same]; rfl
        · simp only [Po.set_other _ _ e]
  | none =>
    have hdn := h9.on n hn
    obtain ⟨dg1, dg2, dg3, dg4, _⟩ := DecP.good (by omega) (by omega) hdn.1
    rcases P.free_or with ⟨z, hz, hpz, hlow⟩ | hall
    · have hm := get_miss (N := fun d' => d' = d) h1 hd5 (by omega) hz hn hf hpz (fun w1 Y hp => (obtain_free hp hz hlow hpz).mono (by rintro e w' ⟨rfl, rfl⟩; exact ⟨rfl, d, kv, rfl, hp, Out.refl _ _⟩))
      refine hm.mono ?_
      rw [hsec, h5]
      rintro e w' (⟨y, hy, b, rfl, hbw, d', kv', rfl, hpa, ho⟩ | ⟨_, hno, _⟩)
      · have hg := h9.given hlim hr (b := b) hn hz hpz hf hy
        exact ⟨b, z, _, D, s, d', rfl, hz, by rw [Po.set_same]; rfl, by rw [Po.set_same]; rfl, Got.given h9 hlim hr hn hz hpz hf hy (fun _ _ => rfl) (fun i hi hp => ⟨i, hi, hp, rfl⟩) (fun _ _ => rfl), ApartP.refl _ _, ⟨l, kv', gr, hpa, h2.more (by omega), h3, h4, h5, h6, h7, h8, hg⟩, ho⟩
      · exact absurd dg4 (hno (D n) dg1 dg2 dg3)
    · obtain ⟨zz, hzz⟩ : ∃ zz, P.ahd P.pas = zz := ⟨_, rfl⟩
      have hzlt := P.ahd_lt P.pas
      rw [hzz] at hzlt
      have hpn := hall zz hzlt
      have hfz := h9.fr zz hzlt hpn
      have hnn := not_at hf hzlt hpn
      have hpz : (P.gone.f zz).pb = none := by rw [← hzz, P.gone_none]; rfl
      have hfit : ∀ j, j < 3 → (P.f j).pb ≠ none ∧ (P.f j).Fit := fun j hj => ⟨hall j hj, (h9.fr j hj (hall j hj)).fit hr⟩
      -- what writing the victim leaves
      obtain ⟨D', hok, hlv, hup, hD, hsame⟩ : ∃ D', (gr.run (frT (P.f zz) l)).2 = true ∧ (∃ s', Lv (gr.run (frT (P.f zz) l)).1 538 (frL (P.f zz) l gr) all s' ∧ PoolD (gr.run (frT (P.f zz) l)).1.base r (lim gen (all.take s')) (lim gen all) P.gone D' none) ∧ (gr.run (frT (P.f zz) l)).1.armed = false ∧ pgB (gr.run (frT (P.f zz) l)).1.base n 4 = pgB gr.base n 4 ∧
          (∀ m, m < 6 → (cont P.gone D' m).val = (cont P D m).val) := by
        unfold frT frL
        cases hdy : (P.f zz).dirty
        · simp only [Bool.false_eq_true, if_false, run_nil]
          have hg := h9.gone (P := P) (fun _ _ => rfl) (.inl rfl)
          exact ⟨D, trivial, ⟨s, h3, hg⟩, h8, trivial, cont_gone h9 hall hzz (fun m hm => rfl) ((h9.sync zz hzlt hpn (by simp)).same hdy).symm⟩
        · simp only [if_true]
          obtain ⟨a1, a2, a3, a4, a5, a6⟩ := h3.saved h8 hfz.num (by omega) (Pg.encL_length (Pg.good_sized hfz.good))
          rw [a2]
          have hsv := h9.saved (B' := (gr.run (saveT l (P.f zz).num (P.f zz).pg.encL)).1.base) hzlt hpn (by simp) hdy a5 a6 hlim
          have hg := hsv.gone (P := P) (fun i hi => Po.set_other _ _ (by rw [← hzz]; exact hi)) (.inl rfl)
          refine ⟨_, a1, ⟨all.length, a3, by rw [List.take_length]; exact hg⟩, a4, a6 n hn (Ne.symm hnn), cont_gone h9 hall hzz (fun m hm => if_neg hm) (by simp only [if_true])⟩
      obtain ⟨s', hlv, hpd⟩ := hlv
      have hfn : P.gone.find n = none := gone_find_none hf
      have hfull : ∀ w1 Y, PAt w1 Y dg d g l kv q P → Calls Try.prog 50 #[.pointer (some ⟨q, 0, none⟩)] w1 fun e w' => e = .returned (.tuple #[.pointer (some ⟨q, 3 + zz * 5, none⟩), .int .i64 0]) ∧ ∃ d' kv', Next d P.r (gr.run (frT (P.f zz) l)).1 (k + 310) d' ∧ PAt w' Y dg d' g (frL (P.f zz) l gr) kv' q P.gone ∧ Out Y w1 w' := by
        intro w1 Y hp
        refine (obtain_full hp h3.lf hlr hd5 (by omega) (by omega) h9.hand hfit).mono ?_
        unfold FullRet
        rw [hzz, hok]
        rintro e w' ⟨v, rfl, rfl, d', kv', hnx, hpa, ho⟩
        exact ⟨rfl, d', kv', hnx, hpa, ho⟩
      refine (get_miss (N := fun d' => Next d P.r (gr.run (frT (P.f zz) l)).1 (k + 310) d') h1 hd5 (by omega) hzlt hn hf hpz hfull).mono ?_
      rw [hsec, h5]
      rintro e w' (⟨y, hy, b, rfl, hbw, d', kv', hnx, hpa, ho⟩ | ⟨_, hno, _⟩)
      · have hy' : DecP (pgB (gr.run (frT (P.f zz) l)).1.base n 4) r n y 0 := by rw [hD]; exact hy
        have hlim' := lim_take gen all s'
        have hg := hpd.given hlim' hr (b := b) hn hzlt hpz hfn hy'
        refine ⟨b, zz, _, D', s', d', rfl, hzlt, by rw [Po.set_same]; rfl, by rw [Po.set_same]; rfl, Got.given hpd hlim' hr hn hzlt hpz hfn hy' hsame ?_ ?_, hnx.apartP, ⟨_, kv', _, hpa, hnx.is, hlv, ?_, (P.unreq_r P.pas).trans h5, hnx.same.trans h6, ?_, hup, hg⟩, ho⟩
        · intro i hi hp
          have hne : i ≠ P.ahd P.pas := fun e => by rw [e, P.gone_none] at hp; exact hp rfl
          obtain ⟨c, e⟩ := P.gone_same hne
          rw [e] at hp ⊢
          exact ⟨i, hi, hp, rfl⟩
        · rintro (⟨i, hi, hp⟩ | hc)
          · exact absurd hp (hall i hi)
          · exact absurd hf hc
        · unfold frL
          split
          · rw [flL_r]; exact h4
          · exact h4
        · unfold frL
          split
          · rw [← h7]
            unfold flL
            split
            · rfl
            · cases (gr.run (flD l)).2 <;> rfl
          · exact h7
      · exact absurd dg4 (hno (D n) dg1 dg2 dg3)
end
end Go.Proofs.Ytkdcnddagebjpaa
