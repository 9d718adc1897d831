/-
  A pool on its disk, all of it up, as walks go over it: what each call makes of it.
-/
import Derived.Test.YtkdcnddagebjpaaPl1
namespace Go.Proofs.Ytkdcnddagebjpaa
open Go.RowKit
set_option maxRecDepth 20000
set_option linter.unusedSimpArgs false
set_option linter.unusedVariables false

/-- What a frame with a page is within; marks are below hi. -/
structure FrIn (x : Fm) (r hi : Nat) : Prop where
  num : x.num < 6
  good : x.pg.good
  ten : x.pg.ten = r
  pnum : x.pg.num = x.num
  since : x.dirty = false → x.since = 0
  lim : x.pg.mark < hi
  dsince : x.dirty = true → x.since ≠ 0
/-- A page that isn't dirty is as the disk has it. -/
structure FrSync (x : Fm) (D : Nat → Pg) : Prop where
  same : x.dirty = false → x.pg.val = (D x.num).val
  mark : x.dirty = true → x.pg.mark ≠ 0
theorem FrIn.fit {x : Fm} {r hi : Nat} (h : FrIn x r hi) (hr : r < 64) : x.Fit := ⟨h.num, Pg.good_sized h.good, h.good.2.1, h.good.2.2.1, h.since⟩
/-- A pool, and the pages as the disk has them; x: a frame whose page was changed, and not yet touched. -/
structure PoolD (B : List Sec) (r lo hi : Nat) (P : Po) (D : Nat → Pg) (x : Option Nat) : Prop where
  hand : P.hand < 3
  on : ∀ m, m < 6 → DecP (pgB B m 4) r m (D m) 0 ∧ (D m).mark < lo
  fr : ∀ i, i < 3 → (P.f i).pb ≠ none → FrIn (P.f i) r hi
  zero : ∀ i, i < 3 → (P.f i).pb = none → P.f i = fZ
  apart : ∀ i j, i < 3 → j < 3 → (P.f i).pb ≠ none → (P.f j).pb ≠ none → (P.f i).num = (P.f j).num → i = j
  sync : ∀ i, i < 3 → (P.f i).pb ≠ none → x ≠ some i → FrSync (P.f i) D
/-- Places up to here. -/
def lim (gen : Nat) (F : List Rc) : Nat := gen * 1048576 + (frsR F).length + 1
theorem lim_take (gen : Nat) (F : List Rc) (s : Nat) : lim gen (F.take s) ≤ lim gen F := by
  unfold lim
  have := (frsR_take F s).length_le
  omega
theorem lim_app (gen : Nat) (F : List Rc) (r : Rc) : lim gen F < lim gen (F ++ [r]) := by
  unfold lim
  have := r.frame_pos
  rw [frsR_append, frsR_one, List.length_append]
  omega
/-- A page as the pool has it, at hand or not. -/
def cont (P : Po) (D : Nat → Pg) (n : Nat) : Pg := match P.find n with | none => D n | some z => (P.f z).pg
section
variable {B B' : List Sec} {r lo lo' hi hi' : Nat} {P P' : Po} {D D' : Nat → Pg} {x : Option Nat}
theorem PoolD.more (h : PoolD B r lo hi P D x) (h1 : lo ≤ lo') (h2 : hi ≤ hi') : PoolD B r lo' hi' P D x :=
  ⟨h.hand, fun m hm => ⟨(h.on m hm).1, Nat.lt_of_lt_of_le (h.on m hm).2 h1⟩, fun i hi hp => ⟨(h.fr i hi hp).num, (h.fr i hi hp).good, (h.fr i hi hp).ten, (h.fr i hi hp).pnum, (h.fr i hi hp).since, Nat.lt_of_lt_of_le (h.fr i hi hp).lim h2, (h.fr i hi hp).dsince⟩, h.zero, h.apart, h.sync⟩
theorem PoolD.find_one (h : PoolD B r lo hi P D x) {n z b : Nat} (hz : z < 3) (hb : (P.f z).pb = some b) (hn : (P.f z).num = n) : P.find n = some z := by
  cases hf : P.find n with
  | none =>
    have := Po.find_not hf z hz
    rw [hasB_yes hb hn] at this
    cases this
  | some y =>
    obtain ⟨h1, _, h3⟩ := Po.find_some hf
    obtain ⟨c, hc, hcn⟩ := hasB_iff h3
    rw [h.apart z y hz h1 (by rw [hb]; simp) (by rw [hc]; simp) (hn.trans hcn.symm)]
/-- The find of a pool whose frames are as those of another, but for what isn't asked. -/
theorem find_like (h : ∀ i, i < 3 → (P'.f i).pb = (P.f i).pb ∧ ((P.f i).pb ≠ none → (P'.f i).num = (P.f i).num)) (n : Nat) : P'.find n = P.find n := by
  have e : ∀ i, i < 3 → P'.hasB n i = P.hasB n i := by
    intro i hi
    obtain ⟨h1, h2⟩ := h i hi
    unfold Po.hasB
    rw [h1]
    cases hp : (P.f i).pb with
    | none => rfl
    | some b => rw [h2 (by rw [hp]; simp)]
  unfold Po.find
  rw [e 0 (by omega), e 1 (by omega), e 2 (by omega)]
/-- A frame laid anew, with the same page's number. -/
theorem PoolD.set (h : PoolD B r lo hi P D x) {z : Nat} {y : Fm} {x' : Option Nat} (hz : z < 3) (hpb : y.pb = (P.f z).pb) (hne : (P.f z).pb ≠ none) (hnum : y.num = (P.f z).num) (hy : FrIn y r hi) (hx : x' ≠ some z → FrSync y D) (hxx : ∀ i, i ≠ z → x' ≠ some i → x ≠ some i) : PoolD B r lo hi (P.set z y) D x' := by
  refine ⟨h.hand, h.on, ?_, ?_, ?_, ?_⟩
  · intro i hi' hp
    by_cases e : i = z
    · subst e; rw [Po.set_same]; exact hy
    · rw [Po.set_other _ _ e] at hp ⊢; exact h.fr i hi' hp
  · intro i hi' hp
    by_cases e : i = z
    · subst e; rw [Po.set_same, hpb] at hp; exact absurd hp hne
    · rw [Po.set_other _ _ e] at hp ⊢; exact h.zero i hi' hp
  · intro i j hi' hj hp hq en
    have f : ∀ n, ((P.set z y).f n).pb = (P.f n).pb ∧ ((P.set z y).f n).num = (P.f n).num := by
      intro n
      by_cases e : n = z
      · subst e; rw [Po.set_same]; exact ⟨hpb, hnum⟩
      · rw [Po.set_other _ _ e]; exact ⟨rfl, rfl⟩
    rw [(f i).1] at hp
    rw [(f j).1] at hq
    rw [(f i).2, (f j).2] at en
    exact h.apart i j hi' hj hp hq en
  · intro i hi' hp hxi
    by_cases e : i = z
    · subst e; rw [Po.set_same]; exact hx hxi
    · rw [Po.set_other _ _ e] at hp ⊢; exact h.sync i hi' hp (hxx i e hxi)
theorem find_set {z : Nat} {y : Fm} (hpb : y.pb = (P.f z).pb) (hnum : y.num = (P.f z).num) (n : Nat) : (P.set z y).find n = P.find n :=
  find_like (fun i _ => by
    by_cases e : i = z
    · subst e; rw [Po.set_same]; exact ⟨hpb, fun _ => hnum⟩
    · rw [Po.set_other _ _ e]; exact ⟨rfl, fun _ => rfl⟩) n
/-- A frame that is written. -/
theorem PoolD.saved (h : PoolD B r lo hi P D x) {z : Nat} (hz : z < 3) (hne : (P.f z).pb ≠ none) (hx : x ≠ some z) (hdy : (P.f z).dirty = true)
    (h1 : pgB B' (P.f z).num 4 = (P.f z).pg.encL) (h2 : ∀ j, j < 6 → j ≠ (P.f z).num → pgB B' j 4 = pgB B j 4) (hlo : lo ≤ hi) :
    PoolD B' r hi hi (P.set z (P.f z).saved) (fun m => if m = (P.f z).num then (P.f z).pg else D m) x := by
  have hf := h.fr z hz hne
  have hs := h.sync z hz hne hx
  have base : PoolD B' r hi hi P (fun m => if m = (P.f z).num then (P.f z).pg else D m) x → PoolD B' r hi hi (P.set z (P.f z).saved) (fun m => if m = (P.f z).num then (P.f z).pg else D m) x := by
    intro h0
    refine h0.set hz rfl hne rfl ⟨hf.num, hf.good, hf.ten, hf.pnum, fun _ => rfl, hf.lim, fun e => by cases e⟩ (fun _ => ⟨fun _ => ?_, fun e => by cases e⟩) (fun _ _ hi => hi)
    show (P.f z).pg.val = (if (P.f z).num = (P.f z).num then (P.f z).pg else D (P.f z).num).val
    rw [if_pos rfl]
  have hm0 := hs.mark hdy
  refine base ⟨h.hand, ?_, h.fr, h.zero, h.apart, ?_⟩
  · intro m hm
    by_cases e : m = (P.f z).num
    · subst e
      simp only [if_true]
      rw [h1]
      refine ⟨?_, hf.lim⟩
      have := DecP.of hf.good hm0
      rwa [hf.ten, hf.pnum] at this
    · simp only [if_neg e]
      rw [h2 m hm e]
      exact ⟨(h.on m hm).1, Nat.lt_of_lt_of_le (h.on m hm).2 hlo⟩
  · intro i hi' hp hxi
    have hsi := h.sync i hi' hp hxi
    refine ⟨fun hd => ?_, hsi.mark⟩
    by_cases e : i = z
    · subst e; rw [hdy] at hd; cases hd
    · have : (P.f i).num ≠ (P.f z).num := fun en => e (h.apart i z hi' hz hp hne en)
      rw [if_neg this]
      exact hsi.same hd
end
end Go.Proofs.Ytkdcnddagebjpaa
