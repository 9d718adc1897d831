/-
  A great function piece by piece: a statement of its code by its path; a frame that is known slot by slot.
-/
import Derived.Test.YtlmoiepbnnfebaaFit
namespace Go.Proofs.Ytlmoiepbnnfebaa
open Go.RowKit
set_option maxRecDepth 20000

/-- The statement at a path. -/
def subC : Code → List Nat → Code
  | c, [] => c
  | .seq a b, i :: p => if i = 0 then subC a p else subC b p
  | .cond _ a b, i :: p => if i = 0 then subC a p else subC b p
  | .block _ c, _ :: p => subC c p
  | .loop c, _ :: p => subC c p
  | .scope c, _ :: p => subC c p
  | _, _ :: _ => .skip
/-- Slots outside S are as they were. -/
def Keeps (S : Nat → Bool) (tm tm' : Array Value) : Prop := tm'.size = tm.size ∧ ∀ t, S t = false → tm'[t]? = tm[t]?
section
variable {S S' : Nat → Bool} {tm tm' tm'' : Array Value}
theorem Keeps.refl (S : Nat → Bool) (tm : Array Value) : Keeps S tm tm := ⟨rfl, fun _ _ => rfl⟩
theorem Keeps.trans (h : Keeps S tm tm') (h' : Keeps S tm' tm'') : Keeps S tm tm'' := ⟨h'.1.trans h.1, fun t ht => (h'.2 t ht).trans (h.2 t ht)⟩
theorem Keeps.set (h : Keeps S tm tm') {d : Nat} (hd : S d = true) (v : Value) : Keeps S tm (tm'.setIfInBounds d v) :=
  ⟨by rw [Array.size_setIfInBounds]; exact h.1, fun t ht => by rw [Array.getElem?_setIfInBounds, if_neg (fun e => by rw [e, ht] at hd; cases hd)]; exact h.2 t ht⟩
theorem Keeps.put {d : Nat} (hd : S d = true) (h : Keeps S tm tm') (v : Value) : Keeps S tm (tm'.setIfInBounds d v) := h.set hd v
theorem Keeps.more (h : Keeps S tm tm') (hs : ∀ t, S' t = false → S t = false) : Keeps S' tm tm' := ⟨h.1, fun t ht => h.2 t (hs t ht)⟩
theorem Keeps.get (h : Keeps S tm tm') {t : Nat} {v : Value} (ht : S t = false) (hv : tm[t]? = some v) : tm'[t]? = some v := (h.2 t ht).trans hv
/-- What a region leaves. -/
theorem Keeps.region {ops : Array Oper} {t1 t2 : Array Value} (hsz : t2.size = t1.size) (keep : ∀ t : Tmp, neverB ops t = true → t2.getD t undef = t1.getD t undef) (hall : (dstsL ops).all S = true) (h : Keeps S tm t1) : Keeps S tm t2 := by
  refine ⟨hsz.trans h.1, fun t ht => ?_⟩
  rw [← h.2 t ht]
  have hn : neverB ops t = true := by
    unfold neverB
    rw [Array.all_eq_true']
    intro o ho
    simp only [bne_iff_ne, ne_eq]
    intro e
    rw [List.all_eq_true] at hall
    have := hall t (by unfold dstsL; rw [List.mem_filterMap]; exact ⟨o, Array.mem_toList_iff.2 ho, e⟩)
    rw [this] at ht
    cases ht
  have hk := keep t hn
  rcases Nat.lt_or_ge t t2.size with h1 | h1
  · have h2 : t < t1.size := by omega
    simp only [Array.getD_eq_getD_getElem?, Array.getElem?_eq_getElem h1, Array.getElem?_eq_getElem h2, Option.getD_some] at hk ⊢
    rw [hk]
  · rw [Array.getElem?_eq_none h1, Array.getElem?_eq_none (by omega)]
end
theorem region_grows_n {P : Program} {ops : Array Oper} {Q : Exit → Act → World → Prop} {id : Nat} {a0 : Act} {W : World} (n : Nat) (hn : a0.tmps.size = n) (l : List Say) (hm : P.follows .mixedOrders = true) (hB : onceB ops = true) (hR : roomB ops n = true) (hlow : lowB ops = true)
    (duty : ∀ i o, ops[i]? = some o → DutyG P ops Q l a0 W i o)
    (fin : ∀ a w, Below W.heap.size W w → a.tmps.size = a0.tmps.size → a.defers = a0.defers → (∀ (j : Nat) (o : Oper) (d : Tmp), ops[j]? = some o → o.dst = some d → (says l j).p w (a.tmps.getD d undef)) →
      (∀ t : Tmp, neverB ops t = true → a.tmps.getD t undef = a0.tmps.getD t undef) → Q .normal a w) :
    (Code.region id ops true).wp P Q a0 W := region_grows l hm hB (by rw [hn]; exact hR) hlow duty fin
theorem region_turns_n {P : Program} {ops : Array Oper} {Q : Exit → Act → World → Prop} {G : World → World → Prop} {id : Nat} {a0 : Act} {W : World} (n : Nat) (hn : a0.tmps.size = n) (l : List (Word G)) (S : (Nat → Bool) → World → Prop) (hr : ∀ w, G w w) (ht : ∀ {a b c}, G a b → G b c → G a c) (hd : ∀ w, G w w.drew)
    (hm : P.follows .mixedOrders = true) (hB : onceB ops = true) (hR : roomB ops n = true) (hlow : lowB ops = true)
    (hSx : ∀ L L' w, (∀ j, j < ops.size → L j = L' j) → S L w → S L' w) (hS0 : S (fun _ => false) W.drew)
    (duty : ∀ i o, ops[i]? = some o → DutyT P ops Q l S a0 W i o)
    (fin : ∀ a w, G W w → S (fun _ => true) w → a.tmps.size = a0.tmps.size → a.defers = a0.defers → (∀ (j : Nat) (o : Oper) (d : Tmp), ops[j]? = some o → o.dst = some d → (words l j).p w (a.tmps.getD d undef)) →
      (∀ t : Tmp, neverB ops t = true → a.tmps.getD t undef = a0.tmps.getD t undef) → Q .normal a w) :
    (Code.region id ops true).wp P Q a0 W := region_turns l S hr ht hd hm hB (by rw [hn]; exact hR) hlow hSx hS0 duty fin
theorem region_phases_n {P : Program} {ops : Array Oper} {Q : Exit → Act → World → Prop} {id : Nat} {a0 : Act} {w0 : World} (n : Nat) (hn : a0.tmps.size = n) (V : Nat → Value → Prop) (M : Phases) (hm : P.follows .mixedOrders = true) (hB : onceB ops = true) (hR : roomB ops n = true) (hlow : lowB ops = true)
    (hM : ∀ L L' f f' w, (∀ j, j < ops.size → L j = L' j) → (∀ j, j < ops.size → L j = true → (∃ o d, ops[j]? = some o ∧ o.dst = some d) → f j = f' j) → M L f w → M L' f' w)
    (h0 : M (fun _ => false) (got ops a0) w0.drew)
    (duty : ∀ i o, ops[i]? = some o → DutyP P ops Q V M a0 i o)
    (fin : ∀ a w, M (fun _ => true) (got ops a) w → a.tmps.size = a0.tmps.size → a.defers = a0.defers → (∀ (j : Nat) (o : Oper) (d : Tmp), ops[j]? = some o → o.dst = some d → V j (a.tmps.getD d undef)) →
      (∀ t : Tmp, neverB ops t = true → a.tmps.getD t undef = a0.tmps.getD t undef) → Q .normal a w) :
    (Code.region id ops true).wp P Q a0 w0 := region_phases V M hm hB (by rw [hn]; exact hR) hlow hM h0 duty fin
/-- A slot that is known. -/
theorem slot_at {tm : Array Value} {i : Nat} {v : Value} (h : tm[i]? = some v) (hi : i < tm.size) : tm[i] = v := by
  rw [Array.getElem?_eq_getElem hi] at h
  exact Option.some.inj h
theorem slot_get {tm : Array Value} {i : Nat} {v : Value} (h : tm.getD i undef = v) (hi : i < tm.size) : tm[i]? = some v := by
  rw [Array.getElem?_eq_getElem hi]
  simp only [Array.getD_eq_getD_getElem?, Array.getElem?_eq_getElem hi, Option.getD_some] at h
  rw [h]
theorem slot_getD {tm : Array Value} {i : Nat} {v : Value} (h : tm[i]? = some v) : tm.getD i undef = v := by
  rw [Array.getD_eq_getD_getElem?, h]; rfl
end Go.Proofs.Ytlmoiepbnnfebaa
