/-
  A map from ints to bools that the call has made: what it tells of the keys 0 to 63.
-/
import Derived.Test.YtlmoiepbnnfebaaWip
import Derived.Maps.OwnOps
import Derived.Maps.Views
namespace Go.Proofs.Ytlmoiepbnnfebaa
open Go.RowKit
set_option maxRecDepth 20000
set_option linter.unusedSimpArgs false
set_option linter.unusedVariables false

open Go.Maps in
theorem lawI : Keyed Try.prog 3 := int_keyed Try.underlying3
theorem zeroB (w : World) : (zeroValue 4).run Try.prog w = .ok (.bool false) w := by kernel_rfl
/-- Block b is a map of at most n keys; of those below 64 it has what 'has' says. -/
def HasMap (w : World) (b n : Nat) (has : Nat → Bool) : Prop :=
  ∃ D : DataW Unit, w.ownsMap Try.prog 3 (plainElem Try.prog 4) b n D ∧ Maps.IsMap D ∧ ∀ i : Nat, i < 64 → D.atKey (.int .i64 (i : Int)) (.lit (.bool false)) = .lit (.bool (has i))
theorem HasMap.lt {w : World} {b n : Nat} {has : Nat → Bool} (h : HasMap w b n has) : b < w.heap.size := by
  obtain ⟨D, h1, _⟩ := h
  exact h1.lt
theorem HasMap.out {w w' : World} {X : Nat → Prop} {b n : Nat} {has : Nat → Bool} (h : HasMap w b n has) (ho : Out X w w') (hx : X b) : HasMap w' b n has := by
  have hlt := h.lt
  obtain ⟨D, ⟨es, clock, hb, F, hs, hD⟩, h2⟩ := h
  exact ⟨D, ⟨es, clock, (Kept.block ho b hlt (fun hn => hn hx)).trans hb, F, hs, hD⟩, h2⟩
theorem HasMap.below {w w' : World} {b n : Nat} {has : Nat → Bool} (h : HasMap w b n has) (hb : Below w.heap.size w w') : HasMap w' b n has := h.out (X := fun _ => True) (Out.of_below hb) trivial
theorem HasMap.new_ (w : World) : HasMap (w.alloc (.map #[] 0)) w.heap.size 0 (fun _ => false) := ⟨.map [], World.ownsMap_made _ _ _ _, ⟨[], rfl⟩, fun i _ => rfl⟩
theorem HasMap.look {w : World} {b n : Nat} {has : Nat → Bool} (h : HasMap w b n has) {i : Nat} (hi : i < 64) : ∀ W : World, W.heap = w.heap → (Instr.lookup 60 (.map (some b)) (.int .i64 (i : Int)) false).run Try.prog W = .ok (.bool (has i)) W := by
  intro W hW
  obtain ⟨D, ⟨es, clock, hb, F, hs, hD⟩, _, h3⟩ := h
  have hown : W.ownsMap Try.prog 3 (plainElem (H := Unit) Try.prog 4) b n D := ⟨es, clock, by rw [hW]; exact hb, F, hs, hD⟩
  obtain ⟨v, ps, hrun, hv⟩ := hown.lookup lawI Try.underlying60 (zeroB W) (plainElem_bool Try.underlying4 false) (Maps.keyOf_int_mk Try.underlying3 (WalkArith.wf_i64 (n := (i : Int)) (by omega)))
  rw [h3 i hi] at hv
  unfold plainElem at hv
  rw [Try.underlying4] at hv
  cases v <;> simp at hv
  obtain ⟨rfl, _⟩ := hv
  exact hrun
theorem HasMap.put {w' : World} {b n i : Nat} {has : Nat → Bool} {D : DataW Unit} (h2 : Maps.IsMap D) (h3 : ∀ i : Nat, i < 64 → D.atKey (.int .i64 (i : Int)) (.lit (.bool false)) = .lit (.bool (has i))) (h : w'.ownsMap Try.prog 3 (plainElem Try.prog 4) b (n + 1) (D.put (.int .i64 (i : Int)) (.lit (.bool true)))) : HasMap w' b (n + 1) (fun j => if j = i then true else has j) := by
  refine ⟨_, h, ?_, fun j hj => ?_⟩
  · obtain ⟨es, rfl⟩ := h2
    exact ⟨_, rfl⟩
  · show _ = DataW.lit (.bool (if j = i then true else has j))
    by_cases e : j = i
    · subst e
      rw [if_pos rfl, Maps.atKey_put_same h2 (by exact trivial)]
    · rw [if_neg e, Maps.atKey_put_other (by intro hh; injection hh with _ hh; exact e (by omega))]
      exact h3 j hj
theorem disk_new64 (w : World) : Calls Try.prog 14 #[.int .i64 1, .int .i64 64] w fun e w' => ∃ dg d, e = .returned (.pointer (some ⟨dg, 0, none⟩)) ∧ Many w' (fun k => k < w.heap.size) [(dg, d)] ∧ WD d (Rg.new 64) 64 0 ∧ Below w.heap.size w w' := by
  refine (new_many (X := fun k => k < w.heap.size) (Many.nil (fun k hk => hk)) 1 64 (by omega) (by omega) (by omega) (by omega)).mono ?_
  rintro e w' ⟨dg, rfl, hm, hb⟩
  exact ⟨dg, _, rfl, hm, ⟨rfl, rfl, Rg.new_fit 64, Small.new 1 64, rfl⟩, hb⟩
theorem WD.crash {d : Ds} {g : Rg} {n k : Nat} (h : WD d g n k) (m : Nat → Bool) : WD (d.crash m) (g.crash m) n k :=
  ⟨by show (d.regs.map (Rg.crash m))[0]? = _; rw [List.getElem?_map, h.at_]; rfl, h.size, h.fit.crash m, h.small.crash m, rfl⟩
theorem below_dr (w : World) (k : Nat) : Below w.heap.size w (w.drewN k) := ⟨rfl, rfl, rfl, Nat.le_refl _, fun _ _ => rfl⟩
theorem and63w (x : Int) : ∃ m : Nat, m < 64 ∧ bits .and .i64 x 63 = (m : Int) := and_low x 6 (by omega)
/-- What of the sectors tells of the keys. -/
def Tells (S : List Sec) (has : Nat → Bool) : Prop := ∀ i : Nat, i < 64 → ∃ b, S[i]? = some b ∧ b[1]? = some (if has i then (1 : UInt8) else 0)
theorem tells_new : Tells (Rg.new 64).secs (fun _ => false) := fun i hi => ⟨zsec, by show (List.replicate 64 zsec)[i]? = _; rw [List.getElem?_replicate, if_pos hi], rfl⟩
theorem tells_set {S : List Sec} {has : Nat → Bool} (h : Tells S has) (m : Nat) (c : UInt8) : Tells (S.set m (pad [c, 1])) (fun j => if j = m then true else has j) := by
  intro i hi
  obtain ⟨b, h1, h2⟩ := h i hi
  by_cases e : i = m
  · subst e
    refine ⟨pad [c, 1], ?_, ?_⟩
    · rw [List.getElem?_set_self (List.getElem?_eq_some_iff.1 h1).1]
    · simp only [if_true]; rfl
  · refine ⟨b, ?_, ?_⟩
    · rw [List.getElem?_set_ne (Ne.symm e)]; exact h1
    · simp only [if_neg e]; exact h2
end Go.Proofs.Ytlmoiepbnnfebaa
