/-
  A region whose order is drawn in which one page of the call's own is set once, and read behind that: blocks other than the page's stay, and once the page is what it will be it stays so.
-/
import Derived.Test.YtajpjffjhnmfmaaTurns
import Derived.Test.YtajpjffjhnmfmaaPSpec
namespace Go.Proofs.Ytajpjffjhnmfmaa
open Go.RowKit

set_option linter.unusedSimpArgs false
set_option linter.unusedVariables false

/-- The world moves toward page p1 in block g. -/
def Tow (g : Nat) (p1 : Pg) (w w' : World) : Prop := Turns (· = g) w w' ∧ (PgB w g p1 → PgB w' g p1)
theorem Tow.refl (g : Nat) (p1 : Pg) (w : World) : Tow g p1 w w := ⟨Turns.refl _ _, id⟩
theorem Tow.trans {g : Nat} {p1 : Pg} {a b c : World} (h : Tow g p1 a b) (k : Tow g p1 b c) : Tow g p1 a c := ⟨h.1.trans k.1, fun x => k.2 (h.2 x)⟩
theorem Tow.drew (g : Nat) (p1 : Pg) (w : World) : Tow g p1 w w.drew := ⟨Turns.drew _ _, id⟩
theorem Tow.of_below {g : Nat} {p1 : Pg} {w w' : World} (hb : Below w.heap.size w w') : Tow g p1 w w' := ⟨Turns.of_below hb, fun h => h.below hb⟩
/-- It is this value, and the page is what it will be. -/
def pgW (g : Nat) (p1 : Pg) (u : Value) : Word (Tow g p1) := ⟨fun w v => v = u ∧ PgB w g p1, fun _ _ _ h k => ⟨h.1, k.2 h.2⟩⟩
/-- It is a slice that reads as these bytes, its array not the page's block. -/
def awW (g : Nat) (p1 : Pg) (n : Nat) (l : List UInt8) : Word (Tow g p1) := ⟨fun w v => ∃ A c, v = .slice A n c ∧ Away (· = g) w (.slice A n c) (u8s l), fun _ _ _ ⟨A, c, e, h⟩ k => ⟨A, c, e, h.turns k.1⟩⟩
/-- Till the call has come up the page is what it was. -/
def Yet (g : Nat) (p : Pg) (i : Nat) : (Nat → Bool) → World → Prop := fun L w => L i = false → PgB w g p
theorem Yet.other {g : Nat} {p : Pg} {i j : Nat} {L : Nat → Bool} {w w' : World} (h : Yet g p i L w) (hb : Below w.heap.size w w') : Yet g p i (also L j) w' := fun hl => by
  have : L i = false := by
    unfold also at hl
    simp only [Bool.or_eq_false_iff] at hl
    exact hl.2
  exact (h this).below hb
theorem Yet.same {g : Nat} {p : Pg} {i j : Nat} {L : Nat → Bool} {w : World} (h : Yet g p i L w) : Yet g p i (also L j) w := h.other (Below.refl _ _)
theorem Yet.done {g : Nat} {p : Pg} {i : Nat} {L : Nat → Bool} {w : World} : Yet g p i (also L i) w := fun hl => by simp [also] at hl
/-- A call that only grows the memory. -/
theorem tow_grows {P : Program} {f : FuncId} {args : Array Value} {w : World} {g : Nat} {p p1 : Pg} {i j : Nat} {L : Nat → Bool} {s : Word (Tow g p1)} (hS : Yet g p i L w)
    (hc : Calls P f args w fun e w' => ∃ v, e = .returned v ∧ s.p w' v ∧ Below w.heap.size w w') : Calls P f args w fun e w' => ∃ v, e = .returned v ∧ s.p w' v ∧ Yet g p i (also L j) w' ∧ Tow g p1 w w' := by
  refine hc.mono ?_
  rintro e w' ⟨v, rfl, hs, hb⟩
  exact ⟨v, rfl, hs, hS.other hb, .of_below hb⟩
/-- The call that sets it. -/
theorem tow_sets {P : Program} {f : FuncId} {args : Array Value} {w : World} {g : Nat} {p p1 : Pg} {i : Nat} {L : Nat → Bool} {u : Value}
    (hc : Calls P f args w fun e w' => e = .returned u ∧ PgB w' g p1 ∧ w.grownBy w' (some g)) : Calls P f args w fun e w' => ∃ v, e = .returned v ∧ (pgW g p1 u).p w' v ∧ Yet g p i (also L i) w' ∧ Tow g p1 w w' := by
  refine hc.mono ?_
  rintro e w' ⟨rfl, hp, hg⟩
  exact ⟨u, rfl, ⟨rfl, hp⟩, .done, Turns.of_grown hg (fun k hk => .inl (by injection hk with hk; exact hk.symm)), fun _ => hp⟩
theorem Mine.away {w : World} {base g : Nat} {v : Value} {l : List UInt8} (h : Mine w base v l) (hg : g < base) : Away (· = g) w v (u8s l) := by
  obtain ⟨A, c, rfl, hc, hr⟩ := h.rd
  refine ⟨A, c, rfl, hc, fun hn => ?_⟩
  obtain ⟨b, o, rfl, hb, hcell⟩ := hr hn
  have := (World.ownsRow.lt h b rfl).1
  exact ⟨b, o, rfl, hb, by omega, hcell⟩
end Go.Proofs.Ytajpjffjhnmfmaa
