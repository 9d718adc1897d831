/-
  A flush, a crash and an Open in a row.
-/
import Derived.Test.YtlmoiepbnnfebaaGath
namespace Go.Proofs.Ytlmoiepbnnfebaa
open Go.RowKit
set_option maxRecDepth 20000
set_option linter.unusedSimpArgs false
set_option linter.unusedVariables false

/-- Behind a Flush that went well, or didn't. -/
structure AftFl (w : World) (X : Nat → Prop) (dg g n k gen : Nat) (all : List Rc) (s : Nat) (ok : Bool) : Prop where
  yes : ok = true → Live w X dg g 0 n k gen false all all.length
  no : ok = false → Brok w X dg g 0 n k gen all s none
section
variable {w w' : World} {X Y Z : Nat → Prop} {dg g n k gen s : Nat} {all : List Rc} {ok : Bool}
theorem hol_flush (h : Live w X dg g 0 n k gen false all s) (hk : k ≤ 400000) : Calls Try.prog 20 #[.pointer (some ⟨g, 0, none⟩)] w fun e w' => ∃ ok, e = .returned (.int .i64 (cd ok)) ∧ AftFl w' X dg g n (k + 301) gen all s ok ∧ Out X w w' := by
  refine (la_flush h hk).mono ?_
  rintro e w' ⟨ok, rfl, _, h2, h3, h4⟩
  exact ⟨ok, rfl, ⟨h2, h3⟩, h4⟩
theorem hol_crash (h : AftFl w X dg g n k gen all s ok) (hs : s ≤ all.length) (hk : k ≤ 400000) (mask : Nat) :
    Calls Try.prog 22 #[.pointer (some ⟨dg, 0, none⟩), .int .u64 (mask : Int)] w fun e w' => e = .returned (.tuple #[]) ∧ ∃ Y s', (∀ k, X k → Y k) ∧ Crd w' Y dg 0 n k gen all s' none ∧ Out X w w' := by
  cases ok with
  | true =>
    refine (la_crash (h.yes rfl) hk mask).mono ?_
    rintro e w' ⟨rfl, Y, hY, hc, _, ho⟩
    rw [List.take_length] at hc
    exact ⟨rfl, Y, _, hY, hc, ho⟩
  | false =>
    refine (la_crash_brok (h.no rfl) hk mask).mono ?_
    rintro e w' ⟨rfl, hc, ho⟩
    exact ⟨rfl, X, s, fun _ h => h, hc, ho⟩
theorem hol_open (h : Crd w X dg 0 n k gen all s none) (hk : k ≤ 400000) : Calls Try.prog 23 #[.pointer (some ⟨dg, 0, none⟩), .int .i64 0] w fun e w' => ∃ (g : Nat) (v : Value) (E : Nat → Prop) (j : Nat), e = .returned (.tuple #[.pointer (some ⟨g, 0, none⟩), v, .int .i64 0]) ∧ s ≤ j ∧ j ≤ all.length ∧
    Live w' (fun k => X k ∨ E k) dg g 0 n (k + 700) gen true (all.take j) j ∧ EntsAt w' E v gen (all.take j) ∧ Out X w w' := by
  refine (la_open0 h hk).mono ?_
  rintro e w' ⟨g, v, E, al, gen', rfl, hw, h1, h2, _, h3⟩
  rcases hw with ⟨rfl, j, ha, hb, rfl⟩ | ⟨_, hc⟩
  · have hl : (all.take j).length = j := by rw [List.length_take]; omega
    rw [hl] at h1
    exact ⟨g, v, E, j, rfl, ha, hb, h1, h2, h3⟩
  · cases hc
theorem bits_nat (op : BinOp) (a b : Int) : ∃ M : Nat, bits op .u64 a b = (M : Int) := by
  have h : (0 : Int) ≤ bits op .u64 a b := (bits_within op .u64 a b).1
  exact ⟨(bits op .u64 a b).toNat, (Int.toNat_of_nonneg h).symm⟩
theorem hol_crash_z {z : Int} (h : AftFl w X dg g n k gen all s ok) (hs : s ≤ all.length) (hk : k ≤ 400000) (hz : ∃ M : Nat, z = (M : Int)) :
    Calls Try.prog 22 #[.pointer (some ⟨dg, 0, none⟩), .int .u64 z] w fun e w' => e = .returned (.tuple #[]) ∧ ∃ Y s', (∀ k, X k → Y k) ∧ Crd w' Y dg 0 n k gen all s' none ∧ Out X w w' := by
  obtain ⟨M, rfl⟩ := hz
  exact hol_crash h hs hk M
theorem and63x (x : Int) : ∃ m : Nat, m < 64 ∧ bits .and .i64 x 63 = (m : Int) := and_low x 6 (by omega)
theorem starts_take (l : List Rc) (j : Nat) (hj : j ≤ l.length) : startsB (l.take j) l = true := startsB_iff.2 ⟨by rw [List.length_take]; omega, by rw [List.length_take, Nat.min_eq_left hj]⟩
/-- A slice of the one record Check, gathered. -/
theorem gath_check (w : World) (X : Nat → Prop) (hX : X w.heap.size) : Gath (w.alloc (.cells #[.int .i64 1, .int .i64 0, .int .i64 0, .int .i64 0, .string ⟨#[]⟩, .string ⟨#[]⟩, .string ⟨#[]⟩, .slice none 0 0] 33)) X (.slice (some ⟨w.heap.size, 0, none⟩) 1 1) [(checkR, .slice none 0 0)] :=
  ⟨⟨rfl, .inr ⟨w.heap.size, 1, #[.int .i64 1, .int .i64 0, .int .i64 0, .int .i64 0, .string ⟨#[]⟩, .string ⟨#[]⟩, .string ⟨#[]⟩, .slice none 0 0], rfl, Nat.zero_le _, heap_alloc_new w _, Nat.le_refl _, by simp only [maxLen]; omega, rfl, rfl⟩⟩, fun k e => by injection e with e; subst e; exact hX, fun e he => by obtain rfl := List.mem_singleton.1 he; exact rin_nil _ _ _ _⟩
theorem gath_fst (es : List Re) (r : Rc) (D : Value) : (es ++ [(r, D)]).map (·.1) = es.map (·.1) ++ [r] := by rw [List.map_append]; rfl
theorem out_grown {o : Option Nat} (hg : w.grownBy w' o) (ho : ∀ k, o = some k → ¬ X k) : Out X w w' := (kept_grown hg).mono (fun k e => .inl (ho k e))
end
end Go.Proofs.Ytlmoiepbnnfebaa
