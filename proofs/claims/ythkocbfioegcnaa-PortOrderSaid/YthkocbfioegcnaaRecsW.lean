/-
  As RecsIn, where the form's reach is wanted: what each record weighs is handed to its reader.
-/
import Derived.Test.YthkocbfioegcnaaRecsIn
import Derived.ChangeSame
namespace Go.Proofs.Ythkocbfioegcnaa
open Go.ChangeShapes Go.WideShapes Go.ChangeAt Go.RowKit Go.Deep
set_option linter.unusedSimpArgs false
set_option linter.unusedVariables false

section
variable {w : World} {B : Nat} {H : Type} {enc : TypeId × Value → H} {P : Program} {base b0 : Nat} {spare : Nat → Bool} {held : Bool} {r : Reach}
theorem weightsAll_mem {P : Program} {H : Type} {e : TypeId} {n : Nat} : ∀ {l : List (DataW H)} {d : DataW H}, d ∈ l → n ∈ d.weights P e → n ∈ DataW.weightsAll P e l
  | a :: l, d, h, hn => by
    unfold DataW.weightsAll
    rw [List.mem_append]
    rcases List.mem_cons.1 h with rfl | h
    · exact .inl hn
    · exact .inr (weightsAll_mem h hn)
theorem open_recs_w {α : Type} [Inhabited α] {t e : TypeId} {v : Value} {d : DataW H} {ps : List MemPlace} (m : Nat) (cells : α → List Value) (ok : α → Prop) (ht : P.underlying t = some (.slice e)) (hC : P.cellsOf e = m) (hm0 : 0 < m) (hlen0 : ∀ x, (cells x).length = m)
    (rd : ∀ (fuel : Nat) (cs : List Value) (z : DataW H × List MemPlace), DataW.trod enc P w base spare held fuel e cs = some z → (∀ n ∈ z.1.weights P e, n ≤ reachBytes) → ∃ x : α, cs = cells x ∧ ok x)
    (hval : Value.okWide P w r b0 t v) (hd : DataW.Trod enc P w base spare held t v d ps) (hlt : ∀ x ∈ ps, x.block < B) (hwt : ∀ n ∈ d.weights P t, n ≤ reachBytes) : ∃ rs : List α, RecRow m cells ok w B v rs := by
  obtain ⟨a0, len, cap, rfl⟩ := okWide_slice ht hval
  obtain ⟨fuel, hf⟩ := hd
  have hf' : DataW.trod enc P w base spare held fuel t [.slice a0 len cap] = some (d, ps) := by simpa [Value.cells] using hf
  rcases Go.Deep.open_slice ht hf' with ⟨h0', _⟩ | ⟨a, len', cap', mm, n, D, Pl, h0', _, hlc, hcm, hm, hx, hi'⟩
  · injection h0' with h0'
    rw [h0']
    exact ⟨[], ⟨none, 0, rfl, Nat.le_refl _, fun h => absurd h (by simp)⟩, fun x hx => by cases hx⟩
  · injection h0' with h0'
    injection h0' with e1 e2 e3
    subst e1 e2 e3
    have hlm : len ≤ mm := by rw [hm]; split <;> omega
    have hdd : d = .slice ((List.range len).map D) ((List.range (mm - len)).map fun j => D (len + j)) := congrArg Prod.fst hx
    have hwD : ∀ i, i < len → ∀ n ∈ (D i).weights P e, n ≤ reachBytes := fun i hil n hn => hwt n (by
      rw [hdd]
      simp only [DataW.weights, ht, List.mem_cons, List.mem_append]
      exact .inr (.inl (weightsAll_mem (List.mem_map.2 ⟨i, List.mem_range.2 hil, rfl⟩) hn)))
    have hps : ps = MemPlace.row a (mm * P.cellsOf e) ++ (List.range mm).flatMap Pl := congrArg Prod.snd hx
    have each : ∀ i, i < len → ∃ x : α, ok x ∧ ∀ k u, (cells x)[k]? = some u → w.cell? (a.add (i * m + k)) = some u := by
      intro i hil
      obtain ⟨cs', hc, ht'⟩ := hi' i (by omega)
      rw [hC] at hc
      obtain ⟨x, rfl, hok⟩ := rd _ _ _ ht' (hwD i hil)
      obtain ⟨_, hcl, hat⟩ := World.cells?_some hc
      refine ⟨x, hok, fun k u hu => ?_⟩
      have hk : k < m := by have := (List.getElem?_eq_some_iff.1 hu).1; rwa [hlen0] at this
      have := hat k hk
      rw [Go.Deep.add_add] at this
      rw [this]
      exact hu
    obtain ⟨q, hq⟩ := Go.Deep.choose_lt each
    have hl : ((List.range len).map q).length = len := by simp
    have hget : ∀ j x, ((List.range len).map q)[j]? = some x → j < len ∧ q j = x := by
      intro j x hj
      have hjl : j < len := by have := (List.getElem?_eq_some_iff.1 hj).1; rwa [hl] at this
      refine ⟨hjl, ?_⟩
      simp only [List.getElem?_map] at hj
      rw [List.getElem?_range hjl] at hj
      simpa using hj
    refine ⟨(List.range len).map q, ⟨some a, cap, by rw [hl], by rw [hl]; exact hlc, fun hn => ?_⟩, fun x hx => ?_⟩
    · rw [hl] at hn
      have hspot : (a.add (0 * m + 0)).spot = none := rec_spot ((hq 0 hn).2 0 _ (List.getElem?_eq_getElem (by rw [hlen0]; exact hm0)))
      have ea : a.add (0 * m + 0) = a := by simp [Addr.add]
      rw [ea] at hspot
      obtain ⟨b, o, sp⟩ := a
      obtain rfl : sp = none := hspot
      have hadd : ∀ j, (⟨b, o, none⟩ : Addr).add j = ⟨b, o + j, none⟩ := by
        intro j
        simp [Addr.add]
        try omega
      refine ⟨b, o, rfl, ?_, fun j x hj i u hu => ?_⟩
      · have hmem : MemPlace.cell b (o + 0) ∈ ps := by
          rw [hps]
          refine List.mem_append_left _ ?_
          rw [hC]
          have : 0 < mm * m := Nat.mul_pos (by omega) hm0
          simp [MemPlace.row]
          omega
        exact hlt _ hmem
      · obtain ⟨hjl, rfl⟩ := hget j x hj
        have := (hq j hjl).2 i u hu
        rw [hadd] at this
        rw [Nat.add_assoc]; exact this
    · obtain ⟨j, hj, rfl⟩ := List.mem_map.1 hx
      exact (hq j (List.mem_range.1 hj)).1
end
end Go.Proofs.Ythkocbfioegcnaa
