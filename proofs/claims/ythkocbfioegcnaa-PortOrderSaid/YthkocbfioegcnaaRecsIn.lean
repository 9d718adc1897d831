/-
  A slice of structs that came in, whatever their fields: it reads as a list of records, each with its cells (nil let in).
-/
import Derived.Test.YthkocbfioegcnaaB3
import Derived.Deep.Slices
import Derived.Deep.Fields
import Derived.ChangeSame
namespace Go.Proofs.Ythkocbfioegcnaa
open Go.ChangeShapes Go.WideShapes Go.ChangeAt Go.RowKit Go.Deep
set_option linter.unusedSimpArgs false
set_option linter.unusedVariables false

/-- v is a slice of the records rs, of m cells each; all lies below block B. -/
def RecRow {α : Type} (m : Nat) (cells : α → List Value) (ok : α → Prop) (w : World) (B : Nat) (v : Value) (rs : List α) : Prop :=
  (∃ A c, v = .slice A rs.length c ∧ rs.length ≤ c ∧ (0 < rs.length → ∃ b o, A = some ⟨b, o, none⟩ ∧ b < B ∧ ∀ j x, rs[j]? = some x → ∀ i u, (cells x)[i]? = some u → w.cell? ⟨b, o + j * m + i, none⟩ = some u)) ∧ ∀ x ∈ rs, ok x
section
variable {α : Type} {m : Nat} {cells : α → List Value} {ok : α → Prop} {w w' : World} {B : Nat} {v : Value} {rs : List α}
theorem RecRow.below (h : RecRow m cells ok w B v rs) (hb : Below B w w') : RecRow m cells ok w' B v rs := by
  obtain ⟨⟨A, c, rfl, hc, h1⟩, h2⟩ := h
  refine ⟨⟨A, c, rfl, hc, fun hn => ?_⟩, h2⟩
  obtain ⟨b, o, rfl, hbB, hcell⟩ := h1 hn
  exact ⟨b, o, rfl, hbB, fun j x hj i u hu => (hb.cell (p := ⟨b, o + j * m + i, none⟩) hbB).trans (hcell j x hj i u hu)⟩
/-- What is to be known of record k. -/
theorem rec_at {n cap k : Nat} {A : Option Addr} {c : α} (hv : RecRow m cells ok w B (.slice A n cap) rs) (hb : Below B w w') (hk : rs[k]? = some c) : n = rs.length ∧ ∃ b o, A = some ⟨b, o, none⟩ ∧ (∀ i u, (cells c)[i]? = some u → w'.cell? ⟨b, o + k * m + i, none⟩ = some u) ∧ ok c := by
  obtain ⟨⟨A0, cap0, e, _, h1⟩, h2⟩ := hv
  have hlt : k < rs.length := (List.getElem?_eq_some_iff.1 hk).1
  obtain ⟨b, o, rfl, hbB, hcell⟩ := h1 (by omega)
  injection e with e1 e2 e3
  exact ⟨e2, b, o, e1, fun i u hu => (hb.cell (p := ⟨b, o + k * m + i, none⟩) hbB).trans (hcell k c hk i u hu), h2 c (List.mem_of_getElem? hk)⟩
end
theorem rec_spot {w : World} {a : Addr} {v : Value} (h : w.cell? a = some v) : a.spot = none := by
  unfold World.cell? at h
  cases hs : a.spot with
  | none => rfl
  | some k =>
    rw [hs] at h
    revert h
    split <;> simp
section
variable {w : World} {B : Nat} {H : Type} {enc : TypeId × Value → H} {P : Program} {base b0 : Nat} {spare : Nat → Bool} {held : Bool} {r : Reach}
theorem open_recs {α : Type} [Inhabited α] {t e : TypeId} {v : Value} {d : DataW H} {ps : List MemPlace} (m : Nat) (cells : α → List Value) (ok : α → Prop) (ht : P.underlying t = some (.slice e)) (hC : P.cellsOf e = m) (hm0 : 0 < m) (hlen0 : ∀ x, (cells x).length = m)
    (rd : ∀ (fuel : Nat) (cs : List Value) (z : DataW H × List MemPlace), DataW.trod enc P w base spare held fuel e cs = some z → ∃ x : α, cs = cells x ∧ ok x)
    (hval : Value.okWide P w r b0 t v) (hd : DataW.Trod enc P w base spare held t v d ps) (hlt : ∀ x ∈ ps, x.block < B) : ∃ rs : List α, RecRow m cells ok w B v rs := by
  obtain ⟨a0, len, cap, rfl⟩ := okWide_slice ht hval
  obtain ⟨fuel, hf⟩ := hd
  have hf' : DataW.trod enc P w base spare held fuel t [.slice a0 len cap] = some (d, ps) := by simpa [Value.cells] using hf
  rcases Go.Deep.open_slice ht hf' with ⟨h0', _⟩ | ⟨a, len', cap', mm, n, D, Pl, h0', _, hlc, hcm, hm, hx, hi'⟩
  · injection h0' with h0'
    rw [h0']
    exact ⟨[], ⟨none, 0, rfl, Nat.le_refl _, fun h => absurd h (by simp)⟩, fun x hx => by cases hx⟩
  · injection h0' with h0'
    injection h0' with e1 e2 e3
    subst e1 e2 e3
    have hlm : len ≤ mm := by rw [hm]; split <;> omega
    have hps : ps = MemPlace.row a (mm * P.cellsOf e) ++ (List.range mm).flatMap Pl := congrArg Prod.snd hx
    have each : ∀ i, i < len → ∃ x : α, ok x ∧ ∀ k u, (cells x)[k]? = some u → w.cell? (a.add (i * m + k)) = some u := by
      intro i hil
      obtain ⟨cs', hc, ht'⟩ := hi' i (by omega)
      rw [hC] at hc
      obtain ⟨x, rfl, hok⟩ := rd _ _ _ ht'
      obtain ⟨_, hcl, hat⟩ := World.cells?_some hc
      refine ⟨x, hok, fun k u hu => ?_⟩
      have hk : k < m := by have := (List.getElem?_eq_some_iff.1 hu).1; rwa [hlen0] at this
      have := hat k hk
      rw [Go.Deep.add_add] at this
      rw [this]
      exact hu
    obtain ⟨q, hq⟩ := Go.Deep.choose_lt each
    have hl : ((List.range len).map q).length = len := by simp
    have hget : ∀ j x, ((List.range len).map q)[j]? = some x → j < len ∧ q j = x := by
      intro j x hj
      have hjl : j < len := by have := (List.getElem?_eq_some_iff.1 hj).1; rwa [hl] at this
      refine ⟨hjl, ?_⟩
      simp only [List.getElem?_map] at hj
      rw [List.getElem?_range hjl] at hj
      simpa using hj
    refine ⟨(List.range len).map q, ⟨some a, cap, by rw [hl], by rw [hl]; exact hlc, fun hn => ?_⟩, fun x hx => ?_⟩
    · rw [hl] at hn
      have hspot : (a.add (0 * m + 0)).spot = none := rec_spot ((hq 0 hn).2 0 _ (List.getElem?_eq_getElem (by rw [hlen0]; exact hm0)))
      have ea : a.add (0 * m + 0) = a := by simp [Addr.add]
      rw [ea] at hspot
      obtain ⟨b, o, sp⟩ := a
      obtain rfl : sp = none := hspot
      have hadd : ∀ j, (⟨b, o, none⟩ : Addr).add j = ⟨b, o + j, none⟩ := by
        intro j
        simp [Addr.add]
        try omega
      refine ⟨b, o, rfl, ?_, fun j x hj i u hu => ?_⟩
      · have hmem : MemPlace.cell b (o + 0) ∈ ps := by
          rw [hps]
          refine List.mem_append_left _ ?_
          rw [hC]
          have : 0 < mm * m := Nat.mul_pos (by omega) hm0
          simp [MemPlace.row]
          omega
        exact hlt _ hmem
      · obtain ⟨hjl, rfl⟩ := hget j x hj
        have := (hq j hjl).2 i u hu
        rw [hadd] at this
        rw [Nat.add_assoc]; exact this
    · obtain ⟨j, hj, rfl⟩ := List.mem_map.1 hx
      exact (hq j (List.mem_range.1 hj)).1
end
end Go.Proofs.Ythkocbfioegcnaa
