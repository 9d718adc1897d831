/-
  A slice of pairs of ints that came in (nil let in).
-/
import Derived.Test.YtalojooicpkdhaaMem
import Derived.Test.YtalojooicpkdhaaRows
import Derived.Deep.SlicePairs
namespace Go.Proofs.Ytalojooicpkdhaa
open Go.ChangeShapes Go.WideShapes Go.ChangeAt Go.RowKit

/-- v is a slice whose elements, two ints each, are cs; its array lies below block B. -/
def Pairs (w : World) (B : Nat) (v : Value) (cs : List (Int × Int)) : Prop :=
  ∃ A c, v = .slice A cs.length c ∧ (0 < cs.length → ∃ b o, A = some ⟨b, o, none⟩ ∧ b < B ∧ ∀ j x, cs[j]? = some x → w.cell? ⟨b, o + j * 2, none⟩ = some (.int .i64 x.1) ∧ w.cell? ⟨b, o + j * 2 + 1, none⟩ = some (.int .i64 x.2))

theorem open_pairs {w : World} {B : Nat} {H : Type} {enc : TypeId × Value → H} {P : Program} {base b0 : Nat} {spare : Nat → Bool} {held : Bool} {r : Reach} {t e : TypeId} {f0 f1 : Field} {v : Value} {d : DataW H} {ps : List MemPlace}
    (ht : P.underlying t = some (.slice e)) (he : P.underlying e = some (.struct #[f0, f1]))
    (ce : P.cellsOf e = 2) (o0 : f0.offset = 0) (o1 : f1.offset = 1) (c0 : P.cellsOf f0.type = 1) (c1 : P.cellsOf f1.type = 1)
    (u0 : P.underlying f0.type = some (.int .i64)) (u1 : P.underlying f1.type = some (.int .i64)) (hval : Value.okWide P w r b0 t v)
    (hd : DataW.Trod enc P w base spare held t v d ps) (hlt : ∀ x ∈ ps, x.block < B) :
    ∃ cs : List (Int × Int), Pairs w B v cs := by
  obtain ⟨a0, len, cap, rfl⟩ := okWide_slice ht hval
  obtain ⟨fuel, hf⟩ := hd
  have hf' : DataW.trod enc P w base spare held fuel t [.slice a0 len cap] = some (d, ps) := by simpa [Value.cells] using hf
  rcases Go.Deep.open_slice_pairs ht he ce o0 o1 c0 c1 hf' with ⟨h0, _⟩ | ⟨a, len', cap', m, n, V0, V1, D0, D1, P0, P1, h0, _, hlc, hcm, hm, hx, hcell⟩
  · injection h0 with h0
    rw [h0]
    exact ⟨[], _, _, rfl, fun h => absurd h (by simp)⟩
  · injection h0 with h0
    injection h0 with e1 e2 e3
    subst e1 e2 e3
    have hlm : len ≤ m := by rw [hm]; split <;> omega
    have each : ∀ i, i < len → ∃ x : Int × Int, w.cell? (a.add (i * 2)) = some (.int .i64 x.1) ∧ w.cell? (a.add (i * 2 + 1)) = some (.int .i64 x.2) := by
      intro i hi
      obtain ⟨g0, g1, g2, g3⟩ := hcell i (by omega)
      obtain ⟨n0, e0, _⟩ := DataW.trod_int u0 g2
      obtain ⟨n1, e1, _⟩ := DataW.trod_int u1 g3
      injection e0 with e0
      injection e1 with e1
      rw [e0] at g0
      rw [e1] at g1
      exact ⟨(n0, n1), g0, g1⟩
    obtain ⟨q, hq⟩ := Go.Deep.choose_lt each
    have hl : ((List.range len).map q).length = len := by simp
    refine ⟨(List.range len).map q, some a, cap, by rw [hl], fun hn => ?_⟩
    rw [hl] at hn
    have hspot : a.spot = none := by
      have h := (hq 0 hn).1
      have e : a.add (0 * 2) = a := by simp [Addr.add]
      rw [e] at h
      unfold World.cell? at h
      cases hs : a.spot with
      | none => rfl
      | some k =>
        rw [hs] at h
        revert h
        split <;> simp
    obtain ⟨b, o, sp⟩ := a
    obtain rfl : sp = none := hspot
    have hadd : ∀ j, (⟨b, o, none⟩ : Addr).add j = ⟨b, o + j, none⟩ := by
      intro j
      simp [Addr.add]
      try omega
    refine ⟨b, o, rfl, ?_, fun j x hx => ?_⟩
    · have h1 : ps = MemPlace.row ⟨b, o, none⟩ (m * 2) ++ (List.range m).flatMap fun i => P0 i ++ P1 i := congrArg Prod.snd hx
      have hmem : MemPlace.cell b (o + 0) ∈ ps := by
        rw [h1]
        refine List.mem_append_left _ ?_
        simp [MemPlace.row]
        omega
      exact hlt _ hmem
    · have hj : j < len := by
        have := (List.getElem?_eq_some_iff.1 hx).1
        rwa [hl] at this
      have hxq : q j = x := by
        simp only [List.getElem?_map] at hx
        rw [List.getElem?_range hj] at hx
        simpa using hx
      have := hq j hj
      rw [hxq, hadd, hadd] at this
      rw [Nat.add_assoc]
      exact this
end Go.Proofs.Ytalojooicpkdhaa
