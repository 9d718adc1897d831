/-
  A slice of rows that came in (nil let in).
-/
import Derived.Test.YtajpjffjhnmfmaaMem
import Derived.Test.YtajpjffjhnmfmaaOwn
import Derived.Deep.Slices
import Derived.Deep.Fields
import Derived.ChangeSame
namespace Go.Proofs.Ytajpjffjhnmfmaa
open Go.ChangeShapes Go.WideShapes Go.ChangeAt Go.RowKit Go.Deep

set_option linter.unusedSimpArgs false
set_option linter.unusedVariables false

/-- A row, as a law is handed it. -/
structure RowD where
  t : Int
  k : ByteArray
  v : ByteArray
instance : Inhabited RowD := ⟨⟨0, ⟨#[]⟩, ⟨#[]⟩⟩⟩
def RowD.cells (x : RowD) : List Value := [.int .i64 x.t, .string x.k, .string x.v]
/-- v is a slice of the rows rs; all lies below block B. -/
def RowRow (w : World) (B : Nat) (v : Value) (rs : List RowD) : Prop :=
  ∃ A c, v = .slice A rs.length c ∧ (0 < rs.length → ∃ b o, A = some ⟨b, o, none⟩ ∧ b < B ∧ ∀ j x, rs[j]? = some x → ∀ i u, x.cells[i]? = some u → w.cell? ⟨b, o + j * 3 + i, none⟩ = some u)
theorem RowRow.below {w w' : World} {B : Nat} {v : Value} {rs : List RowD} (h : RowRow w B v rs) (hb : Below B w w') : RowRow w' B v rs := by
  obtain ⟨A, c, rfl, h1⟩ := h
  refine ⟨A, c, rfl, fun hn => ?_⟩
  obtain ⟨b, o, rfl, hbB, hc⟩ := h1 hn
  exact ⟨b, o, rfl, hbB, fun j x hj i u hu => (hb.cell (p := ⟨b, o + j * 3 + i, none⟩) hbB).trans (hc j x hj i u hu)⟩
theorem row_spot {w : World} {a : Addr} {v : Value} (h : w.cell? a = some v) : a.spot = none := by
  unfold World.cell? at h
  cases hs : a.spot with
  | none => rfl
  | some k =>
    rw [hs] at h
    revert h
    split <;> simp
section
variable {w : World} {B : Nat} {H : Type} {enc : TypeId × Value → H} {P : Program} {base b0 : Nat} {spare : Nat → Bool} {held : Bool} {r : Reach}
theorem open_rowsl {t e : TypeId} {f0 f1 f2 : Field} {v : Value} {d : DataW H} {ps : List MemPlace} (ht : P.underlying t = some (.slice e)) (he : P.underlying e = some (.struct #[f0, f1, f2])) (hone : oneCellFields P #[f0, f1, f2] = true) (hC : P.cellsOf e = 3)
    (u0 : P.underlying f0.type = some (.int .i64)) (u1 : P.underlying f1.type = some .string) (u2 : P.underlying f2.type = some .string)
    (hval : Value.okWide P w r b0 t v) (hd : DataW.Trod enc P w base spare held t v d ps) (hlt : ∀ x ∈ ps, x.block < B) : ∃ rs : List RowD, RowRow w B v rs := by
  obtain ⟨a0, len, cap, rfl⟩ := okWide_slice ht hval
  obtain ⟨fuel, hf⟩ := hd
  have hf' : DataW.trod enc P w base spare held fuel t [.slice a0 len cap] = some (d, ps) := by simpa [Value.cells] using hf
  rcases Go.Deep.open_slice ht hf' with ⟨h0, _⟩ | ⟨a, len', cap', m, n, D, Pl, h0, _, hlc, hcm, hm, hx, hi⟩
  · injection h0 with h0
    rw [h0]
    exact ⟨[], none, 0, rfl, fun h => absurd h (by simp)⟩
  · injection h0 with h0
    injection h0 with e1 e2 e3
    subst e1 e2 e3
    have hlm : len ≤ m := by rw [hm]; split <;> omega
    have hps : ps = MemPlace.row a (m * P.cellsOf e) ++ (List.range m).flatMap Pl := congrArg Prod.snd hx
    have each : ∀ i, i < len → ∃ x : RowD, ∀ k u, x.cells[k]? = some u → w.cell? (a.add (i * 3 + k)) = some u := by
      intro i hil
      obtain ⟨cs', hc, ht'⟩ := hi i (by omega)
      rw [hC] at hc
      obtain ⟨xs, n', _, hy, hlen, hxl, hfl⟩ := DataW.trod_struct he ht'
      obtain ⟨_, hcl, hat⟩ := World.cells?_some hc
      match cs', hcl with
      | [c0, c1, c2], _ =>
        match xs, hxl with
        | [y0, y1, y2], _ =>
          obtain ⟨o0, k0⟩ := Go.Deep.hone_of hone 0 f0 rfl
          obtain ⟨o1, k1⟩ := Go.Deep.hone_of hone 1 f1 rfl
          obtain ⟨o2, k2⟩ := Go.Deep.hone_of hone 2 f2 rfl
          have g0 : DataW.trod enc P w base spare held n' f0.type [c0] = some y0 := by simpa [o0, k0] using hfl 0 f0 rfl
          have g1 : DataW.trod enc P w base spare held n' f1.type [c1] = some y1 := by simpa [o1, k1] using hfl 1 f1 rfl
          have g2 : DataW.trod enc P w base spare held n' f2.type [c2] = some y2 := by simpa [o2, k2] using hfl 2 f2 rfl
          obtain ⟨z0, e0, _, _⟩ := DataW.trod_int u0 g0
          obtain ⟨z1, e1, _, _⟩ := DataW.trod_string u1 g1
          obtain ⟨z2, e2, _, _⟩ := DataW.trod_string u2 g2
          injection e0 with e0
          injection e1 with e1
          injection e2 with e2
          subst e0 e1 e2
          refine ⟨⟨z0, z1, z2⟩, fun k u hu => ?_⟩
          have hk : k < 3 := by have := (List.getElem?_eq_some_iff.1 hu).1; simpa [RowD.cells] using this
          have := hat k hk
          rw [Go.Deep.add_add] at this
          rw [this]
          exact hu
    obtain ⟨q, hq⟩ := Go.Deep.choose_lt each
    have hl : ((List.range len).map q).length = len := by simp
    have hget : ∀ j x, ((List.range len).map q)[j]? = some x → j < len ∧ q j = x := by
      intro j x hj
      have hjl : j < len := by have := (List.getElem?_eq_some_iff.1 hj).1; rwa [hl] at this
      refine ⟨hjl, ?_⟩
      simp only [List.getElem?_map] at hj
      rw [List.getElem?_range hjl] at hj
      simpa using hj
    refine ⟨(List.range len).map q, some a, cap, by rw [hl], fun hn => ?_⟩
    rw [hl] at hn
    have hspot : (a.add (0 * 3 + 0)).spot = none := row_spot (hq 0 hn 0 _ rfl)
    have ea : a.add (0 * 3 + 0) = a := by simp [Addr.add]
    rw [ea] at hspot
    obtain ⟨b, o, sp⟩ := a
    obtain rfl : sp = none := hspot
    have hadd : ∀ j, (⟨b, o, none⟩ : Addr).add j = ⟨b, o + j, none⟩ := by
      intro j
      simp [Addr.add]
      try omega
    refine ⟨b, o, rfl, ?_, fun j x hj i u hu => ?_⟩
    · have hmem : MemPlace.cell b (o + 0) ∈ ps := by
        rw [hps]
        refine List.mem_append_left _ ?_
        rw [hC]
        simp [MemPlace.row]
        omega
      exact hlt _ hmem
    · obtain ⟨hjl, rfl⟩ := hget j x hj
      have := hq j hjl i u hu
      rw [hadd] at this
      rw [Nat.add_assoc]; exact this
end
end Go.Proofs.Ytajpjffjhnmfmaa
