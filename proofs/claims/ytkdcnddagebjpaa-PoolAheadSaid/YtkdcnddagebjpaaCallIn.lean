/-
  A slice of calls (three ints and a row: six cells) that came in.
-/
import Derived.Test.YtkdcnddagebjpaaUpd
import Derived.Deep.Slices
import Derived.Deep.Fields
import Derived.ChangeSame
namespace Go.Proofs.Ytkdcnddagebjpaa
open Go.ChangeShapes Go.WideShapes Go.ChangeAt Go.RowKit Go.Deep

set_option linter.unusedSimpArgs false
set_option linter.unusedVariables false

/-- A call, as a law is handed it. -/
structure CallD where
  k : Int
  p : Int
  s : Int
  t : Int
  key : ByteArray
  val : ByteArray
instance : Inhabited CallD := ⟨⟨0, 0, 0, 0, ⟨#[]⟩, ⟨#[]⟩⟩⟩
def CallD.cells (x : CallD) : List Value := [.int .i64 x.k, .int .i64 x.p, .int .i64 x.s, .int .i64 x.t, .string x.key, .string x.val]
/-- v is a slice of the calls rs; all lies below block B. -/
def CallRow (w : World) (B : Nat) (v : Value) (rs : List CallD) : Prop :=
  ∃ A c, v = .slice A rs.length c ∧ (0 < rs.length → ∃ b o, A = some ⟨b, o, none⟩ ∧ b < B ∧ ∀ j x, rs[j]? = some x → ∀ i u, x.cells[i]? = some u → w.cell? ⟨b, o + j * 6 + i, none⟩ = some u)
/-- What is to be known of call k. -/
theorem call_at {w wr : World} {B k : Nat} {v : Value} {cs : List CallD} (hv : CallRow w B v cs) (hb : Below B w wr) (hk : k < cs.length) : ∃ b o cap, v = .slice (some ⟨b, o, none⟩) cs.length cap ∧
    wr.rangeAt b (o + k * 6) [.int .i64 cs[k].k, .int .i64 cs[k].p, .int .i64 cs[k].s, .int .i64 cs[k].t, .string cs[k].key, .string cs[k].val] := by
  obtain ⟨A0, cap, rfl, hcells⟩ := hv
  obtain ⟨b, o, rfl, hbB, hcell⟩ := hcells (by omega)
  exact ⟨b, o, cap, rfl, fun j u hu => (hb.cell (p := ⟨b, o + k * 6 + j, none⟩) hbB).trans (hcell k _ (List.getElem?_eq_getElem hk) j u hu)⟩
theorem call_spot {w : World} {a : Addr} {v : Value} (h : w.cell? a = some v) : a.spot = none := by
  unfold World.cell? at h
  cases hs : a.spot with
  | none => rfl
  | some k =>
    rw [hs] at h
    revert h
    split <;> simp
section
variable {w : World} {B : Nat} {H : Type} {enc : TypeId × Value → H} {P : Program} {base b0 : Nat} {spare : Nat → Bool} {held : Bool} {r : Reach}
theorem open_callsl {t e : TypeId} {g0 g1 g2 g3 f0 f1 f2 : Field} {v : Value} {d : DataW H} {ps : List MemPlace} (ht : P.underlying t = some (.slice e)) (he : P.underlying e = some (.struct #[g0, g1, g2, g3])) (hC : P.cellsOf e = 6) (q0 : g0.offset = 0 ∧ P.cellsOf g0.type = 1) (q1 : g1.offset = 1 ∧ P.cellsOf g1.type = 1) (q2 : g2.offset = 2 ∧ P.cellsOf g2.type = 1) (q3 : g3.offset = 3 ∧ P.cellsOf g3.type = 3)
    (z0 : P.underlying g0.type = some (.int .i64)) (z1 : P.underlying g1.type = some (.int .i64)) (z2 : P.underlying g2.type = some (.int .i64)) (hrow : P.underlying g3.type = some (.struct #[f0, f1, f2])) (hone : oneCellFields P #[f0, f1, f2] = true)
    (u0 : P.underlying f0.type = some (.int .i64)) (u1 : P.underlying f1.type = some .string) (u2 : P.underlying f2.type = some .string)
    (hval : Value.okWide P w r b0 t v) (hd : DataW.Trod enc P w base spare held t v d ps) (hlt : ∀ x ∈ ps, x.block < B) : ∃ rs : List CallD, CallRow w B v rs := by
  obtain ⟨a0, len, cap, rfl⟩ := okWide_slice ht hval
  obtain ⟨fuel, hf⟩ := hd
  have hf' : DataW.trod enc P w base spare held fuel t [.slice a0 len cap] = some (d, ps) := by simpa [Value.cells] using hf
  rcases Go.Deep.open_slice ht hf' with ⟨h0, _⟩ | ⟨a, len', cap', m, n, D, Pl, h0, _, hlc, hcm, hm, hx, hi⟩
  · injection h0 with h0
    rw [h0]
    exact ⟨[], none, 0, rfl, fun h => absurd h (by simp)⟩
  · injection h0 with h0
    injection h0 with e1 e2 e3
    subst e1 e2 e3
    have hlm : len ≤ m := by rw [hm]; split <;> omega
    have hps : ps = MemPlace.row a (m * P.cellsOf e) ++ (List.range m).flatMap Pl := congrArg Prod.snd hx
    have each : ∀ i, i < len → ∃ x : CallD, ∀ k u, x.cells[k]? = some u → w.cell? (a.add (i * 6 + k)) = some u := by
      intro i hil
      obtain ⟨cs', hc, ht'⟩ := hi i (by omega)
      rw [hC] at hc
      obtain ⟨ws, n2, _, hy2, hlen2, hxl2, hfl2⟩ := DataW.trod_struct he ht'
      obtain ⟨_, hcl, hat⟩ := World.cells?_some hc
      match cs', hcl with
      | [a0, a1, a2, c0, c1, c2], _ =>
        match ws, hxl2 with
        | [v0, v1, v2, v3], _ =>
        have hf0 := hfl2 0 g0 rfl
        have hf1 := hfl2 1 g1 rfl
        have hf2 := hfl2 2 g2 rfl
        have hf3 := hfl2 3 g3 rfl
        simp only [q0.1, q0.2, List.drop_zero, List.take_succ_cons, List.take_zero] at hf0
        simp only [q1.1, q1.2, List.drop_succ_cons, List.drop_zero, List.take_succ_cons, List.take_zero] at hf1
        simp only [q2.1, q2.2, List.drop_succ_cons, List.drop_zero, List.take_succ_cons, List.take_zero] at hf2
        simp only [q3.1, q3.2, List.drop_succ_cons, List.drop_zero, List.take_succ_cons, List.take_zero] at hf3
        obtain ⟨zk, d0, _, _⟩ := DataW.trod_int z0 hf0
        obtain ⟨zp, d1, _, _⟩ := DataW.trod_int z1 hf1
        obtain ⟨zs, d2, _, _⟩ := DataW.trod_int z2 hf2
        injection d0 with d0
        injection d1 with d1
        injection d2 with d2
        subst d0 d1 d2
        obtain ⟨xs, n', _, hy, hlen, hxl, hfl⟩ := DataW.trod_struct hrow hf3
        match xs, hxl with
        | [y0, y1, y2], _ =>
          obtain ⟨o0, k0⟩ := Go.Deep.hone_of hone 0 f0 rfl
          obtain ⟨o1, k1⟩ := Go.Deep.hone_of hone 1 f1 rfl
          obtain ⟨o2, k2⟩ := Go.Deep.hone_of hone 2 f2 rfl
          have k0' : DataW.trod enc P w base spare held n' f0.type [c0] = some y0 := by simpa [o0, k0] using hfl 0 f0 rfl
          have k1' : DataW.trod enc P w base spare held n' f1.type [c1] = some y1 := by simpa [o1, k1] using hfl 1 f1 rfl
          have k2' : DataW.trod enc P w base spare held n' f2.type [c2] = some y2 := by simpa [o2, k2] using hfl 2 f2 rfl
          obtain ⟨r0, e0, _, _⟩ := DataW.trod_int u0 k0'
          obtain ⟨r1, e1, _, _⟩ := DataW.trod_string u1 k1'
          obtain ⟨r2, e2, _, _⟩ := DataW.trod_string u2 k2'
          injection e0 with e0
          injection e1 with e1
          injection e2 with e2
          subst e0 e1 e2
          refine ⟨⟨zk, zp, zs, r0, r1, r2⟩, fun k u hu => ?_⟩
          have hk : k < 6 := by have := (List.getElem?_eq_some_iff.1 hu).1; simpa [CallD.cells] using this
          have := hat k hk
          rw [Go.Deep.add_add] at this
          rw [this]
          exact hu
    obtain ⟨q, hq⟩ := Go.Deep.choose_lt each
    have hl : ((List.range len).map q).length = len := by simp
    have hget : ∀ j x, ((List.range len).map q)[j]? = some x → j < len ∧ q j = x := by
      intro j x hj
      have hjl : j < len := by have := (List.getElem?_eq_some_iff.1 hj).1; rwa [hl] at this
      refine ⟨hjl, ?_⟩
      simp only [List.getElem?_map] at hj
      rw [List.getElem?_range hjl] at hj
      simpa using hj
    refine ⟨(List.range len).map q, some a, cap, by rw [hl], fun hn => ?_⟩
    rw [hl] at hn
    have hspot : (a.add (0 * 6 + 0)).spot = none := call_spot (hq 0 hn 0 _ rfl)
    have ea : a.add (0 * 6 + 0) = a := by simp [Addr.add]
    rw [ea] at hspot
    obtain ⟨b, o, sp⟩ := a
    obtain rfl : sp = none := hspot
    have hadd : ∀ j, (⟨b, o, none⟩ : Addr).add j = ⟨b, o + j, none⟩ := by
      intro j
      simp [Addr.add]
      try omega
    refine ⟨b, o, rfl, ?_, fun j x hj i u hu => ?_⟩
    · have hmem : MemPlace.cell b (o + 0) ∈ ps := by
        rw [hps]
        refine List.mem_append_left _ ?_
        rw [hC]
        simp [MemPlace.row]
        omega
      exact hlt _ hmem
    · obtain ⟨hjl, rfl⟩ := hget j x hj
      have := hq j hjl i u hu
      rw [hadd] at this
      rw [Nat.add_assoc]; exact this
end
end Go.Proofs.Ytkdcnddagebjpaa
