/-
  Items (a row, and two ints: five cells) that come in: alone, and in a slice of calls (an int, and an item: six cells); each with the bounds of its parts.
-/
import Derived.Test.YtkcomkllnhdohaaMapS
import Derived.Deep.Slices
import Derived.Deep.Fields
import Derived.ChangeSame
import Derived.SizedLaws
namespace Go.Proofs.Ytkcomkllnhdohaa
open Go.ChangeShapes Go.WideShapes Go.ChangeAt Go.RowKit Go.Deep
set_option linter.unusedSimpArgs false
set_option linter.unusedVariables false

/-- An item, as a law is handed it. -/
structure It where
  t : Int
  key : ByteArray
  val : ByteArray
  p : Int
  s : Int
instance : Inhabited It := ⟨⟨0, ⟨#[]⟩, ⟨#[]⟩, 0, 0⟩⟩
def It.cells (x : It) : List Value := [.int .i64 x.t, .string x.key, .string x.val, .int .i64 x.p, .int .i64 x.s]
def It.v (x : It) : Value := .agg #[.int .i64 x.t, .string x.key, .string x.val, .int .i64 x.p, .int .i64 x.s]
structure It.Ok (x : It) : Prop where
  t : (Lit.int .i64 x.t).wf = true
  key : x.key.size ≤ 140737488351232
  val : x.val.size ≤ 140737488351232
  p : (Lit.int .i64 x.p).wf = true
  s : (Lit.int .i64 x.s).wf = true
structure ICall where
  k : Int
  it : It
instance : Inhabited ICall := ⟨⟨0, default⟩⟩
def ICall.cells (x : ICall) : List Value := .int .i64 x.k :: x.it.cells
/-- v is a slice of the calls rs; all lies below block B. -/
def ICallRow (w : World) (B : Nat) (v : Value) (rs : List ICall) : Prop :=
  (∃ A c, v = .slice A rs.length c ∧ rs.length ≤ c ∧ (0 < rs.length → ∃ b o, A = some ⟨b, o, none⟩ ∧ b < B ∧ ∀ j x, rs[j]? = some x → ∀ i u, x.cells[i]? = some u → w.cell? ⟨b, o + j * 6 + i, none⟩ = some u)) ∧ ∀ x ∈ rs, (Lit.int .i64 x.k).wf = true ∧ x.it.Ok
/-- What is to be known of call k. -/
theorem icall_at {w wr : World} {B k : Nat} {v : Value} {cs : List ICall} (hv : ICallRow w B v cs) (hb : Below B w wr) (hk : k < cs.length) : ∃ b o cap, v = .slice (some ⟨b, o, none⟩) cs.length cap ∧
    wr.rangeAt b (o + k * 6) [.int .i64 cs[k].k, .int .i64 cs[k].it.t, .string cs[k].it.key, .string cs[k].it.val, .int .i64 cs[k].it.p, .int .i64 cs[k].it.s] ∧ cs[k].it.Ok := by
  obtain ⟨⟨A0, cap, rfl, _, hcells⟩, hok⟩ := hv
  obtain ⟨b, o, rfl, hbB, hcell⟩ := hcells (by omega)
  exact ⟨b, o, cap, rfl, fun j u hu => (hb.cell (p := ⟨b, o + k * 6 + j, none⟩) hbB).trans (hcell k _ (List.getElem?_eq_getElem hk) j u hu), (hok _ (List.getElem_mem hk)).2⟩
theorem item_spot {w : World} {a : Addr} {v : Value} (h : w.cell? a = some v) : a.spot = none := by
  unfold World.cell? at h
  cases hs : a.spot with
  | none => rfl
  | some k =>
    rw [hs] at h
    revert h
    split <;> simp
section
variable {w : World} {B : Nat} {H : Type} {enc : TypeId × Value → H} {P : Program} {base b0 : Nat} {spare : Nat → Bool} {held : Bool} {r : Reach}
theorem weightsAll_mem {P : Program} {H : Type} {e : TypeId} {n : Nat} : ∀ {l : List (DataW H)} {d : DataW H}, d ∈ l → n ∈ d.weights P e → n ∈ DataW.weightsAll P e l
  | a :: l, d, h, hn => by
    unfold DataW.weightsAll
    rw [List.mem_append]
    rcases List.mem_cons.1 h with rfl | h
    · exact .inl hn
    · exact .inr (weightsAll_mem h hn)
theorem trod_item {e : TypeId} {h0 h1 h2 f0 f1 f2 : Field} {fuel : Nat} {cs : List Value} {z : DataW H × List MemPlace} (he : P.underlying e = some (.struct #[h0, h1, h2])) (hC : P.cellsOf e = 5) (q0 : h0.offset = 0 ∧ P.cellsOf h0.type = 3) (q1 : h1.offset = 3 ∧ P.cellsOf h1.type = 1) (q2 : h2.offset = 4 ∧ P.cellsOf h2.type = 1)
    (hrow : P.underlying h0.type = some (.struct #[f0, f1, f2])) (hone : oneCellFields P #[f0, f1, f2] = true) (u0 : P.underlying f0.type = some (.int .i64)) (u1 : P.underlying f1.type = some .string) (u2 : P.underlying f2.type = some .string) (z1 : P.underlying h1.type = some (.int .i64)) (z2 : P.underlying h2.type = some (.int .i64))
    (hd : DataW.trod enc P w base spare held fuel e cs = some z) (hwt : ∀ n ∈ z.1.weights P e, n ≤ reachBytes) : ∃ x : It, cs = x.cells ∧ x.Ok := by
  obtain ⟨ws, n2, _, hz2, hlen2, hxl2, hfl2⟩ := DataW.trod_struct he hd
  rw [hC] at hlen2
  match cs, hlen2 with
  | [c0, c1, c2, a3, a4], _ =>
    match ws, hxl2 with
    | [v0, v1, v2], _ =>
      have hf0 := hfl2 0 h0 rfl
      have hf1 := hfl2 1 h1 rfl
      have hf2 := hfl2 2 h2 rfl
      simp only [q0.1, q0.2, List.drop_zero, List.take_succ_cons, List.take_zero] at hf0
      simp only [q1.1, q1.2, List.drop_succ_cons, List.drop_zero, List.take_succ_cons, List.take_zero] at hf1
      simp only [q2.1, q2.2, List.drop_succ_cons, List.drop_zero, List.take_succ_cons, List.take_zero] at hf2
      obtain ⟨zp, d1, _, w1⟩ := DataW.trod_int z1 hf1
      obtain ⟨zs, d2, _, w2⟩ := DataW.trod_int z2 hf2
      injection d1 with d1
      injection d2 with d2
      subst d1 d2
      obtain ⟨xs, n', _, hy, hlen, hxl, hfl⟩ := DataW.trod_struct hrow hf0
      subst hz2
      match xs, hxl with
      | [y0, y1, y2], _ =>
        obtain ⟨o0, k0⟩ := Go.Deep.hone_of hone 0 f0 rfl
        obtain ⟨o1, k1⟩ := Go.Deep.hone_of hone 1 f1 rfl
        obtain ⟨o2, k2⟩ := Go.Deep.hone_of hone 2 f2 rfl
        have k0' : DataW.trod enc P w base spare held n' f0.type [c0] = some y0 := by simpa [o0, k0] using hfl 0 f0 rfl
        have k1' : DataW.trod enc P w base spare held n' f1.type [c1] = some y1 := by simpa [o1, k1] using hfl 1 f1 rfl
        have k2' : DataW.trod enc P w base spare held n' f2.type [c2] = some y2 := by simpa [o2, k2] using hfl 2 f2 rfl
        obtain ⟨r0, e0, _, w0⟩ := DataW.trod_int u0 k0'
        obtain ⟨r1, e1, y1e, w3⟩ := DataW.trod_string u1 k1'
        obtain ⟨r2, e2, y2e, w4⟩ := DataW.trod_string u2 k2'
        have hwk : r1.size ≤ 140737488351232 := hwt r1.size (by
          subst hy y1e y2e
          simp [DataW.weights, DataW.weightsEach, he, hrow])
        have hwv : r2.size ≤ 140737488351232 := hwt r2.size (by
          subst hy y1e y2e
          simp [DataW.weights, DataW.weightsEach, he, hrow])
        injection e0 with e0
        injection e1 with e1
        injection e2 with e2
        subst e0 e1 e2
        exact ⟨⟨r0, r1, r2, zp, zs⟩, rfl, ⟨w0, hwk, hwv, w1, w2⟩⟩
/-- An item alone. -/
theorem open_item {t : TypeId} {h0 h1 h2 f0 f1 f2 : Field} {v : Value} {d : DataW H} {ps : List MemPlace} (he : P.underlying t = some (.struct #[h0, h1, h2])) (hC : P.cellsOf t = 5) (q0 : h0.offset = 0 ∧ P.cellsOf h0.type = 3) (q1 : h1.offset = 3 ∧ P.cellsOf h1.type = 1) (q2 : h2.offset = 4 ∧ P.cellsOf h2.type = 1)
    (hrow : P.underlying h0.type = some (.struct #[f0, f1, f2])) (hone : oneCellFields P #[f0, f1, f2] = true) (u0 : P.underlying f0.type = some (.int .i64)) (u1 : P.underlying f1.type = some .string) (u2 : P.underlying f2.type = some .string) (z1 : P.underlying h1.type = some (.int .i64)) (z2 : P.underlying h2.type = some (.int .i64))
    (hval : Value.okWide P w r b0 t v) (hd : DataW.Trod enc P w base spare held t v d ps) (hwt : ∀ n ∈ d.weights P t, n ≤ reachBytes) : ∃ x : It, v = x.v ∧ x.Ok := by
  obtain ⟨cs, rfl, hsz⟩ := okWide_struct he hval
  obtain ⟨fuel, hf⟩ := hd
  have hf' : DataW.trod enc P w base spare held fuel t cs.toList = some (d, ps) := by simpa [Value.cells] using hf
  obtain ⟨x, hx, hok⟩ := trod_item he hC q0 q1 q2 hrow hone u0 u1 u2 z1 z2 hf' hwt
  refine ⟨x, ?_, hok⟩
  have : cs = x.cells.toArray := by rw [← hx]
  rw [this]
  rfl
theorem open_icalls {t e : TypeId} {g0 g1 h0 h1 h2 f0 f1 f2 : Field} {v : Value} {d : DataW H} {ps : List MemPlace} (ht : P.underlying t = some (.slice e)) (he : P.underlying e = some (.struct #[g0, g1])) (hC : P.cellsOf e = 6) (p0 : g0.offset = 0 ∧ P.cellsOf g0.type = 1) (p1 : g1.offset = 1 ∧ P.cellsOf g1.type = 5) (z0 : P.underlying g0.type = some (.int .i64))
    (hi : P.underlying g1.type = some (.struct #[h0, h1, h2])) (q0 : h0.offset = 0 ∧ P.cellsOf h0.type = 3) (q1 : h1.offset = 3 ∧ P.cellsOf h1.type = 1) (q2 : h2.offset = 4 ∧ P.cellsOf h2.type = 1)
    (hrow : P.underlying h0.type = some (.struct #[f0, f1, f2])) (hone : oneCellFields P #[f0, f1, f2] = true) (u0 : P.underlying f0.type = some (.int .i64)) (u1 : P.underlying f1.type = some .string) (u2 : P.underlying f2.type = some .string) (z1 : P.underlying h1.type = some (.int .i64)) (z2 : P.underlying h2.type = some (.int .i64))
    (hval : Value.okWide P w r b0 t v) (hd : DataW.Trod enc P w base spare held t v d ps) (hlt : ∀ x ∈ ps, x.block < B) (hwt : ∀ n ∈ d.weights P t, n ≤ reachBytes) : ∃ rs : List ICall, ICallRow w B v rs := by
  obtain ⟨a0, len, cap, rfl⟩ := okWide_slice ht hval
  obtain ⟨fuel, hf⟩ := hd
  have hf' : DataW.trod enc P w base spare held fuel t [.slice a0 len cap] = some (d, ps) := by simpa [Value.cells] using hf
  rcases Go.Deep.open_slice ht hf' with ⟨h0', _⟩ | ⟨a, len', cap', m, n, D, Pl, h0', _, hlc, hcm, hm, hx, hi'⟩
  · injection h0' with h0'
    rw [h0']
    exact ⟨[], ⟨none, 0, rfl, Nat.le_refl _, fun h => absurd h (by simp)⟩, fun x hx => by cases hx⟩
  · injection h0' with h0'
    injection h0' with e1 e2 e3
    subst e1 e2 e3
    have hlm : len ≤ m := by rw [hm]; split <;> omega
    have hdd : d = .slice ((List.range len).map D) ((List.range (m - len)).map fun j => D (len + j)) := congrArg Prod.fst hx
    have hwD : ∀ i, i < len → ∀ n ∈ (D i).weights P e, n ≤ reachBytes := fun i hil n hn => hwt n (by
      rw [hdd]
      simp only [DataW.weights, ht, List.mem_cons, List.mem_append]
      exact .inr (.inl (weightsAll_mem (List.mem_map.2 ⟨i, List.mem_range.2 hil, rfl⟩) hn)))
    have hps : ps = MemPlace.row a (m * P.cellsOf e) ++ (List.range m).flatMap Pl := congrArg Prod.snd hx
    have each : ∀ i, i < len → ∃ x : ICall, ((Lit.int .i64 x.k).wf = true ∧ x.it.Ok) ∧ ∀ k u, x.cells[k]? = some u → w.cell? (a.add (i * 6 + k)) = some u := by
      intro i hil
      obtain ⟨cs', hc, ht'⟩ := hi' i (by omega)
      rw [hC] at hc
      obtain ⟨ws, n2, _, hy2, hlen2, hxl2, hfl2⟩ := DataW.trod_struct he ht'
      obtain ⟨_, hcl, hat⟩ := World.cells?_some hc
      match cs', hcl with
      | [a0, c0, c1, c2, c3, c4], _ =>
        match ws, hxl2, hy2, hfl2 with
        | [v0, v1], _, hy2, hfl2 =>
        have hy3 : D i = .agg [v0.1, v1.1] := congrArg Prod.fst hy2
        have hf0 := hfl2 0 g0 rfl
        have hf1 := hfl2 1 g1 rfl
        simp only [p0.1, p0.2, List.drop_zero, List.take_succ_cons, List.take_zero] at hf0
        simp only [p1.1, p1.2, List.drop_succ_cons, List.drop_zero, List.take_succ_cons, List.take_zero] at hf1
        obtain ⟨zk, d0, _, wk⟩ := DataW.trod_int z0 hf0
        injection d0 with d0
        subst d0
        obtain ⟨x, hx5, hok⟩ := trod_item hi p1.2 q0 q1 q2 hrow hone u0 u1 u2 z1 z2 hf1 (fun n hn => hwD i hil n (by
          rw [hy3]
          simp only [DataW.weights, he, List.map_cons, List.map_nil, DataW.weightsEach, List.append_nil, List.mem_append]
          exact .inr hn))
        refine ⟨⟨zk, x⟩, ⟨wk, hok⟩, fun k u hu => ?_⟩
        have hk : k < 6 := by have := (List.getElem?_eq_some_iff.1 hu).1; simpa [ICall.cells, It.cells] using this
        have := hat k hk
        rw [Go.Deep.add_add] at this
        rw [this]
        have e6 : ICall.cells ⟨zk, x⟩ = [.int .i64 zk, c0, c1, c2, c3, c4] := by
          unfold ICall.cells
          rw [hx5]
        rw [e6] at hu
        exact hu
    obtain ⟨q, hq⟩ := Go.Deep.choose_lt each
    have hl : ((List.range len).map q).length = len := by simp
    have hget : ∀ j x, ((List.range len).map q)[j]? = some x → j < len ∧ q j = x := by
      intro j x hj
      have hjl : j < len := by have := (List.getElem?_eq_some_iff.1 hj).1; rwa [hl] at this
      refine ⟨hjl, ?_⟩
      simp only [List.getElem?_map] at hj
      rw [List.getElem?_range hjl] at hj
      simpa using hj
    refine ⟨(List.range len).map q, ⟨some a, cap, by rw [hl], by rw [hl]; exact hlc, fun hn => ?_⟩, fun x hx => ?_⟩
    · rw [hl] at hn
      have hspot : (a.add (0 * 6 + 0)).spot = none := item_spot ((hq 0 hn).2 0 _ rfl)
      have ea : a.add (0 * 6 + 0) = a := by simp [Addr.add]
      rw [ea] at hspot
      obtain ⟨b, o, sp⟩ := a
      obtain rfl : sp = none := hspot
      have hadd : ∀ j, (⟨b, o, none⟩ : Addr).add j = ⟨b, o + j, none⟩ := by
        intro j
        simp [Addr.add]
        try omega
      refine ⟨b, o, rfl, ?_, fun j x hj i u hu => ?_⟩
      · have hmem : MemPlace.cell b (o + 0) ∈ ps := by
          rw [hps]
          refine List.mem_append_left _ ?_
          rw [hC]
          simp [MemPlace.row]
          omega
        exact hlt _ hmem
      · obtain ⟨hjl, rfl⟩ := hget j x hj
        have := (hq j hjl).2 i u hu
        rw [hadd] at this
        rw [Nat.add_assoc]; exact this
    · obtain ⟨j, hj, rfl⟩ := List.mem_map.1 hx
      exact (hq j (List.mem_range.1 hj)).1
end
end Go.Proofs.Ytkcomkllnhdohaa
