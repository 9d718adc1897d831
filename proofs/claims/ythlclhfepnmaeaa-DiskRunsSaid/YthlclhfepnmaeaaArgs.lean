/-
  Arguments that came in: a slice of calls (three ints, bytes, a mask), two masks by value, a slice of slices of bytes.
-/
import Derived.Test.YthlclhfepnmaeaaMem
import Derived.Test.YthlclhfepnmaeaaOwn
import Derived.Deep.Slices
import Derived.Deep.Fields
import Derived.ChangeSame
namespace Go.Proofs.Ythlclhfepnmaeaa
open Go.ChangeShapes Go.WideShapes Go.ChangeAt Go.RowKit Go.Deep

/-- A call, as a law is handed it. -/
structure CallD where
  kind : Int
  r : Int
  s : Int
  dv : Value
  data : List UInt8
  mask : Nat
instance : Inhabited CallD := ⟨⟨0, 0, 0, .slice none 0 0, [], 0⟩⟩
/-- Its cells. -/
def CallD.cells (x : CallD) : List Value := [.int .i64 x.kind, .int .i64 x.r, .int .i64 x.s, x.dv, .int .u64 (x.mask : Int)]
/-- What holds of it. -/
structure CallD.Fit (w : World) (B : Nat) (x : CallD) : Prop where
  row : Row w B x.dv (u8s x.data)
  len : x.data.length ≤ maxLen
  mask : x.mask < 18446744073709551616
  r : -9223372036854775808 ≤ x.r ∧ x.r < 9223372036854775808
  s : -9223372036854775808 ≤ x.s ∧ x.s < 9223372036854775808
  kind : -9223372036854775808 ≤ x.kind ∧ x.kind < 9223372036854775808
/-- v is a slice of the calls cs; all lies below block B. -/
def CallRow (w : World) (B : Nat) (v : Value) (cs : List CallD) : Prop :=
  ∃ A c, v = .slice A cs.length c ∧ (0 < cs.length → ∃ b o, A = some ⟨b, o, none⟩ ∧ b < B ∧ ∀ j x, cs[j]? = some x → ∀ i u, x.cells[i]? = some u → w.cell? ⟨b, o + j * 5 + i, none⟩ = some u) ∧ ∀ x ∈ cs, x.Fit w B
theorem CallD.Fit.below {w w' : World} {B : Nat} {x : CallD} (h : x.Fit w B) (hb : Below B w w') : x.Fit w' B := ⟨h.row.below hb, h.len, h.mask, h.r, h.s, h.kind⟩
theorem CallRow.below {w w' : World} {B : Nat} {v : Value} {cs : List CallD} (h : CallRow w B v cs) (hb : Below B w w') : CallRow w' B v cs := by
  obtain ⟨A, c, rfl, h1, h2⟩ := h
  refine ⟨A, c, rfl, fun hn => ?_, fun x hx => (h2 x hx).below hb⟩
  obtain ⟨b, o, rfl, hbB, hc⟩ := h1 hn
  exact ⟨b, o, rfl, hbB, fun j x hj i u hu => (hb.cell (p := ⟨b, o + j * 5 + i, none⟩) hbB).trans (hc j x hj i u hu)⟩

theorem spot_none {w : World} {a : Addr} {v : Value} (h : w.cell? a = some v) : a.spot = none := by
  unfold World.cell? at h
  cases hs : a.spot with
  | none => rfl
  | some k =>
    rw [hs] at h
    revert h
    split <;> simp
theorem wf_i64 {n : Int} (h : (Lit.int .i64 n).wf = true) : -9223372036854775808 ≤ n ∧ n < 9223372036854775808 := by
  simp only [Lit.wf, Bool.and_eq_true, decide_eq_true_eq] at h
  have h1 : IntKind.i64.min = -9223372036854775808 := rfl
  have h2 : IntKind.i64.max = 9223372036854775807 := rfl
  rw [h1, h2] at h
  omega
theorem wf_u64 {n : Int} (h : (Lit.int .u64 n).wf = true) : ∃ m : Nat, n = (m : Int) ∧ m < 18446744073709551616 := by
  simp only [Lit.wf, Bool.and_eq_true, decide_eq_true_eq] at h
  have h1 : IntKind.u64.min = 0 := rfl
  have h2 : IntKind.u64.max = 18446744073709551615 := rfl
  rw [h1, h2] at h
  exact ⟨n.toNat, by omega, by omega⟩

section
variable {w : World} {B : Nat} {H : Type} {enc : TypeId × Value → H} {P : Program} {base b0 : Nat} {spare : Nat → Bool} {held : Bool} {r : Reach}
theorem open_calls {t e : TypeId} {f0 f1 f2 f3 f4 : Field} {eb : TypeId} {v : Value} {d : DataW H} {ps : List MemPlace} (ht : P.underlying t = some (.slice e)) (he : P.underlying e = some (.struct #[f0, f1, f2, f3, f4])) (hone : oneCellFields P #[f0, f1, f2, f3, f4] = true) (hC : P.cellsOf e = 5)
    (u0 : P.underlying f0.type = some (.int .i64)) (u1 : P.underlying f1.type = some (.int .i64)) (u2 : P.underlying f2.type = some (.int .i64)) (u3 : P.underlying f3.type = some (.slice eb)) (ub : P.underlying eb = some (.int .u8)) (cb : P.cellsOf eb = 1) (u4 : P.underlying f4.type = some (.int .u64))
    (hval : Value.okWide P w r b0 t v) (hd : DataW.Trod enc P w base spare held t v d ps) (hlt : ∀ x ∈ ps, x.block < B) : ∃ cs : List CallD, CallRow w B v cs := by
  obtain ⟨a0, len, cap, rfl⟩ := okWide_slice ht hval
  obtain ⟨fuel, hf⟩ := hd
  have hf' : DataW.trod enc P w base spare held fuel t [.slice a0 len cap] = some (d, ps) := by simpa [Value.cells] using hf
  rcases Go.Deep.open_slice ht hf' with ⟨h0, _⟩ | ⟨a, len', cap', m, n, D, Pl, h0, _, hlc, hcm, hm, hx, hi⟩
  · injection h0 with h0
    rw [h0]
    exact ⟨[], none, 0, rfl, fun h => absurd h (by simp), fun x hx => by cases hx⟩
  · injection h0 with h0
    injection h0 with e1 e2 e3
    subst e1 e2 e3
    have hlm : len ≤ m := by rw [hm]; split <;> omega
    have hps : ps = MemPlace.row a (m * P.cellsOf e) ++ (List.range m).flatMap Pl := congrArg Prod.snd hx
    have each : ∀ i, i < len → ∃ x : CallD, (∀ k u, x.cells[k]? = some u → w.cell? (a.add (i * 5 + k)) = some u) ∧ x.Fit w B := by
      intro i hil
      obtain ⟨cs', hc, ht'⟩ := hi i (by omega)
      rw [hC] at hc
      obtain ⟨xs, n', _, hy, hlen, hxl, hfl⟩ := DataW.trod_struct he ht'
      obtain ⟨_, hcl, hat⟩ := World.cells?_some hc
      rw [hC] at hlen
      simp only [Prod.mk.injEq] at hy
      match cs', hcl with
      | [c0, c1, c2, c3, c4], _ =>
        match xs, hxl with
        | [y0, y1, y2, y3, y4], _ =>
          obtain ⟨o0, k0⟩ := Go.Deep.hone_of hone 0 f0 rfl
          obtain ⟨o1, k1⟩ := Go.Deep.hone_of hone 1 f1 rfl
          obtain ⟨o2, k2⟩ := Go.Deep.hone_of hone 2 f2 rfl
          obtain ⟨o3, k3⟩ := Go.Deep.hone_of hone 3 f3 rfl
          obtain ⟨o4, k4⟩ := Go.Deep.hone_of hone 4 f4 rfl
          have g0 : DataW.trod enc P w base spare held n' f0.type [c0] = some y0 := by simpa [o0, k0] using hfl 0 f0 rfl
          have g1 : DataW.trod enc P w base spare held n' f1.type [c1] = some y1 := by simpa [o1, k1] using hfl 1 f1 rfl
          have g2 : DataW.trod enc P w base spare held n' f2.type [c2] = some y2 := by simpa [o2, k2] using hfl 2 f2 rfl
          have g3 : DataW.trod enc P w base spare held n' f3.type [c3] = some y3 := by simpa [o3, k3] using hfl 3 f3 rfl
          have g4 : DataW.trod enc P w base spare held n' f4.type [c4] = some y4 := by simpa [o4, k4] using hfl 4 f4 rfl
          obtain ⟨z0, e0, _, w0⟩ := DataW.trod_int u0 g0
          obtain ⟨z1, e1, _, w1⟩ := DataW.trod_int u1 g1
          obtain ⟨z2, e2, _, w2⟩ := DataW.trod_int u2 g2
          obtain ⟨z4, e4, _, w4⟩ := DataW.trod_int u4 g4
          obtain ⟨v3, l3, e3, hl3, hr3⟩ := open_bytes_cells (B := B) u3 ub cb g3 (fun x hx => hlt x (by
            rw [hps]
            refine List.mem_append_right _ (List.mem_flatMap.2 ⟨i, List.mem_range.2 (by omega), ?_⟩)
            rw [hy.2]
            simp [hx]))
          injection e0 with e0
          injection e1 with e1
          injection e2 with e2
          injection e3 with e3
          injection e4 with e4
          subst e0 e1 e2 e3 e4
          obtain ⟨mk, rfl, hmk⟩ := wf_u64 w4
          refine ⟨⟨z0, z1, z2, c3, l3, mk⟩, fun k u hu => ?_, hr3, hl3, hmk, wf_i64 w1, wf_i64 w2, wf_i64 w0⟩
          have hk : k < 5 := by have := (List.getElem?_eq_some_iff.1 hu).1; simpa [CallD.cells] using this
          have := hat k hk
          rw [Go.Deep.add_add] at this
          rw [this]
          exact hu
    obtain ⟨q, hq⟩ := Go.Deep.choose_lt each
    have hl : ((List.range len).map q).length = len := by simp
    have hget : ∀ j x, ((List.range len).map q)[j]? = some x → j < len ∧ q j = x := by
      intro j x hj
      have hjl : j < len := by have := (List.getElem?_eq_some_iff.1 hj).1; rwa [hl] at this
      refine ⟨hjl, ?_⟩
      simp only [List.getElem?_map] at hj
      rw [List.getElem?_range hjl] at hj
      simpa using hj
    refine ⟨(List.range len).map q, some a, cap, by rw [hl], fun hn => ?_, fun x hx => ?_⟩
    · rw [hl] at hn
      have hspot : (a.add (0 * 5 + 0)).spot = none := spot_none ((hq 0 hn).1 0 _ rfl)
      have ea : a.add (0 * 5 + 0) = a := by simp [Addr.add]
      rw [ea] at hspot
      obtain ⟨b, o, sp⟩ := a
      obtain rfl : sp = none := hspot
      have hadd : ∀ j, (⟨b, o, none⟩ : Addr).add j = ⟨b, o + j, none⟩ := by
        intro j
        simp [Addr.add]
        try omega
      refine ⟨b, o, rfl, ?_, fun j x hj i u hu => ?_⟩
      · have hmem : MemPlace.cell b (o + 0) ∈ ps := by
          rw [hps]
          refine List.mem_append_left _ ?_
          rw [hC]
          simp [MemPlace.row]
          omega
        exact hlt _ hmem
      · obtain ⟨hjl, rfl⟩ := hget j x hj
        have := (hq j hjl).1 i u hu
        rw [hadd] at this
        rw [Nat.add_assoc]; exact this
    · obtain ⟨j, hj⟩ := List.mem_iff_getElem?.1 hx
      obtain ⟨hjl, rfl⟩ := hget j x hj
      exact (hq j hjl).2

/-- Two masks by value. -/
theorem open_masks {q t : TypeId} {v : Value} {d : DataW H} {ps : List MemPlace} (hq : P.underlying q = some (.array 2 t)) (hcq : P.cellsOf q = 2) (hct : P.cellsOf t = 1) (ht : P.underlying t = some (.int .u64)) (hval : Value.okWide P w r b0 q v)
    (hd : DataW.Trod enc P w base spare held q v d ps) : ∃ m0 m1 : Nat, v = .agg #[.int .u64 (m0 : Int), .int .u64 (m1 : Int)] ∧ m0 < 18446744073709551616 ∧ m1 < 18446744073709551616 := by
  unfold Value.okWide at hval
  rw [hq] at hval
  obtain ⟨cs, rfl, hcs, _⟩ := hval
  rw [hcq] at hcs
  obtain ⟨fuel, hf⟩ := hd
  have hlist : ∃ a b, cs = #[a, b] := by
    obtain ⟨l⟩ := cs
    match l, hcs with
    | [a, b], _ => exact ⟨a, b, rfl⟩
  obtain ⟨a, b, rfl⟩ := hlist
  cases fuel with
  | zero => simp [DataW.trod] at hf
  | succ fuel =>
    have hf1 : DataW.trod enc P w base spare held (fuel + 1) q [a, b] = some (d, ps) := by simpa [Value.cells] using hf
    unfold DataW.trod at hf1
    rw [hq] at hf1
    simp only [hcq, hct, List.length_cons, List.length_nil, if_true] at hf1
    rw [show List.range 2 = [0, 1] from rfl] at hf1
    simp only [List.mapM_cons, List.mapM_nil, Option.map_eq_some_iff] at hf1
    obtain ⟨xs, hxs, _⟩ := hf1
    cases h0 : DataW.trod enc P w base spare held fuel t [a] with
    | none => simp [h0] at hxs
    | some x0 =>
      cases h1 : DataW.trod enc P w base spare held fuel t [b] with
      | none => simp [h0, h1] at hxs
      | some x1 =>
        obtain ⟨z0, e0, _, w0⟩ := DataW.trod_int ht h0
        obtain ⟨z1, e1, _, w1⟩ := DataW.trod_int ht h1
        injection e0 with e0
        injection e1 with e1
        subst e0 e1
        obtain ⟨m0, rfl, q0⟩ := wf_u64 w0
        obtain ⟨m1, rfl, q1⟩ := wf_u64 w1
        exact ⟨m0, m1, rfl, q0, q1⟩

/-- v is a slice of slices of bytes. -/
def RowsRow (w : World) (B : Nat) (v : Value) (cs : List (Value × List UInt8)) : Prop :=
  ∃ A c, v = .slice A cs.length c ∧ (0 < cs.length → ∃ b o, A = some ⟨b, o, none⟩ ∧ b < B ∧ ∀ j x, cs[j]? = some x → w.cell? ⟨b, o + j, none⟩ = some x.1) ∧ ∀ x ∈ cs, Row w B x.1 (u8s x.2) ∧ x.2.length ≤ maxLen
theorem RowsRow.below {w' : World} {v : Value} {cs : List (Value × List UInt8)} (h : RowsRow w B v cs) (hb : Below B w w') : RowsRow w' B v cs := by
  obtain ⟨A, c, rfl, h1, h2⟩ := h
  refine ⟨A, c, rfl, fun hn => ?_, fun x hx => ⟨(h2 x hx).1.below hb, (h2 x hx).2⟩⟩
  obtain ⟨b, o, rfl, hbB, hc⟩ := h1 hn
  exact ⟨b, o, rfl, hbB, fun j x hj => (hb.cell (p := ⟨b, o + j, none⟩) hbB).trans (hc j x hj)⟩
theorem open_rows {t e eb : TypeId} {v : Value} {d : DataW H} {ps : List MemPlace} (ht : P.underlying t = some (.slice e)) (he : P.underlying e = some (.slice eb)) (hC : P.cellsOf e = 1) (ub : P.underlying eb = some (.int .u8)) (cb : P.cellsOf eb = 1)
    (hval : Value.okWide P w r b0 t v) (hd : DataW.Trod enc P w base spare held t v d ps) (hlt : ∀ x ∈ ps, x.block < B) : ∃ cs : List (Value × List UInt8), RowsRow w B v cs := by
  obtain ⟨a0, len, cap, rfl⟩ := okWide_slice ht hval
  obtain ⟨fuel, hf⟩ := hd
  have hf' : DataW.trod enc P w base spare held fuel t [.slice a0 len cap] = some (d, ps) := by simpa [Value.cells] using hf
  rcases Go.Deep.open_slice ht hf' with ⟨h0, _⟩ | ⟨a, len', cap', m, n, D, Pl, h0, _, hlc, hcm, hm, hx, hi⟩
  · injection h0 with h0
    rw [h0]
    exact ⟨[], none, 0, rfl, fun h => absurd h (by simp), fun x hx => by cases hx⟩
  · injection h0 with h0
    injection h0 with e1 e2 e3
    subst e1 e2 e3
    have hlm : len ≤ m := by rw [hm]; split <;> omega
    have hps : ps = MemPlace.row a (m * P.cellsOf e) ++ (List.range m).flatMap Pl := congrArg Prod.snd hx
    rw [hC] at hps
    have each : ∀ i, i < len → ∃ x : Value × List UInt8, w.cell? (a.add i) = some x.1 ∧ Row w B x.1 (u8s x.2) ∧ x.2.length ≤ maxLen := by
      intro i hil
      obtain ⟨cs', hc, ht'⟩ := hi i (by omega)
      rw [hC, Nat.mul_one] at hc
      obtain ⟨_, hcl, hat⟩ := World.cells?_some hc
      obtain ⟨v3, l3, e3, hl3, hr3⟩ := open_bytes_cells (B := B) he ub cb ht' (fun x hx => hlt x (by
        rw [hps]
        exact List.mem_append_right _ (List.mem_flatMap.2 ⟨i, List.mem_range.2 (by omega), hx⟩)))
      subst e3
      have := hat 0 (by omega)
      rw [Go.Deep.add_add, Nat.add_zero] at this
      exact ⟨(v3, l3), by rw [this]; rfl, hr3, hl3⟩
    obtain ⟨q, hq⟩ := Go.Deep.choose_lt each
    have hl : ((List.range len).map q).length = len := by simp
    have hget : ∀ j x, ((List.range len).map q)[j]? = some x → j < len ∧ q j = x := by
      intro j x hj
      have hjl : j < len := by have := (List.getElem?_eq_some_iff.1 hj).1; rwa [hl] at this
      refine ⟨hjl, ?_⟩
      simp only [List.getElem?_map] at hj
      rw [List.getElem?_range hjl] at hj
      simpa using hj
    refine ⟨(List.range len).map q, some a, cap, by rw [hl], fun hn => ?_, fun x hx => ?_⟩
    · rw [hl] at hn
      have hspot : (a.add 0).spot = none := spot_none (hq 0 hn).1
      have ea : a.add 0 = a := by simp [Addr.add]
      rw [ea] at hspot
      obtain ⟨b, o, sp⟩ := a
      obtain rfl : sp = none := hspot
      have hadd : ∀ j, (⟨b, o, none⟩ : Addr).add j = ⟨b, o + j, none⟩ := by
        intro j
        simp [Addr.add]
        try omega
      refine ⟨b, o, rfl, ?_, fun j x hj => ?_⟩
      · have hmem : MemPlace.cell b (o + 0) ∈ ps := by
          rw [hps]
          refine List.mem_append_left _ ?_
          simp [MemPlace.row]
          omega
        exact hlt _ hmem
      · obtain ⟨hjl, rfl⟩ := hget j x hj
        have := (hq j hjl).1
        rwa [hadd] at this
    · obtain ⟨j, hj⟩ := List.mem_iff_getElem?.1 hx
      obtain ⟨hjl, rfl⟩ := hget j x hj
      exact (hq j hjl).2
end
end Go.Proofs.Ythlclhfepnmaeaa
