/-
  Arguments that came in: a record; a seed of a record; a slice of seeds.
-/
import Derived.Test.YtofnldmbokdkbaaRc
import Derived.Test.YtofnldmbokdkbaaOwn
import Derived.Deep.Slices
import Derived.Deep.Fields
import Derived.ChangeSame
import Derived.Lib.SmallJoins
namespace Go.Proofs.Ytofnldmbokdkbaa
open Go.ChangeShapes Go.WideShapes Go.ChangeAt Go.RowKit Go.Deep Go.Joins

set_option linter.unusedSimpArgs false
set_option linter.unusedVariables false

/-- A seed, as a law is handed it. -/
structure SeedD where
  k : Int
  t : Int
  p : Int
  s : Int
  b : UInt8
  a : UInt8
  i : UInt8
  dv : Value
  ds : List Nat
instance : Inhabited SeedD := ⟨⟨0, 0, 0, 0, 0, 0, 0, .slice none 0 0, []⟩⟩
/-- Its cells. -/
def SeedD.cells (x : SeedD) : List Value := [.int .i64 x.k, .int .i64 x.t, .int .i64 x.p, .int .i64 x.s, .int .u8 (x.b.toNat : Int), .int .u8 (x.a.toNat : Int), .int .u8 (x.i.toNat : Int), x.dv]
/-- What holds of it. -/
structure SeedD.Fit (w : World) (B : Nat) (x : SeedD) : Prop where
  row : Row w B x.dv (u64s x.ds)
  u : ∀ y ∈ x.ds, y < 18446744073709551616
  k : -9223372036854775808 ≤ x.k ∧ x.k < 9223372036854775808
  t : -9223372036854775808 ≤ x.t ∧ x.t < 9223372036854775808
  p : -9223372036854775808 ≤ x.p ∧ x.p < 9223372036854775808
  s : -9223372036854775808 ≤ x.s ∧ x.s < 9223372036854775808
theorem SeedD.Fit.below {w w' : World} {B : Nat} {x : SeedD} (h : x.Fit w B) (hb : Below B w w') : x.Fit w' B := ⟨h.row.below hb, h.u, h.k, h.t, h.p, h.s⟩
theorem SeedD.Fit.more {w : World} {B B' : Nat} {x : SeedD} (h : x.Fit w B) (hb : B ≤ B') : x.Fit w B' := ⟨h.row.more hb, h.u, h.k, h.t, h.p, h.s⟩
/-- v is a slice of the seeds cs; all lies below block B. -/
def SeedRow (w : World) (B : Nat) (v : Value) (cs : List SeedD) : Prop :=
  ∃ A c, v = .slice A cs.length c ∧ (0 < cs.length → ∃ b o, A = some ⟨b, o, none⟩ ∧ b < B ∧ ∀ j x, cs[j]? = some x → ∀ i u, x.cells[i]? = some u → w.cell? ⟨b, o + j * 8 + i, none⟩ = some u) ∧ ∀ x ∈ cs, x.Fit w B
theorem SeedRow.below {w w' : World} {B : Nat} {v : Value} {cs : List SeedD} (h : SeedRow w B v cs) (hb : Below B w w') : SeedRow w' B v cs := by
  obtain ⟨A, c, rfl, h1, h2⟩ := h
  refine ⟨A, c, rfl, fun hn => ?_, fun x hx => (h2 x hx).below hb⟩
  obtain ⟨b, o, rfl, hbB, hc⟩ := h1 hn
  exact ⟨b, o, rfl, hbB, fun j x hj i u hu => (hb.cell (p := ⟨b, o + j * 8 + i, none⟩) hbB).trans (hc j x hj i u hu)⟩

theorem spot_none {w : World} {a : Addr} {v : Value} (h : w.cell? a = some v) : a.spot = none := by
  unfold World.cell? at h
  cases hs : a.spot with
  | none => rfl
  | some k =>
    rw [hs] at h
    revert h
    split <;> simp
theorem wf_i64 {n : Int} (h : (Lit.int .i64 n).wf = true) : -9223372036854775808 ≤ n ∧ n < 9223372036854775808 := by
  simp only [Lit.wf, Bool.and_eq_true, decide_eq_true_eq] at h
  have h1 : IntKind.i64.min = -9223372036854775808 := rfl
  have h2 : IntKind.i64.max = 9223372036854775807 := rfl
  rw [h1, h2] at h
  omega
theorem wf_u64 {n : Int} (h : (Lit.int .u64 n).wf = true) : ∃ m : Nat, n = (m : Int) ∧ m < 18446744073709551616 := by
  simp only [Lit.wf, Bool.and_eq_true, decide_eq_true_eq] at h
  have h1 : IntKind.u64.min = 0 := rfl
  have h2 : IntKind.u64.max = 18446744073709551615 := rfl
  rw [h1, h2] at h
  exact ⟨n.toNat, by omega, by omega⟩
theorem byte_of {n : Int} (h : (Lit.int .u8 n).wf = true) : ∃ x : UInt8, n = (x.toNat : Int) := by
  simp only [Lit.wf, Bool.and_eq_true, decide_eq_true_eq] at h
  have h1 : IntKind.u8.min = 0 := rfl
  have h2 : IntKind.u8.max = 255 := rfl
  rw [h1, h2] at h
  refine ⟨UInt8.ofNat n.toNat, ?_⟩
  rw [UInt8.toNat_ofNat']
  omega

section
variable {w : World} {B : Nat} {H : Type} {enc : TypeId × Value → H} {P : Program} {base b0 : Nat} {spare : Nat → Bool} {held : Bool} {r : Reach}
/-- The cells of a slice of numbers that came in. -/
theorem open_u64_cells {fuel : Nat} {t e : TypeId} {cs : List Value} {d : DataW H} {ps : List MemPlace}
    (ht : P.underlying t = some (.slice e)) (he : P.underlying e = some (.int .u64)) (hc : P.cellsOf e = 1)
    (hf' : DataW.trod enc P w base spare held fuel t cs = some (d, ps)) (hlt : ∀ x ∈ ps, x.block < B) :
    ∃ (v : Value) (l : List Nat), cs = [v] ∧ Row w B v (u64s l) ∧ ∀ x ∈ l, x < 18446744073709551616 := by
  rcases open_ints ht he hc hf' with ⟨h0, _⟩ | ⟨a, len, cap, zs, h0, _, hlc, hcm, hzl, hx, hcell, hwf⟩
  · exact ⟨_, [], h0, Row.nil_ _ _, by simp⟩
  · subst h0
    have hle : len ≤ zs.length := by rw [hzl]; split <;> omega
    have hin : ∀ j (h : j < zs.length), ((zs[j].toNat : Nat) : Int) = zs[j] ∧ zs[j].toNat < 18446744073709551616 := by
      intro j h
      obtain ⟨m, hm, hlt⟩ := wf_u64 (hwf _ (List.getElem_mem h))
      rw [hm]
      omega
    refine ⟨_, (zs.take len).map fun z => z.toNat, rfl, ?_, ?_⟩
    rotate_left
    · intro x hx
      rw [List.mem_map] at hx
      obtain ⟨z, hz, rfl⟩ := hx
      obtain ⟨j, hj⟩ := List.mem_iff_getElem.1 (List.mem_of_mem_take hz)
      obtain ⟨hj, rfl⟩ := hj
      exact (hin j hj).2
    have hlen : (u64s ((zs.take len).map fun z => z.toNat)).length = len := by simp [u64s]; omega
    refine ⟨some a, cap, by rw [hlen], by omega, fun hn => ?_⟩
    rw [hlen] at hn
    have h0 := hcell 0 (by omega)
    have hspot : a.spot = none := by
      have e : a.add 0 = a := by simp [Addr.add]
      rw [e] at h0
      exact spot_none h0
    obtain ⟨b, o, sp⟩ := a
    obtain rfl : sp = none := hspot
    have hadd : ∀ j, (⟨b, o, none⟩ : Addr).add j = ⟨b, o + j, none⟩ := by
      intro j
      simp [Addr.add]
      try omega
    refine ⟨b, o, rfl, ?_, fun j u hu => ?_⟩
    · have : (MemPlace.row ⟨b, o, none⟩ zs.length) = ps := (congrArg Prod.snd hx).symm
      have hmem : MemPlace.cell b (o + 0) ∈ ps := by
        rw [← this]
        simp [MemPlace.row]
        omega
      exact hlt _ hmem
    · have hj : j < len := by
        have := (List.getElem?_eq_some_iff.1 hu).1
        omega
      have hjz : j < zs.length := by omega
      have hj2 : j < ((zs.take len).map fun z => z.toNat).length := by simp; omega
      rw [u64s_get _ j hj2] at hu
      injection hu with hu
      subst hu
      rw [← hadd, hcell j hjz]
      simp only [List.getElem_map, List.getElem_take, (hin j hjz).1]
      simp [List.getD, hjz]
theorem array8 {cs : Array Value} (h : cs.size = 8) : ∃ c0 c1 c2 c3 c4 c5 c6 c7, cs = #[c0, c1, c2, c3, c4, c5, c6, c7] := by
  obtain ⟨l⟩ := cs
  match l, h with
  | [c0, c1, c2, c3, c4, c5, c6, c7], _ => exact ⟨c0, c1, c2, c3, c4, c5, c6, c7, rfl⟩
/-- The fields of a struct of eight cells. -/
theorem open_fields8 {t : TypeId} {f0 f1 f2 f3 f4 f5 f6 f7 : Field} {fuel : Nat} {c0 c1 c2 c3 c4 c5 c6 c7 : Value} {d : DataW H} {ps : List MemPlace} (hs : P.underlying t = some (.struct #[f0, f1, f2, f3, f4, f5, f6, f7])) (hone : oneCellFields P #[f0, f1, f2, f3, f4, f5, f6, f7] = true)
    (hf : DataW.trod enc P w base spare held fuel t [c0, c1, c2, c3, c4, c5, c6, c7] = some (d, ps)) : ∃ n y0 y1 y2 y3 y4 y5 y6 y7, (∀ x, x ∈ y7.2 → x ∈ ps) ∧
      DataW.trod enc P w base spare held n f0.type [c0] = some y0 ∧ DataW.trod enc P w base spare held n f1.type [c1] = some y1 ∧ DataW.trod enc P w base spare held n f2.type [c2] = some y2 ∧ DataW.trod enc P w base spare held n f3.type [c3] = some y3 ∧
      DataW.trod enc P w base spare held n f4.type [c4] = some y4 ∧ DataW.trod enc P w base spare held n f5.type [c5] = some y5 ∧ DataW.trod enc P w base spare held n f6.type [c6] = some y6 ∧ DataW.trod enc P w base spare held n f7.type [c7] = some y7 := by
  obtain ⟨xs, n', _, hy, hlen, hxl, hfl⟩ := DataW.trod_struct hs hf
  simp only [Prod.mk.injEq] at hy
  match xs, hxl with
  | [y0, y1, y2, y3, y4, y5, y6, y7], _ =>
    obtain ⟨o0, k0⟩ := Go.Deep.hone_of hone 0 f0 rfl
    obtain ⟨o1, k1⟩ := Go.Deep.hone_of hone 1 f1 rfl
    obtain ⟨o2, k2⟩ := Go.Deep.hone_of hone 2 f2 rfl
    obtain ⟨o3, k3⟩ := Go.Deep.hone_of hone 3 f3 rfl
    obtain ⟨o4, k4⟩ := Go.Deep.hone_of hone 4 f4 rfl
    obtain ⟨o5, k5⟩ := Go.Deep.hone_of hone 5 f5 rfl
    obtain ⟨o6, k6⟩ := Go.Deep.hone_of hone 6 f6 rfl
    obtain ⟨o7, k7⟩ := Go.Deep.hone_of hone 7 f7 rfl
    exact ⟨n', y0, y1, y2, y3, y4, y5, y6, y7, fun x hx => by rw [hy.2]; simp [hx], by simpa [o0, k0] using hfl 0 f0 rfl, by simpa [o1, k1] using hfl 1 f1 rfl, by simpa [o2, k2] using hfl 2 f2 rfl, by simpa [o3, k3] using hfl 3 f3 rfl,
      by simpa [o4, k4] using hfl 4 f4 rfl, by simpa [o5, k5] using hfl 5 f5 rfl, by simpa [o6, k6] using hfl 6 f6 rfl, by simpa [o7, k7] using hfl 7 f7 rfl⟩
/-- A record that came in. -/
theorem open_rec {t eb : TypeId} {f0 f1 f2 f3 f4 f5 f6 f7 : Field} {v : Value} {d : DataW H} {ps : List MemPlace} (hs : P.underlying t = some (.struct #[f0, f1, f2, f3, f4, f5, f6, f7])) (hone : oneCellFields P #[f0, f1, f2, f3, f4, f5, f6, f7] = true) (hC : P.cellsOf t = 8)
    (u0 : P.underlying f0.type = some (.int .i64)) (u1 : P.underlying f1.type = some (.int .i64)) (u2 : P.underlying f2.type = some (.int .i64)) (u3 : P.underlying f3.type = some (.int .i64)) (u4 : P.underlying f4.type = some .string) (u5 : P.underlying f5.type = some .string) (u6 : P.underlying f6.type = some .string)
    (u7 : P.underlying f7.type = some (.slice eb)) (ub : P.underlying eb = some (.int .u64)) (cb : P.cellsOf eb = 1)
    (hval : Value.okWide P w r b0 t v) (hd : DataW.Trod enc P w base spare held t v d ps) (hlt : ∀ x ∈ ps, x.block < B) :
    ∃ (k t p s : Int) (b a i : ByteArray) (A : Option Addr) (n c : Nat), v = .agg #[.int .i64 k, .int .i64 t, .int .i64 p, .int .i64 s, .string b, .string a, .string i, .slice A n c] := by
  obtain ⟨cs, rfl, hsz⟩ := okWide_struct hs hval
  obtain ⟨c0, c1, c2, c3, c4, c5, c6, c7, rfl⟩ := array8 (hsz.trans hC)
  obtain ⟨fuel, hf⟩ := hd
  have hf' : DataW.trod enc P w base spare held fuel t [c0, c1, c2, c3, c4, c5, c6, c7] = some (d, ps) := by simpa [Value.cells] using hf
  obtain ⟨n, y0, y1, y2, y3, y4, y5, y6, y7, hps, g0, g1, g2, g3, g4, g5, g6, g7⟩ := open_fields8 hs hone hf'
  obtain ⟨z0, e0, _, _⟩ := DataW.trod_int u0 g0
  obtain ⟨z1, e1, _, _⟩ := DataW.trod_int u1 g1
  obtain ⟨z2, e2, _, _⟩ := DataW.trod_int u2 g2
  obtain ⟨z3, e3, _, _⟩ := DataW.trod_int u3 g3
  obtain ⟨z4, e4, _, _⟩ := DataW.trod_string u4 g4
  obtain ⟨z5, e5, _, _⟩ := DataW.trod_string u5 g5
  obtain ⟨z6, e6, _, _⟩ := DataW.trod_string u6 g6
  obtain ⟨v7, l7, e7, ⟨A, c, e8, _, _⟩, _⟩ := open_u64_cells (B := B) u7 ub cb g7 (fun x hx => hlt x (hps x hx))
  injection e0 with e0
  injection e1 with e1
  injection e2 with e2
  injection e3 with e3
  injection e4 with e4
  injection e5 with e5
  injection e6 with e6
  injection e7 with e7
  subst e0 e1 e2 e3 e4 e5 e6 e7 e8
  exact ⟨z0, z1, z2, z3, z4, z5, z6, A, _, c, rfl⟩
theorem seed_fields {eb : TypeId} {f0 f1 f2 f3 f4 f5 f6 f7 : Field} {n : Nat} {c0 c1 c2 c3 c4 c5 c6 c7 : Value} {y0 y1 y2 y3 y4 y5 y6 y7 : DataW H × List MemPlace}
    (u0 : P.underlying f0.type = some (.int .i64)) (u1 : P.underlying f1.type = some (.int .i64)) (u2 : P.underlying f2.type = some (.int .i64)) (u3 : P.underlying f3.type = some (.int .i64)) (u4 : P.underlying f4.type = some (.int .u8)) (u5 : P.underlying f5.type = some (.int .u8)) (u6 : P.underlying f6.type = some (.int .u8))
    (u7 : P.underlying f7.type = some (.slice eb)) (ub : P.underlying eb = some (.int .u64)) (cb : P.cellsOf eb = 1) (hlt : ∀ x ∈ y7.2, x.block < B)
    (g0 : DataW.trod enc P w base spare held n f0.type [c0] = some y0) (g1 : DataW.trod enc P w base spare held n f1.type [c1] = some y1) (g2 : DataW.trod enc P w base spare held n f2.type [c2] = some y2) (g3 : DataW.trod enc P w base spare held n f3.type [c3] = some y3)
    (g4 : DataW.trod enc P w base spare held n f4.type [c4] = some y4) (g5 : DataW.trod enc P w base spare held n f5.type [c5] = some y5) (g6 : DataW.trod enc P w base spare held n f6.type [c6] = some y6) (g7 : DataW.trod enc P w base spare held n f7.type [c7] = some y7) :
    ∃ x : SeedD, x.cells = [c0, c1, c2, c3, c4, c5, c6, c7] ∧ x.Fit w B := by
  obtain ⟨z0, e0, _, w0⟩ := DataW.trod_int u0 g0
  obtain ⟨z1, e1, _, w1⟩ := DataW.trod_int u1 g1
  obtain ⟨z2, e2, _, w2⟩ := DataW.trod_int u2 g2
  obtain ⟨z3, e3, _, w3⟩ := DataW.trod_int u3 g3
  obtain ⟨z4, e4, _, w4⟩ := DataW.trod_int u4 g4
  obtain ⟨z5, e5, _, w5⟩ := DataW.trod_int u5 g5
  obtain ⟨z6, e6, _, w6⟩ := DataW.trod_int u6 g6
  obtain ⟨v7, l7, e7, hr7, hu7⟩ := open_u64_cells (B := B) u7 ub cb g7 hlt
  injection e0 with e0
  injection e1 with e1
  injection e2 with e2
  injection e3 with e3
  injection e4 with e4
  injection e5 with e5
  injection e6 with e6
  injection e7 with e7
  subst e0 e1 e2 e3 e4 e5 e6 e7
  obtain ⟨b, rfl⟩ := byte_of w4
  obtain ⟨a, rfl⟩ := byte_of w5
  obtain ⟨i, rfl⟩ := byte_of w6
  exact ⟨⟨z0, z1, z2, z3, b, a, i, c7, l7⟩, rfl, hr7, hu7, wf_i64 w0, wf_i64 w1, wf_i64 w2, wf_i64 w3⟩
/-- A seed that came in. -/
theorem open_seed {t eb : TypeId} {f0 f1 f2 f3 f4 f5 f6 f7 : Field} {v : Value} {d : DataW H} {ps : List MemPlace} (hs : P.underlying t = some (.struct #[f0, f1, f2, f3, f4, f5, f6, f7])) (hone : oneCellFields P #[f0, f1, f2, f3, f4, f5, f6, f7] = true) (hC : P.cellsOf t = 8)
    (u0 : P.underlying f0.type = some (.int .i64)) (u1 : P.underlying f1.type = some (.int .i64)) (u2 : P.underlying f2.type = some (.int .i64)) (u3 : P.underlying f3.type = some (.int .i64)) (u4 : P.underlying f4.type = some (.int .u8)) (u5 : P.underlying f5.type = some (.int .u8)) (u6 : P.underlying f6.type = some (.int .u8))
    (u7 : P.underlying f7.type = some (.slice eb)) (ub : P.underlying eb = some (.int .u64)) (cb : P.cellsOf eb = 1)
    (hval : Value.okWide P w r b0 t v) (hd : DataW.Trod enc P w base spare held t v d ps) (hlt : ∀ x ∈ ps, x.block < B) :
    ∃ x : SeedD, v = .agg x.cells.toArray ∧ x.Fit w B := by
  obtain ⟨cs, rfl, hsz⟩ := okWide_struct hs hval
  obtain ⟨c0, c1, c2, c3, c4, c5, c6, c7, rfl⟩ := array8 (hsz.trans hC)
  obtain ⟨fuel, hf⟩ := hd
  have hf' : DataW.trod enc P w base spare held fuel t [c0, c1, c2, c3, c4, c5, c6, c7] = some (d, ps) := by simpa [Value.cells] using hf
  obtain ⟨n, y0, y1, y2, y3, y4, y5, y6, y7, hps, g0, g1, g2, g3, g4, g5, g6, g7⟩ := open_fields8 hs hone hf'
  obtain ⟨x, hx, hfit⟩ := seed_fields u0 u1 u2 u3 u4 u5 u6 u7 ub cb (fun x hx => hlt x (hps x hx)) g0 g1 g2 g3 g4 g5 g6 g7
  exact ⟨x, by rw [hx], hfit⟩
/-- A slice of seeds that came in. -/
theorem open_seeds {t e eb : TypeId} {f0 f1 f2 f3 f4 f5 f6 f7 : Field} {v : Value} {d : DataW H} {ps : List MemPlace} (ht : P.underlying t = some (.slice e)) (he : P.underlying e = some (.struct #[f0, f1, f2, f3, f4, f5, f6, f7])) (hone : oneCellFields P #[f0, f1, f2, f3, f4, f5, f6, f7] = true) (hC : P.cellsOf e = 8)
    (u0 : P.underlying f0.type = some (.int .i64)) (u1 : P.underlying f1.type = some (.int .i64)) (u2 : P.underlying f2.type = some (.int .i64)) (u3 : P.underlying f3.type = some (.int .i64)) (u4 : P.underlying f4.type = some (.int .u8)) (u5 : P.underlying f5.type = some (.int .u8)) (u6 : P.underlying f6.type = some (.int .u8))
    (u7 : P.underlying f7.type = some (.slice eb)) (ub : P.underlying eb = some (.int .u64)) (cb : P.cellsOf eb = 1)
    (hval : Value.okWide P w r b0 t v) (hd : DataW.Trod enc P w base spare held t v d ps) (hlt : ∀ x ∈ ps, x.block < B) : ∃ cs : List SeedD, SeedRow w B v cs := by
  obtain ⟨a0, len, cap, rfl⟩ := okWide_slice ht hval
  obtain ⟨fuel, hf⟩ := hd
  have hf' : DataW.trod enc P w base spare held fuel t [.slice a0 len cap] = some (d, ps) := by simpa [Value.cells] using hf
  rcases Go.Deep.open_slice ht hf' with ⟨h0, _⟩ | ⟨a, len', cap', m, n, D, Pl, h0, _, hlc, hcm, hm, hx, hi⟩
  · injection h0 with h0
    rw [h0]
    exact ⟨[], none, 0, rfl, fun h => absurd h (by simp), fun x hx => by cases hx⟩
  · injection h0 with h0
    injection h0 with e1 e2 e3
    subst e1 e2 e3
    have hlm : len ≤ m := by rw [hm]; split <;> omega
    have hps : ps = MemPlace.row a (m * P.cellsOf e) ++ (List.range m).flatMap Pl := congrArg Prod.snd hx
    have each : ∀ i, i < len → ∃ x : SeedD, (∀ k u, x.cells[k]? = some u → w.cell? (a.add (i * 8 + k)) = some u) ∧ x.Fit w B := by
      intro i hil
      obtain ⟨cs', hc, ht'⟩ := hi i (by omega)
      rw [hC] at hc
      obtain ⟨_, hcl, hat⟩ := World.cells?_some hc
      match cs', hcl with
      | [c0, c1, c2, c3, c4, c5, c6, c7], _ =>
        obtain ⟨n, y0, y1, y2, y3, y4, y5, y6, y7, hps2, g0, g1, g2, g3, g4, g5, g6, g7⟩ := open_fields8 he hone ht'
        obtain ⟨x, hx, hfit⟩ := seed_fields (B := B) u0 u1 u2 u3 u4 u5 u6 u7 ub cb (fun x hx => hlt x (by
          rw [hps]
          exact List.mem_append_right _ (List.mem_flatMap.2 ⟨i, List.mem_range.2 (by omega), hps2 x hx⟩))) g0 g1 g2 g3 g4 g5 g6 g7
        refine ⟨x, fun k u hu => ?_, hfit⟩
        rw [hx] at hu
        have hk : k < 8 := by have := (List.getElem?_eq_some_iff.1 hu).1; simpa using this
        have := hat k hk
        rw [Go.Deep.add_add] at this
        rw [this]
        exact hu
    obtain ⟨q, hq⟩ := Go.Deep.choose_lt each
    have hl : ((List.range len).map q).length = len := by simp
    have hget : ∀ j x, ((List.range len).map q)[j]? = some x → j < len ∧ q j = x := by
      intro j x hj
      have hjl : j < len := by have := (List.getElem?_eq_some_iff.1 hj).1; rwa [hl] at this
      refine ⟨hjl, ?_⟩
      simp only [List.getElem?_map] at hj
      rw [List.getElem?_range hjl] at hj
      simpa using hj
    refine ⟨(List.range len).map q, some a, cap, by rw [hl], fun hn => ?_, fun x hx => ?_⟩
    · rw [hl] at hn
      have hspot : (a.add (0 * 8 + 0)).spot = none := spot_none ((hq 0 hn).1 0 _ rfl)
      have ea : a.add (0 * 8 + 0) = a := by simp [Addr.add]
      rw [ea] at hspot
      obtain ⟨b, o, sp⟩ := a
      obtain rfl : sp = none := hspot
      have hadd : ∀ j, (⟨b, o, none⟩ : Addr).add j = ⟨b, o + j, none⟩ := by
        intro j
        simp [Addr.add]
        try omega
      refine ⟨b, o, rfl, ?_, fun j x hj i u hu => ?_⟩
      · have hmem : MemPlace.cell b (o + 0) ∈ ps := by
          rw [hps]
          refine List.mem_append_left _ ?_
          rw [hC]
          simp [MemPlace.row]
          omega
        exact hlt _ hmem
      · obtain ⟨hjl, rfl⟩ := hget j x hj
        have := (hq j hjl).1 i u hu
        rw [hadd, ← Nat.add_assoc] at this
        exact this
    · obtain ⟨j, hj⟩ := List.mem_iff_getElem?.1 hx
      obtain ⟨hjl, rfl⟩ := hget j x hj
      exact (hq j hjl).2
end
end Go.Proofs.Ytofnldmbokdkbaa
