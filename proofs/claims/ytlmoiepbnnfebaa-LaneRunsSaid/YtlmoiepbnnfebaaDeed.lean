/-
  A slice of deeds that came in.
-/
import Derived.Test.YtlmoiepbnnfebaaFit
namespace Go.Proofs.Ytlmoiepbnnfebaa
open Go.ChangeShapes Go.WideShapes Go.ChangeAt Go.RowKit Go.Deep Go.Joins
set_option maxRecDepth 20000
set_option linter.unusedSimpArgs false
set_option linter.unusedVariables false

/-- A deed, as a law is handed it. -/
structure DeedD where
  k : Int
  n : Int
  x : SeedD
  m : Nat
instance : Inhabited DeedD := ⟨⟨0, 0, default, 0⟩⟩
/-- Its cells. -/
def DeedD.cells (d : DeedD) : List Value := .int .i64 d.k :: .int .i64 d.n :: (d.x.cells ++ [.int .u64 (d.m : Int)])
structure DeedD.Fit (w : World) (B : Nat) (d : DeedD) : Prop where
  x : d.x.Fit w B
  m : d.m < 18446744073709551616
/-- v is a slice of the deeds cs; all lies below block B. -/
def DeedRow (w : World) (B : Nat) (v : Value) (cs : List DeedD) : Prop :=
  ∃ A c, v = .slice A cs.length c ∧ (0 < cs.length → ∃ b o, A = some ⟨b, o, none⟩ ∧ b < B ∧ ∀ j x, cs[j]? = some x → ∀ i u, x.cells[i]? = some u → w.cell? ⟨b, o + j * 11 + i, none⟩ = some u) ∧ ∀ x ∈ cs, x.Fit w B
/-- What is to be known of deed k. -/
theorem deed_at {w wr : World} {B k : Nat} {v : Value} {cs : List DeedD} (hv : DeedRow w B v cs) (hb : Below B w wr) (hk : k < cs.length) : ∃ b o cap, v = .slice (some ⟨b, o, none⟩) cs.length cap ∧ ∃ A n c, cs[k].x.ds.length = n ∧
    wr.rangeAt b (o + k * 11) [.int .i64 cs[k].k, .int .i64 cs[k].n, .int .i64 cs[k].x.k, .int .i64 cs[k].x.t, .int .i64 cs[k].x.p, .int .i64 cs[k].x.s, .int .u8 (cs[k].x.b.toNat : Int), .int .u8 (cs[k].x.a.toNat : Int), .int .u8 (cs[k].x.i.toNat : Int), .slice A n c, .int .u64 (cs[k].m : Int)] ∧ (∀ W, Below B w W → Row W B (.slice A n c) (u64s cs[k].x.ds)) ∧ (∀ y ∈ cs[k].x.ds, y < 18446744073709551616) := by
  obtain ⟨A0, cap, rfl, hcells, hall⟩ := hv
  obtain ⟨b, o, rfl, hbB, hcell⟩ := hcells (by omega)
  have hf := (hall cs[k] (List.getElem_mem hk)).x
  refine ⟨b, o, cap, rfl, ?_⟩
  have hc := hcell k cs[k] (List.getElem?_eq_getElem hk)
  obtain ⟨A, c, he, h1, h2⟩ := id hf.row
  refine ⟨A, _, c, rfl, fun j u hu => ?_, fun W hbW => ?_, hf.u⟩
  · refine (hb.cell (p := ⟨b, o + k * 11 + j, none⟩) hbB).trans (hc j u ?_)
    unfold DeedD.cells SeedD.cells
    rw [he, u64s_length]
    exact hu
  · have := hf.row.below hbW
    rw [he, u64s_length] at this
    exact this
section
variable {w : World} {B : Nat} {H : Type} {enc : TypeId × Value → H} {P : Program} {base b0 : Nat} {spare : Nat → Bool} {held : Bool} {r : Reach}
/-- A slice of deeds that came in. -/
theorem open_deeds {t e es eb : TypeId} {g0 g1 g2 g3 f0 f1 f2 f3 f4 f5 f6 f7 : Field} {v : Value} {d : DataW H} {ps : List MemPlace} (ht : P.underlying t = some (.slice e)) (he : P.underlying e = some (.struct #[g0, g1, g2, g3])) (hC : P.cellsOf e = 11) (q0 : g0.offset = 0 ∧ P.cellsOf g0.type = 1) (q1 : g1.offset = 1 ∧ P.cellsOf g1.type = 1) (q2 : g2.offset = 2 ∧ P.cellsOf g2.type = 8) (q3 : g3.offset = 10 ∧ P.cellsOf g3.type = 1)
    (z0 : P.underlying g0.type = some (.int .i64)) (z1 : P.underlying g1.type = some (.int .i64)) (z3 : P.underlying g3.type = some (.int .u64)) (hes : P.underlying g2.type = some (.struct #[f0, f1, f2, f3, f4, f5, f6, f7])) (hone : oneCellFields P #[f0, f1, f2, f3, f4, f5, f6, f7] = true)
    (u0 : P.underlying f0.type = some (.int .i64)) (u1 : P.underlying f1.type = some (.int .i64)) (u2 : P.underlying f2.type = some (.int .i64)) (u3 : P.underlying f3.type = some (.int .i64)) (u4 : P.underlying f4.type = some (.int .u8)) (u5 : P.underlying f5.type = some (.int .u8)) (u6 : P.underlying f6.type = some (.int .u8))
    (u7 : P.underlying f7.type = some (.slice eb)) (ub : P.underlying eb = some (.int .u64)) (cb : P.cellsOf eb = 1)
    (hval : Value.okWide P w r b0 t v) (hd : DataW.Trod enc P w base spare held t v d ps) (hlt : ∀ x ∈ ps, x.block < B) : ∃ cs : List DeedD, DeedRow w B v cs := by
  obtain ⟨a0, len, cap, rfl⟩ := okWide_slice ht hval
  obtain ⟨fuel, hf⟩ := hd
  have hf' : DataW.trod enc P w base spare held fuel t [.slice a0 len cap] = some (d, ps) := by simpa [Value.cells] using hf
  rcases Go.Deep.open_slice ht hf' with ⟨h0, _⟩ | ⟨a, len', cap', m, n, D, Pl, h0, _, hlc, hcm, hm, hx, hi⟩
  · injection h0 with h0
    rw [h0]
    exact ⟨[], none, 0, rfl, fun h => absurd h (by simp), fun x hx => by cases hx⟩
  · injection h0 with h0
    injection h0 with e1 e2 e3
    subst e1 e2 e3
    have hlm : len ≤ m := by rw [hm]; split <;> omega
    have hps : ps = MemPlace.row a (m * P.cellsOf e) ++ (List.range m).flatMap Pl := congrArg Prod.snd hx
    have each : ∀ i, i < len → ∃ x : DeedD, (∀ k u, x.cells[k]? = some u → w.cell? (a.add (i * 11 + k)) = some u) ∧ x.Fit w B := by
      intro i hil
      obtain ⟨cs', hc, ht'⟩ := hi i (by omega)
      rw [hC] at hc
      obtain ⟨_, hcl, hat⟩ := World.cells?_some hc
      match cs', hcl with
      | [a0, a1, c0, c1, c2, c3, c4, c5, c6, c7, a3], _ =>
        obtain ⟨xs, n', _, hy, hlen, hxl, hfl⟩ := DataW.trod_struct he ht'
        simp only [Prod.mk.injEq] at hy
        match xs, hxl with
        | [y10, y11, y12, y13], _ =>
        have hf0 := hfl 0 g0 rfl
        have hf1 := hfl 1 g1 rfl
        have hf2 := hfl 2 g2 rfl
        have hf3 := hfl 3 g3 rfl
        simp only [q0.1, q0.2, List.drop_zero, List.take_succ_cons, List.take_zero] at hf0
        simp only [q1.1, q1.2, List.drop_succ_cons, List.drop_zero, List.take_succ_cons, List.take_zero] at hf1
        simp only [q2.1, q2.2, List.drop_succ_cons, List.drop_zero, List.take_succ_cons, List.take_zero] at hf2
        simp only [q3.1, q3.2, List.drop_succ_cons, List.drop_zero, List.take_succ_cons, List.take_zero] at hf3
        obtain ⟨zk, e0, _, _⟩ := DataW.trod_int z0 hf0
        obtain ⟨zn, e1, _, _⟩ := DataW.trod_int z1 hf1
        obtain ⟨zm, e3, _, w3⟩ := DataW.trod_int z3 hf3
        obtain ⟨M, rfl, hM⟩ := wf_u64 w3
        injection e0 with e0
        injection e1 with e1
        injection e3 with e3
        subst e0 e1 e3
        obtain ⟨n, y0, y1, y2, y3, y4, y5, y6, y7, hps2, g0, g1, g2, g3, g4, g5, g6, g7⟩ := open_fields8 hes hone hf2
        obtain ⟨x, hx, hfit⟩ := seed_fields (B := B) u0 u1 u2 u3 u4 u5 u6 u7 ub cb (fun x hx => hlt x (by
          rw [hps]
          refine List.mem_append_right _ (List.mem_flatMap.2 ⟨i, List.mem_range.2 (by omega), ?_⟩)
          rw [hy.2]
          simp [hps2 x hx])) g0 g1 g2 g3 g4 g5 g6 g7
        refine ⟨⟨zk, zn, x, M⟩, fun k u hu => ?_, hfit, hM⟩
        unfold DeedD.cells at hu
        dsimp only at hu
        rw [hx] at hu
        have hk : k < 11 := by have := (List.getElem?_eq_some_iff.1 hu).1; simpa using this
        have := hat k hk
        rw [Go.Deep.add_add] at this
        rw [this]
        exact hu
    obtain ⟨q, hq⟩ := Go.Deep.choose_lt each
    have hl : ((List.range len).map q).length = len := by simp
    have hget : ∀ j x, ((List.range len).map q)[j]? = some x → j < len ∧ q j = x := by
      intro j x hj
      have hjl : j < len := by have := (List.getElem?_eq_some_iff.1 hj).1; rwa [hl] at this
      refine ⟨hjl, ?_⟩
      simp only [List.getElem?_map] at hj
      rw [List.getElem?_range hjl] at hj
      simpa using hj
    refine ⟨(List.range len).map q, some a, cap, by rw [hl], fun hn => ?_, fun x hx => ?_⟩
    · rw [hl] at hn
      have hspot : (a.add (0 * 11 + 0)).spot = none := spot_none ((hq 0 hn).1 0 _ rfl)
      have ea : a.add (0 * 11 + 0) = a := by simp [Addr.add]
      rw [ea] at hspot
      obtain ⟨b, o, sp⟩ := a
      obtain rfl : sp = none := hspot
      have hadd : ∀ j, (⟨b, o, none⟩ : Addr).add j = ⟨b, o + j, none⟩ := by
        intro j
        simp [Addr.add]
        try omega
      refine ⟨b, o, rfl, ?_, fun j x hj i u hu => ?_⟩
      · have hmem : MemPlace.cell b (o + 0) ∈ ps := by
          rw [hps]
          refine List.mem_append_left _ ?_
          rw [hC]
          simp [MemPlace.row]
          omega
        exact hlt _ hmem
      · obtain ⟨hjl, rfl⟩ := hget j x hj
        have := (hq j hjl).1 i u hu
        rw [hadd, ← Nat.add_assoc] at this
        exact this
    · obtain ⟨j, hj⟩ := List.mem_iff_getElem?.1 hx
      obtain ⟨hjl, rfl⟩ := hget j x hj
      exact (hq j hjl).2
end
end Go.Proofs.Ytlmoiepbnnfebaa
