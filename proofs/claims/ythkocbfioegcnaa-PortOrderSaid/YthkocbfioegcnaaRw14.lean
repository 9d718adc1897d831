/-
  Rows and bytes in memory: what reads as rows; rows and bytes of a call's own among other things; rows that came in.
-/
import Derived.Test.YthkocbfioegcnaaPr14
import Derived.Test.YthkocbfioegcnaaRowsN
import Derived.BigQuiet
namespace Go.Proofs.Ythkocbfioegcnaa
open Go.RowKit Go.Lib Go.Deep Go.ChangeShapes Go.WideShapes Go.ChangeAt
set_option maxRecDepth 20000
set_option linter.unusedSimpArgs false
set_option linter.unusedVariables false

section
variable {α : Type} {K : Kd α} {A0 W W' : World} {F0 : Nat → Prop} {L : List Res} {i : Nat} {v v' : Value} {es es' : List α}
theorem Ow.krow (h : Ow A0 F0 W L) (hi : L[i]? = some (Res.row K v es)) : K.Row W v es := let ⟨S, h⟩ := h.get hi; h.1
theorem Ow.newrow (K : Kd α) (h : Ow A0 F0 W L) : Ow A0 F0 W (L ++ [Res.row K (.slice none 0 0) []]) := h.push (Below.refl _ _) ⟨Kd.Row.nil _ _, fun k e => by cases e⟩
/-- A row that another call handed out. -/
theorem Ow.gotrow (h : Ow A0 F0 W L) (hb : Below W.heap.size W W') (hr : K.Row W' v es) (hn : ∀ k, v.ownBlock = some k → W.heap.size ≤ k) : Ow A0 F0 W' (L ++ [Res.row K v es]) := h.push hb ⟨hr, hn⟩
theorem Ow.appended (h : Ow A0 F0 W L) (hi : L[i]? = some (Res.row K v es)) (h1 : K.Row W' v' es') (h2 : W.grownBy W' v.ownBlock) (h3 : v'.ownBlock = v.ownBlock ∨ v'.ownBlock = some W.heap.size) : Ow A0 F0 W' (L.set i (Res.row K v' es')) := by
  obtain ⟨S, ⟨h4, h5⟩, h6⟩ := h.split hi
  refine h6 _ _ ((Kept.of_grown h2).mono (fun k e => .inl (h5 k e))) ⟨h1, fun k e => ?_⟩
  rcases h3 with h3 | h3
  · exact .inl (h5 k (h3 ▸ e))
  · rw [h3] at e
    exact .inr (by have := Option.some.inj e; omega)
/-- A row turned in place. -/
theorem Ow.rowset (h : Ow A0 F0 W L) (hi : L[i]? = some (Res.row K v es)) (h1 : K.Row W' v' es') (h2 : Kept (fun k => v.ownBlock = some k) W W') (h3 : ∀ k, v'.ownBlock = some k → v.ownBlock = some k) : Ow A0 F0 W' (L.set i (Res.row K v' es')) := by
  obtain ⟨S, ⟨h4, h5⟩, h6⟩ := h.split hi
  exact h6 _ _ (h2.mono (fun k e => .inl (h5 k e))) ⟨h1, fun k e => .inl (h5 k (h3 k e))⟩
end
theorem OwF.rowof {α : Type} {K : Kd α} {w W : World} {F : Nat → Prop} {L : List Res} {i : Nat} {v : Value} {es : List α} (h : OwF w (fun _ => False) F W L) (hi : L[i]? = some (Res.row K v es)) : K.Row W v es ∧ Below w.heap.size w W ∧ ∀ k, v.ownBlock = some k → w.heap.size ≤ k := by
  obtain ⟨lab, h1, _, h3⟩ := h.ex
  obtain ⟨h4, h5⟩ := h3 i _ hi
  refine ⟨h4, Ow.bel ⟨F, h⟩, fun k e => ?_⟩
  have hl : lab k = i + 1 := h5 k e
  rcases h.new k ((h1 k).2 (by omega)) with h6 | h6
  · exact h6.elim
  · exact h6
/-- Rows, as a kind. -/
def rwK : Kd Rw where
  T := 32
  TS := 22
  m := 3
  cells := fun x => [.int .i64 x.t, .string x.k, .string x.v]
  z := .agg #[.int .i64 0, .string ⟨#[]⟩, .string ⟨#[]⟩]
  zs := [.int .i64 0, .string ⟨#[]⟩, .string ⟨#[]⟩]
  bytes := 40
  hT := Try.underlying22
  info := by kernel_rfl
  hz := rfl
  zero := fun w => by kernel_rfl
  hzs := by kernel_rfl
  zlen := rfl
  zone := fun u hu => by simp at hu; rcases hu with rfl | rfl <;> rfl
  size := fun w => by kernel_rfl
  hby := by decide
  hm := by decide
  len := fun x => rfl
  one := fun x u hu => by simp at hu; rcases hu with rfl | rfl | rfl <;> rfl
/-- One of the rows that are read. -/
theorem kin_at {w wr : World} {X : Nat → Prop} {A : Option Addr} {n c j : Nat} {l : List Rw} {x : Rw} {B : Nat} (h : KIn rwK w X (.slice A n c) l) (hX : ∀ k, X k → k < B) (hb : Below B w wr) (hj : l[j]? = some x) : n = l.length ∧ ∃ b o, A = some ⟨b, o, none⟩ ∧
    wr.cell? ⟨b, o + j * 3, none⟩ = some (.int .i64 x.t) ∧ wr.cell? ⟨b, o + j * 3 + 1, none⟩ = some (.string x.k) ∧ wr.cell? ⟨b, o + j * 3 + 2, none⟩ = some (.string x.v) := by
  obtain ⟨A0, c0, e, h1⟩ := h
  injection e with e1 e2 e3
  obtain ⟨b, o, rfl, _, hx, hr⟩ := h1 (by have := (List.getElem?_eq_some_iff.1 hj).1; omega)
  have hg : ∀ i u, (rwK.cells x)[i]? = some u → wr.cell? ⟨b, o + j * 3 + i, none⟩ = some u := fun i u hu => (hb.cell (p := ⟨b, o + j * 3 + i, none⟩) (hX b hx)).trans (hr j x hj i u hu)
  exact ⟨e2, b, o, e1, hg 0 _ rfl, hg 1 _ rfl, hg 2 _ rfl⟩
theorem beq_toList {a b : ByteArray} : (a.toList == b.toList) = decide (a = b) := by
  rw [Bool.eq_iff_iff, beq_iff_eq, decide_eq_true_eq, ByteArray.toList_eq, ByteArray.toList_eq]
  exact ⟨fun e => WideShapes.bytes_inj e, fun e => by rw [e]⟩
section
/-- append, as one step. -/
theorem wpList_app {P : Program} {ops : Array Oper} {rest : List Oper} {o : Oper} {a : Act} {Q : Exit → Act → World → Prop} {w w' : World} {v u v' : Value} (hw : Region.wanted o (yielded ops a.tmps) = true) (s y : Operand) (t : TypeId)
    (ho : o.op = .call { callee := .builtin .append, args := #[s, y], argTypes := #[t, t] }) (hs : a.eval s = v) (hy : a.eval y = u) (hr : (Builtin.append_ #[t, t] o.type #[v, u]).run P w = .ok v' w') (hK : wpList P ops Q rest (a.put o.dst v') w') : wpList P ops Q (o :: rest) a w := by
  unfold wpList
  rw [if_pos hw]
  refine .inl ?_
  unfold Oper.wp
  simp [execOp, ho, resolve, invoke, builtin, hs, hy, hr, Result.andThen]
  exact hK
end
abbrev rwC (x : Rw) : List Value := [.int .i64 x.t, .string x.k, .string x.v]
abbrev RwOk (x : Rw) : Prop := (Lit.int .i64 x.t).wf = true
abbrev RwRow (w : World) (B : Nat) (v : Value) (rs : List Rw) : Prop := RecRow 3 rwC RwOk w B v rs
section
variable {H : Type} {enc : TypeId × Value → H} {w : World} {B base b0 fuel : Nat} {spare : Nat → Bool} {held : Bool} {r : Reach} {v : Value} {d : DataW H} {ps : List MemPlace} {cs : List Value} {z : DataW H × List MemPlace}
theorem rd_rw (h : DataW.trod enc Try.prog w base spare held fuel 32 cs = some z) : ∃ x : Rw, cs = rwC x ∧ RwOk x := by
  have he := Try.underlying32
  obtain ⟨xs, n', _, hy, hlen, hxl, hfl⟩ := DataW.trod_struct he h
  have hC : Try.prog.cellsOf 32 = 3 := by kernel_rfl
  have hi : Try.prog.cellsOf 3 = 1 := by kernel_rfl
  have hs : Try.prog.cellsOf 9 = 1 := by kernel_rfl
  rw [hC] at hlen
  match cs, hlen with
  | [c0, c1, c2], _ =>
    match xs, hxl with
    | [y0, y1, y2], _ =>
      have g0 : DataW.trod enc Try.prog w base spare held n' 3 [c0] = some y0 := by simpa [hi, hs] using hfl 0 _ rfl
      have g1 : DataW.trod enc Try.prog w base spare held n' 9 [c1] = some y1 := by simpa [hi, hs] using hfl 1 _ rfl
      have g2 : DataW.trod enc Try.prog w base spare held n' 9 [c2] = some y2 := by simpa [hi, hs] using hfl 2 _ rfl
      obtain ⟨z0, e0, _, w0⟩ := DataW.trod_int Try.underlying3 g0
      obtain ⟨z1, e1, _, _⟩ := DataW.trod_string Try.underlying9 g1
      obtain ⟨z2, e2, _, _⟩ := DataW.trod_string Try.underlying9 g2
      injection e0 with e0
      injection e1 with e1
      injection e2 with e2
      subst e0 e1 e2
      exact ⟨⟨z0, z1, z2⟩, rfl, w0⟩
theorem open_rws (hval : Value.okWide Try.prog w r b0 22 v) (hd : DataW.Trod enc Try.prog w base spare held 22 v d ps) (hlt : ∀ x ∈ ps, x.block < B) : ∃ rs : List Rw, RwRow w B v rs :=
  open_recs 3 rwC RwOk Try.underlying22 (by kernel_rfl) (by decide) (fun x => rfl) (fun fuel cs z h => rd_rw h) hval hd hlt
theorem rw_cells {wr : World} {k n cap : Nat} {A : Option Addr} {l : List Rw} {c : Rw} (hv : RwRow w B (.slice A n cap) l) (hb : Below B w wr) (hk : l[k]? = some c) : n = l.length ∧ ∃ b o, A = some ⟨b, o, none⟩ ∧
    (wr.cell? ⟨b, o + k * 3, none⟩ = some (.int .i64 c.t) ∧ wr.cell? ⟨b, o + k * 3 + 1, none⟩ = some (.string c.k) ∧ wr.cell? ⟨b, o + k * 3 + 2, none⟩ = some (.string c.v)) ∧ RwOk c := by
  obtain ⟨h1, b, o, h2, h3, h4⟩ := rec_at hv hb hk
  exact ⟨h1, b, o, h2, ⟨h3 0 _ rfl, h3 1 _ rfl, h3 2 _ rfl⟩, h4⟩
end
/-- v reads as rows. -/
def Rws (w : World) (v : Value) (l : List Rw) : Prop := KIn rwK w (fun k => k < w.heap.size) v l
theorem Rws.below {w w' : World} {v : Value} {l : List Rw} (h : Rws w v l) (hb : Below w.heap.size w w') : Rws w' v l := KIn.keep h (fun p hp _ => hb.cell hp) hb.size (fun k hk _ => Nat.lt_of_lt_of_le hk hb.size)
theorem Rws.of_row {w : World} {v : Value} {l : List Rw} (h : rwK.Row w v l) : Rws w v l := KIn.of_row h h.lt
theorem Rws.nil (w : World) : Rws w (.slice none 0 0) [] := ⟨none, 0, rfl, fun h => absurd h (by simp)⟩
theorem Rws.of_in {w w' : World} {v : Value} {l : List Rw} (h : RwRow w w.heap.size v l) (hb : Below w.heap.size w w') : Rws w' v l := by
  obtain ⟨⟨A, c, rfl, hc, hA⟩, _⟩ := h
  refine ⟨A, c, rfl, fun hn => ?_⟩
  obtain ⟨b, o, rfl, hlt, hcell⟩ := hA hn
  exact ⟨b, o, rfl, Nat.lt_of_lt_of_le hlt hb.size, Nat.lt_of_lt_of_le hlt hb.size, fun j x hj i u hu => (hb.cell (p := ⟨b, o + j * 3 + i, none⟩) hlt).trans (hcell j x hj i u hu)⟩
theorem Rws.form {w : World} {v : Value} {l : List Rw} (h : Rws w v l) : ∃ A c, v = .slice A l.length c := let ⟨A, c, e, _⟩ := h; ⟨A, c, e⟩
theorem Rws.at_ {w wr : World} {A : Option Addr} {n c j : Nat} {l : List Rw} {x : Rw} (h : Rws w (.slice A n c) l) (hb : Below w.heap.size w wr) (hj : l[j]? = some x) : ∃ b o, A = some ⟨b, o, none⟩ ∧
    wr.cell? ⟨b, o + j * 3, none⟩ = some (.int .i64 x.t) ∧ wr.cell? ⟨b, o + j * 3 + 1, none⟩ = some (.string x.k) ∧ wr.cell? ⟨b, o + j * 3 + 2, none⟩ = some (.string x.v) := (kin_at h (fun _ h => h) hb hj).2
/-- Bytes, as a kind. -/
def b8K : Kd UInt8 where
  T := 5
  TS := 26
  m := 1
  cells := fun x => [.int .u8 (x.toNat : Int)]
  z := .int .u8 0
  zs := [.int .u8 0]
  bytes := 1
  hT := Try.underlying26
  info := by kernel_rfl
  hz := rfl
  zero := fun w => by kernel_rfl
  hzs := by kernel_rfl
  zlen := rfl
  zone := fun u hu => by simp at hu; subst hu; rfl
  size := fun w => by kernel_rfl
  hby := by decide
  hm := by decide
  len := fun x => rfl
  one := fun x u hu => by simp at hu; subst hu; rfl
theorem b8_flat (l : List UInt8) : b8K.flat l = u8s l := by
  induction l with
  | nil => rfl
  | cons x l ih => rw [kf_cons, ih]; rfl
theorem row8_rd {w : World} {v : Value} {l : List UInt8} (h : b8K.Row w v l) : Rd w v (u8s l) := by
  have h : w.ownsRow 0 5 1 v l.length (b8K.flat l) := h
  rw [b8_flat] at h
  exact own_rd h
theorem row8_mine {w : World} {b : Nat} {v : Value} {l : List UInt8} (h : Mine w b v l) : b8K.Row w v l ∧ ∀ k, v.ownBlock = some k → b ≤ k := by
  have h : w.ownsRow b 5 1 v l.length (u8s l) := h
  refine ⟨?_, fun k e => (World.ownsRow.lt h k e).1⟩
  show w.ownsRow 0 5 1 v l.length (b8K.flat l)
  rw [b8_flat]
  exact ⟨h.1, h.2.imp id (fun ⟨g, cap, cur, e, h0, h1⟩ => ⟨g, cap, cur, e, Nat.zero_le _, h1⟩)⟩
theorem row8_own {w : World} {v : Value} {l : List UInt8} (h : b8K.Row w v l) : Mine w 0 v l := by
  have h : w.ownsRow 0 5 1 v l.length (b8K.flat l) := h
  rwa [b8_flat] at h
section
variable {A0 W W' : World} {F0 : Nat → Prop} {L : List Res} {i : Nat} {v : Value} {l : List UInt8}
theorem Ow.rd8 (h : Ow A0 F0 W L) (hi : L[i]? = some (Res.row b8K v l)) : Rd W v (u8s l) := row8_rd (h.krow hi)
theorem Ow.mine (h : Ow A0 F0 W L) (hb : Below W.heap.size W W') (hm : Mine W' W.heap.size v l) : Ow A0 F0 W' (L ++ [Res.row b8K v l]) := h.gotrow hb (row8_mine hm).1 (row8_mine hm).2
theorem Ow.rws {l : List Rw} (h : Ow A0 F0 W L) (hi : L[i]? = some (Res.row rwK v l)) : Rws W v l := .of_row (h.krow hi)
end
end Go.Proofs.Ythkocbfioegcnaa
