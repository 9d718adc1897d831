/-
  What stage 11's laws are handed: changes, ints, calls.
-/
import Derived.Test.YtkegfedbffhnfaaSpec11
namespace Go.Proofs.Ytkegfedbffhnfaa
open Go.ChangeShapes Go.WideShapes Go.ChangeAt Go.RowKit Go.Deep
set_option linter.unusedSimpArgs false
set_option linter.unusedVariables false

section
variable {H : Type} {enc : TypeId × Value → H} {w : World} {B base b0 fuel : Nat} {spare : Nat → Bool} {held : Bool} {r : Reach} {v : Value} {d : DataW H} {ps : List MemPlace} {cs : List Value} {z : DataW H × List MemPlace}
theorem rd_change (h : DataW.trod enc Try.prog w base spare held fuel 31 cs = some z) : ∃ x : Ch, cs = x.cells ∧ x.Ok := by
  have he := Try.underlying31
  obtain ⟨xs, n', _, hy, hlen, hxl, hfl⟩ := DataW.trod_struct he h
  have hC : Try.prog.cellsOf 31 = 3 := by kernel_rfl
  have hi : Try.prog.cellsOf 3 = 1 := by kernel_rfl
  have hs : Try.prog.cellsOf 9 = 1 := by kernel_rfl
  rw [hC] at hlen
  match cs, hlen with
  | [c0, c1, c2], _ =>
    match xs, hxl with
    | [y0, y1, y2], _ =>
      have g0 : DataW.trod enc Try.prog w base spare held n' 3 [c0] = some y0 := by simpa [hi, hs] using hfl 0 _ rfl
      have g1 : DataW.trod enc Try.prog w base spare held n' 3 [c1] = some y1 := by simpa [hi, hs] using hfl 1 _ rfl
      have g2 : DataW.trod enc Try.prog w base spare held n' 9 [c2] = some y2 := by simpa [hi, hs] using hfl 2 _ rfl
      obtain ⟨z0, e0, _, w0⟩ := DataW.trod_int Try.underlying3 g0
      obtain ⟨z1, e1, _, w1⟩ := DataW.trod_int Try.underlying3 g1
      obtain ⟨z2, e2, _, _⟩ := DataW.trod_string Try.underlying9 g2
      injection e0 with e0
      injection e1 with e1
      injection e2 with e2
      subst e0 e1 e2
      exact ⟨⟨z0, z1, z2⟩, rfl, ⟨w0, w1⟩⟩
theorem open_changes (hval : Value.okWide Try.prog w r b0 35 v) (hd : DataW.Trod enc Try.prog w base spare held 35 v d ps) (hlt : ∀ x ∈ ps, x.block < B) : ∃ rs : List Ch, ChRow w B v rs :=
  open_recs 3 Ch.cells Ch.Ok Try.underlying35 (by kernel_rfl) (by decide) (fun x => rfl) (fun fuel cs z h => rd_change h) hval hd hlt
theorem change_cells {wr : World} {k n cap : Nat} {A : Option Addr} {l : List Ch} {c : Ch} (hv : ChRow w B (.slice A n cap) l) (hb : Below B w wr) (hk : l[k]? = some c) : n = l.length ∧ ∃ b o, A = some ⟨b, o, none⟩ ∧
    (wr.cell? ⟨b, o + k * 3, none⟩ = some (.int .i64 c.page) ∧ wr.cell? ⟨b, o + k * 3 + 1, none⟩ = some (.int .i64 c.slot) ∧ wr.cell? ⟨b, o + k * 3 + 2, none⟩ = some (.string c.before)) ∧ c.Ok := by
  obtain ⟨h1, b, o, h2, h3, h4⟩ := rec_at hv hb hk
  exact ⟨h1, b, o, h2, ⟨h3 0 _ rfl, h3 1 _ rfl, h3 2 _ rfl⟩, h4⟩
abbrev intC (n : Int) : List Value := [.int .i64 n]
abbrev IntOk (n : Int) : Prop := (Lit.int .i64 n).wf = true
abbrev IntRow (w : World) (B : Nat) (v : Value) (rs : List Int) : Prop := RecRow 1 intC IntOk w B v rs
theorem open_ints11 (hval : Value.okWide Try.prog w r b0 36 v) (hd : DataW.Trod enc Try.prog w base spare held 36 v d ps) (hlt : ∀ x ∈ ps, x.block < B) : ∃ rs : List Int, IntRow w B v rs := by
  refine open_recs 1 intC IntOk Try.underlying36 (by kernel_rfl) (by decide) (fun x => rfl) (fun fuel cs z h => ?_) hval hd hlt
  have hl := DataW.trod_int Try.underlying3 h
  obtain ⟨z0, e0, _, w0⟩ := hl
  exact ⟨z0, e0, w0⟩
theorem int_cell {wr : World} {k n cap : Nat} {A : Option Addr} {l : List Int} {c : Int} (hv : IntRow w B (.slice A n cap) l) (hb : Below B w wr) (hk : l[k]? = some c) : n = l.length ∧ ∃ b o, A = some ⟨b, o, none⟩ ∧ wr.cell? ⟨b, o + k, none⟩ = some (.int .i64 c) ∧ IntOk c := by
  obtain ⟨h1, b, o, h2, h3, h4⟩ := rec_at hv hb hk
  have h5 := h3 0 _ rfl
  rw [Nat.mul_one, Nat.add_zero] at h5
  exact ⟨h1, b, o, h2, h5, h4⟩
/-- A call. -/
structure TCall where
  k : Int
  n : Int
  at_ : Int
  c : Ch
instance : Inhabited TCall := ⟨⟨0, 0, 0, default⟩⟩
def TCall.cells (x : TCall) : List Value := [.int .i64 x.k, .int .i64 x.n, .int .i64 x.at_, .int .i64 x.c.page, .int .i64 x.c.slot, .string x.c.before]
structure TCall.Ok (x : TCall) : Prop where
  k : (Lit.int .i64 x.k).wf = true
  n : (Lit.int .i64 x.n).wf = true
  at_ : (Lit.int .i64 x.at_).wf = true
  c : x.c.Ok
abbrev TCallRow (w : World) (B : Nat) (v : Value) (rs : List TCall) : Prop := RecRow 6 TCall.cells TCall.Ok w B v rs
theorem open_tcalls (hval : Value.okWide Try.prog w r b0 22 v) (hd : DataW.Trod enc Try.prog w base spare held 22 v d ps) (hlt : ∀ x ∈ ps, x.block < B) : ∃ rs : List TCall, TCallRow w B v rs := by
  refine open_recs 6 TCall.cells TCall.Ok Try.underlying22 (by kernel_rfl) (by decide) (fun x => rfl) (fun fuel cs z h => ?_) hval hd hlt
  have he := Try.underlying33
  obtain ⟨xs, n', _, hy, hlen, hxl, hfl⟩ := DataW.trod_struct he h
  have hC : Try.prog.cellsOf 33 = 6 := by kernel_rfl
  have hi : Try.prog.cellsOf 3 = 1 := by kernel_rfl
  have hc : Try.prog.cellsOf 31 = 3 := by kernel_rfl
  rw [hC] at hlen
  match cs, hlen with
  | [c0, c1, c2, c3, c4, c5], _ =>
    match xs, hxl with
    | [y0, y1, y2, y3], _ =>
      have g0 : DataW.trod enc Try.prog w base spare held n' 3 [c0] = some y0 := by simpa [hi, hc] using hfl 0 _ rfl
      have g1 : DataW.trod enc Try.prog w base spare held n' 3 [c1] = some y1 := by simpa [hi, hc] using hfl 1 _ rfl
      have g2 : DataW.trod enc Try.prog w base spare held n' 3 [c2] = some y2 := by simpa [hi, hc] using hfl 2 _ rfl
      have g3 : DataW.trod enc Try.prog w base spare held n' 31 [c3, c4, c5] = some y3 := by simpa [hi, hc] using hfl 3 _ rfl
      obtain ⟨z0, e0, _, w0⟩ := DataW.trod_int Try.underlying3 g0
      obtain ⟨z1, e1, _, w1⟩ := DataW.trod_int Try.underlying3 g1
      obtain ⟨z2, e2, _, w2⟩ := DataW.trod_int Try.underlying3 g2
      obtain ⟨z3, e3, w3⟩ := rd_change g3
      injection e0 with e0
      injection e1 with e1
      injection e2 with e2
      injection e3 with e3 e4
      injection e4 with e4 e5
      injection e5 with e5
      subst e0 e1 e2 e3 e4 e5
      exact ⟨⟨z0, z1, z2, z3⟩, rfl, ⟨w0, w1, w2, w3⟩⟩
theorem tcall_cells {wr : World} {k n cap : Nat} {A : Option Addr} {l : List TCall} {c : TCall} (hv : TCallRow w B (.slice A n cap) l) (hb : Below B w wr) (hk : l[k]? = some c) : n = l.length ∧ ∃ b o, A = some ⟨b, o, none⟩ ∧
    (wr.cell? ⟨b, o + k * 6, none⟩ = some (.int .i64 c.k) ∧ wr.cell? ⟨b, o + k * 6 + 1, none⟩ = some (.int .i64 c.n) ∧ wr.cell? ⟨b, o + k * 6 + 2, none⟩ = some (.int .i64 c.at_) ∧ wr.cell? ⟨b, o + k * 6 + 3, none⟩ = some (.int .i64 c.c.page) ∧ wr.cell? ⟨b, o + k * 6 + 4, none⟩ = some (.int .i64 c.c.slot) ∧ wr.cell? ⟨b, o + k * 6 + 5, none⟩ = some (.string c.c.before)) ∧ c.Ok := by
  obtain ⟨h1, b, o, h2, h3, h4⟩ := rec_at hv hb hk
  exact ⟨h1, b, o, h2, ⟨h3 0 _ rfl, h3 1 _ rfl, h3 2 _ rfl, h3 3 _ rfl, h3 4 _ rfl, h3 5 _ rfl⟩, h4⟩
end
end Go.Proofs.Ytkegfedbffhnfaa
