/-
  The calls that stage 10's laws are handed: three ints and a string each.
-/
import Derived.Test.YtdoeinofcklnhaaRecsIn
namespace Go.Proofs.Ytdoeinofcklnhaa
open Go.ChangeShapes Go.WideShapes Go.ChangeAt Go.RowKit Go.Deep
set_option linter.unusedSimpArgs false
set_option linter.unusedVariables false

structure LCall where
  k : Int
  who : Int
  t : Int
  key : ByteArray
instance : Inhabited LCall := ⟨⟨0, 0, 0, ⟨#[]⟩⟩⟩
def LCall.cells (x : LCall) : List Value := [.int .i64 x.k, .int .i64 x.who, .int .i64 x.t, .string x.key]
structure LCall.Ok (x : LCall) : Prop where
  k : (Lit.int .i64 x.k).wf = true
  who : (Lit.int .i64 x.who).wf = true
  t : (Lit.int .i64 x.t).wf = true
abbrev LCallRow (w : World) (B : Nat) (v : Value) (rs : List LCall) : Prop := RecRow 4 LCall.cells LCall.Ok w B v rs
theorem open_lcalls {H : Type} {enc : TypeId × Value → H} {w : World} {B base b0 : Nat} {spare : Nat → Bool} {held : Bool} {r : Reach} {v : Value} {d : DataW H} {ps : List MemPlace}
    (hval : Value.okWide Try.prog w r b0 22 v) (hd : DataW.Trod enc Try.prog w base spare held 22 v d ps) (hlt : ∀ x ∈ ps, x.block < B) : ∃ rs : List LCall, LCallRow w B v rs := by
  refine open_recs 4 LCall.cells LCall.Ok Try.underlying22 (by kernel_rfl) (by decide) (fun x => rfl) (fun fuel cs z h => ?_) hval hd hlt
  have he := Try.underlying27
  obtain ⟨xs, n', _, hy, hlen, hxl, hfl⟩ := DataW.trod_struct he h
  have hC : Try.prog.cellsOf 27 = 4 := by kernel_rfl
  have hi : Try.prog.cellsOf 3 = 1 := by kernel_rfl
  have hs : Try.prog.cellsOf 9 = 1 := by kernel_rfl
  rw [hC] at hlen
  match cs, hlen with
  | [c0, c1, c2, c3], _ =>
    match xs, hxl with
    | [y0, y1, y2, y3], _ =>
      have g0 : DataW.trod enc Try.prog w base spare held n' 3 [c0] = some y0 := by simpa [hi, hs] using hfl 0 _ rfl
      have g1 : DataW.trod enc Try.prog w base spare held n' 3 [c1] = some y1 := by simpa [hi, hs] using hfl 1 _ rfl
      have g2 : DataW.trod enc Try.prog w base spare held n' 3 [c2] = some y2 := by simpa [hi, hs] using hfl 2 _ rfl
      have g3 : DataW.trod enc Try.prog w base spare held n' 9 [c3] = some y3 := by simpa [hi, hs] using hfl 3 _ rfl
      obtain ⟨z0, e0, _, w0⟩ := DataW.trod_int Try.underlying3 g0
      obtain ⟨z1, e1, _, w1⟩ := DataW.trod_int Try.underlying3 g1
      obtain ⟨z2, e2, _, w2⟩ := DataW.trod_int Try.underlying3 g2
      obtain ⟨z3, e3, _, _⟩ := DataW.trod_string Try.underlying9 g3
      injection e0 with e0
      injection e1 with e1
      injection e2 with e2
      injection e3 with e3
      subst e0 e1 e2 e3
      exact ⟨⟨z0, z1, z2, z3⟩, rfl, ⟨w0, w1, w2⟩⟩
theorem lcall_cells {w wr : World} {B k n cap : Nat} {A : Option Addr} {cs : List LCall} {c : LCall} (hv : LCallRow w B (.slice A n cap) cs) (hb : Below B w wr) (hk : cs[k]? = some c) : n = cs.length ∧ ∃ b o, A = some ⟨b, o, none⟩ ∧
    (wr.cell? ⟨b, o + k * 4, none⟩ = some (.int .i64 c.k) ∧ wr.cell? ⟨b, o + k * 4 + 1, none⟩ = some (.int .i64 c.who) ∧ wr.cell? ⟨b, o + k * 4 + 2, none⟩ = some (.int .i64 c.t) ∧ wr.cell? ⟨b, o + k * 4 + 3, none⟩ = some (.string c.key)) ∧ c.Ok := by
  obtain ⟨h1, b, o, h2, h3, h4⟩ := rec_at hv hb hk
  exact ⟨h1, b, o, h2, ⟨h3 0 _ rfl, h3 1 _ rfl, h3 2 _ rfl, h3 3 _ rfl⟩, h4⟩
end Go.Proofs.Ytdoeinofcklnhaa
