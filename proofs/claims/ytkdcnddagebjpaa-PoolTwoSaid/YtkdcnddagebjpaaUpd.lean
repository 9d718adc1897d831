/-
  An Update appended, a page's number, a place: what the walks of stage 8 share.
-/
import Derived.Test.YtkdcnddagebjpaaFit8
namespace Go.Proofs.Ytkdcnddagebjpaa
open Go.RowKit
set_option maxRecDepth 20000
set_option linter.unusedSimpArgs false
set_option linter.unusedVariables false

/-- An Update of a page, with nothing else. -/
def updR (p : Nat) : Rc := ⟨3, 0, p, 0, ⟨#[]⟩, ⟨#[]⟩, ⟨#[]⟩, []⟩
theorem updR_ok {p : Nat} (h : p < 6) : (updR p).Ok := by
  match p, h with
  | 0, _ => exact (Rc.right_iff _).1 (by decide)
  | 1, _ => exact (Rc.right_iff _).1 (by decide)
  | 2, _ => exact (Rc.right_iff _).1 (by decide)
  | 3, _ => exact (Rc.right_iff _).1 (by decide)
  | 4, _ => exact (Rc.right_iff _).1 (by decide)
  | 5, _ => exact (Rc.right_iff _).1 (by decide)
theorem updR_frame (p : Nat) : (updR p).frame.length = 11 := by rw [Rc.frame_length]; rfl
theorem frs_upd (all : List Rc) (p : Nat) : (frsR (all ++ [updR p])).length = (frsR all).length + 11 := by rw [frsR_append, List.length_append, frsR_one, updR_frame]
theorem lim_lt {gen : Nat} {all : List Rc} (hg : gen ≤ 1000) (h : (frsR all).length ≤ 14336) : lim gen all < 18446744073709551616 := by unfold lim; omega
section
variable {w w' : World} {X Y : Nat → Prop} {dg : Nat} {d : Ds} {g q r k gen s : Nat} {all : List Rc} {P : Po} {D : Nat → Pg} {x : Option Nat}
theorem po_upd {p : Nat} (h : PoolT w X dg d g q r k gen all s P D x) (hp : p < 6) (hl : (frsR all).length + 11 ≤ 14336) :
    Calls Try.prog 13 #[.pointer (some ⟨g, 0, none⟩), .agg #[.int .i64 3, .int .i64 0, .int .i64 (p : Int), .int .i64 0, .string ⟨#[]⟩, .string ⟨#[]⟩, .string ⟨#[]⟩, .slice none 0 0]] w fun e w' => e = .returned (.tuple #[.int .u64 (lim gen all : Int), .int .i64 0]) ∧ PoolT w' X dg d g q r k gen (all ++ [updR p]) s P D x ∧ Out X w w' :=
  (po_append (c := updR p) (A2 := none) (c2 := 0) h (updR_ok hp) (Rd.nil_ _ _ _) (by rw [updR_frame]; exact hl)).mono (fun e w' ⟨h1, h2, h3⟩ => ⟨h1, h2, PAt.outX h3⟩)
theorem po_upd0 (h : PoolT w X dg d g q r k gen all s P D x) (hl : (frsR all).length + 11 ≤ 14336) :
    Calls Try.prog 13 #[.pointer (some ⟨g, 0, none⟩), .agg #[.int .i64 3, .int .i64 0, .int .i64 0, .int .i64 0, .string ⟨#[]⟩, .string ⟨#[]⟩, .string ⟨#[]⟩, .slice none 0 0]] w fun e w' => e = .returned (.tuple #[.int .u64 (lim gen all : Int), .int .i64 0]) ∧ PoolT w' X dg d g q r k gen (all ++ [updR 0]) s P D x ∧ Out X w w' := po_upd (p := 0) h (by omega) hl
theorem po_upd_full {p : Nat} (h : PoolT w X dg d g q r k gen all s P D x) (hp : p < 6) (hl : 14336 < (frsR all).length + 11) :
    Calls Try.prog 13 #[.pointer (some ⟨g, 0, none⟩), .agg #[.int .i64 3, .int .i64 0, .int .i64 (p : Int), .int .i64 0, .string ⟨#[]⟩, .string ⟨#[]⟩, .string ⟨#[]⟩, .slice none 0 0]] w fun e w' => e = .returned (.tuple #[.int .u64 0, .int .i64 7]) ∧ Below w.heap.size w w' :=
  po_quota (c := updR p) (A2 := none) (c2 := 0) h (updR_ok hp) (Rd.nil_ _ _ _) (by rw [updR_frame]; exact hl)
end
/-- A number's page. -/
theorem mod_page (z : Int) : ∃ p : Nat, p < 6 ∧ Int.tmod (Int.tmod z 6 + 6) 6 = (p : Int) ∧ -6 < Int.tmod z 6 ∧ Int.tmod z 6 < 6 := by
  obtain ⟨h1, h2, h3, h4⟩ := sP_ok z
  exact ⟨sP z, by omega, h2, h3, h4⟩
theorem mod_three (z : Int) : ∃ p : Nat, p < 3 ∧ Int.tmod (Int.tmod z 3 + 3) 3 = (p : Int) ∧ -3 < Int.tmod z 3 ∧ Int.tmod z 3 < 3 := by
  obtain ⟨h1, h2, h3, h4⟩ := mod_ok z 3 (by omega) (by omega)
  exact ⟨(Int.tmod (Int.tmod z 3 + 3) 3).toNat, by omega, by omega, h1, h2⟩
/-- One of the ints that came in. -/
theorem int_at {w wr : World} {B k : Nat} {v : Value} {cs : List Int} (hv : Row w B v (cs.map fun x => .int .i64 x)) (hb : Below B w wr) (hk : k < cs.length) : ∃ b o cap, v = .slice (some ⟨b, o, none⟩) cs.length cap ∧ wr.cell? ⟨b, o + k, none⟩ = some (.int .i64 cs[k]) := by
  obtain ⟨A0, cap, rfl, _, hcell⟩ := hv
  rw [List.length_map] at hcell ⊢
  obtain ⟨b, o, rfl, hbB, hcell⟩ := hcell (by omega)
  exact ⟨b, o, cap, rfl, (hb.cell (p := ⟨b, o + k, none⟩) hbB).trans (hcell k _ (by rw [List.getElem?_map, List.getElem?_eq_getElem hk]; rfl))⟩
end Go.Proofs.Ytkdcnddagebjpaa
