/-
  A page: its value, its block; what Decode of package row tells of a slot's bytes, as functions.
-/
import Derived.Test.YtajpjffjhnmfmaaDecode
namespace Go.Proofs.Ytajpjffjhnmfmaa
open Go.RowKit

set_option linter.unusedSimpArgs false
set_option linter.unusedVariables false

/-- A page. -/
structure Pg where
  mark : Nat
  ten : Nat
  num : Nat
  s : Nat → ByteArray
def Pg.cells (p : Pg) : Array Value := #[.int .u64 (p.mark : Int), .int .i64 (p.ten : Int), .int .i64 (p.num : Int), .string (p.s 0), .string (p.s 1), .string (p.s 2), .string (p.s 3), .string (p.s 4)]
def Pg.val (p : Pg) : Value := .agg p.cells
/-- The page in block g. -/
def PgB (w : World) (g : Nat) (p : Pg) : Prop := Blk w g 35 p.cells
def Pg.set (p : Pg) (i : Nat) (v : ByteArray) : Pg := ⟨p.mark, p.ten, p.num, fun j => if j = i then v else p.s j⟩
theorem PgB.slot {w : World} {g : Nat} {p : Pg} (h : PgB w g p) {i : Nat} (hi : i < 5) : w.cell? ⟨g, 3 + i, none⟩ = some (.string (p.s i)) := by
  refine Blk.cell h _ _ ?_
  match i, hi with
  | 0, _ => rfl
  | 1, _ => rfl
  | 2, _ => rfl
  | 3, _ => rfl
  | 4, _ => rfl
theorem PgB.markC {w : World} {g : Nat} {p : Pg} (h : PgB w g p) : w.cell? ⟨g, 0, none⟩ = some (.int .u64 (p.mark : Int)) := Blk.cell h 0 _ rfl
theorem PgB.tenC {w : World} {g : Nat} {p : Pg} (h : PgB w g p) : w.cell? ⟨g, 1, none⟩ = some (.int .i64 (p.ten : Int)) := Blk.cell h 1 _ rfl
theorem PgB.numC {w : World} {g : Nat} {p : Pg} (h : PgB w g p) : w.cell? ⟨g, 2, none⟩ = some (.int .i64 (p.num : Int)) := Blk.cell h 2 _ rfl
theorem PgB.slots {w : World} {g : Nat} {p : Pg} (h : PgB w g p) : w.cell? ⟨g, 3, none⟩ = some (.string (p.s 0)) ∧ w.cell? ⟨g, 4, none⟩ = some (.string (p.s 1)) ∧ w.cell? ⟨g, 5, none⟩ = some (.string (p.s 2)) ∧ w.cell? ⟨g, 6, none⟩ = some (.string (p.s 3)) ∧ w.cell? ⟨g, 7, none⟩ = some (.string (p.s 4)) :=
  ⟨Blk.cell h 3 _ rfl, Blk.cell h 4 _ rfl, Blk.cell h 5 _ rfl, Blk.cell h 6 _ rfl, Blk.cell h 7 _ rfl⟩
theorem PgB.set_slot {w : World} {g : Nat} {p : Pg} (h : PgB w g p) {i : Nat} (hi : i < 5) (v : ByteArray) : PgB (w.setCell ⟨g, 3 + i, none⟩ (.string v)) g (p.set i v) := by
  have := Blk.set_ h (3 + i) (.string v)
  match i, hi, this with
  | 0, _, this => exact this
  | 1, _, this => exact this
  | 2, _, this => exact this
  | 3, _, this => exact this
  | 4, _, this => exact this

/-- A page stored whole. -/
def set8 (W : World) (g : Nat) (p : Pg) : World :=
  (((((((W.setCell ⟨g, 0, none⟩ (.int .u64 (p.mark : Int))).setCell ⟨g, 1, none⟩ (.int .i64 (p.ten : Int))).setCell ⟨g, 2, none⟩ (.int .i64 (p.num : Int))).setCell ⟨g, 3, none⟩ (.string (p.s 0))).setCell ⟨g, 4, none⟩ (.string (p.s 1))).setCell ⟨g, 5, none⟩ (.string (p.s 2))).setCell ⟨g, 6, none⟩ (.string (p.s 3))).setCell ⟨g, 7, none⟩ (.string (p.s 4))
theorem blk_set {w : World} {g : Nat} {t : TypeId} {cs cs' : Array Value} (h : Blk w g t cs) (i : Nat) (u : Value) (e : cs.setIfInBounds i u = cs') : Blk (w.setCell ⟨g, i, none⟩ u) g t cs' := e ▸ h.set_ i u
theorem PgB.set8 {w : World} {g : Nat} {q : Pg} (h : PgB w g q) (p : Pg) : PgB (set8 w g p) g p := by
  unfold PgB Pg.cells at *
  unfold Go.Proofs.Ytajpjffjhnmfmaa.set8
  have h0 := blk_set h 0 (.int .u64 (p.mark : Int)) rfl
  have h1 := blk_set h0 1 (.int .i64 (p.ten : Int)) rfl
  have h2 := blk_set h1 2 (.int .i64 (p.num : Int)) rfl
  have h3 := blk_set h2 3 (.string (p.s 0)) rfl
  have h4 := blk_set h3 4 (.string (p.s 1)) rfl
  have h5 := blk_set h4 5 (.string (p.s 2)) rfl
  have h6 := blk_set h5 6 (.string (p.s 3)) rfl
  exact blk_set h6 7 (.string (p.s 4)) (by simp)
theorem set8_below {w w' : World} {B g : Nat} {p : Pg} (h : Below B w w') (hg : B ≤ g) : Below B w (Go.Proofs.Ytajpjffjhnmfmaa.set8 w' g p) :=
  ((((((((h.setCell hg _).setCell hg _).setCell hg _).setCell hg _).setCell hg _).setCell hg _).setCell hg _).setCell hg _)
theorem PgB.below {w w' : World} {g : Nat} {p : Pg} (h : PgB w g p) (hb : Below w.heap.size w w') : PgB w' g p := Blk.below h hb
theorem PgB.alloc {w : World} {g : Nat} {p : Pg} (h : PgB w g p) (o : Obj) : PgB (w.alloc o) g p := Blk.alloc h o
theorem PgB.drew {w : World} {g : Nat} {p : Pg} (h : PgB w g p) : PgB w.drew g p := h
theorem PgB.grown {w w' : World} {g : Nat} {p : Pg} {row : Option Nat} (h : PgB w g p) (hg : w.grownBy w' row) (hne : row ≠ some g) : PgB w' g p := Blk.grown h hg hne
theorem PgB.lt {w : World} {g : Nat} {p : Pg} (h : PgB w g p) : g < w.heap.size := Blk.lt h
theorem PgB.frozen {w : World} {g : Nat} {p : Pg} (h : PgB w g p) (i : Nat) : w.frozen? ⟨g, i, none⟩ = false := Blk.frozen h i
theorem PgB.far {w : World} {g : Nat} {p : Pg} (h : PgB w g p) {a : Addr} (ha : g ≠ a.block) (u : Value) : PgB (w.setCell a u) g p := Blk.far h ha u

/-- Are these the bytes of a row? -/
def rowB (l : List UInt8) : Bool := decide (l.length = 40) && rightB (rowT l : Int) ⟨(rowK l).toArray⟩ ⟨(rowV l).toArray⟩ && (encL (rowT l) (rowK l) (rowV l) == l)
theorem rowB_length {l : List UInt8} (h : rowB l = true) : l.length = 40 := by
  unfold rowB at h; simp at h; exact h.1.1
theorem rowB_enc (t : Nat) (k v : List UInt8) (ht : t < 4) (hk : k.length ≤ 15) (hv : v.length ≤ 21) : rowB (encL t k v) = true := by
  obtain ⟨h1, h2, h3⟩ := row_enc t k v (by omega) hk hv
  unfold rowB
  rw [h1, h2, h3, encL_length _ _ _ hk hv, rightB_iff.2 ⟨by omega, by omega, by rw [arr_size]; exact hk, by rw [arr_size]; exact hv⟩]
  simp
theorem rowB_z40 : rowB z40 = false := by decide
def decE (l : List UInt8) : Int := if rowB l = true then 0 else if l = z40 then 5 else 9
def decT (l : List UInt8) : Int := if rowB l = true then (rowT l : Int) else 0
def decK (l : List UInt8) : ByteArray := if rowB l = true then ⟨(rowK l).toArray⟩ else ⟨#[]⟩
def decV (l : List UInt8) : ByteArray := if rowB l = true then ⟨(rowV l).toArray⟩ else ⟨#[]⟩
def decR (l : List UInt8) : Value := .agg #[.int .i64 (decT l), .string (decK l), .string (decV l)]
theorem dec_fn {l : List UInt8} {t : Int} {k v : ByteArray} {e : Int} (hl : l.length = 40) (h : Dec l t k v e) : t = decT l ∧ k = decK l ∧ v = decV l ∧ e = decE l := by
  rcases h with ⟨rfl, rfl, rfl, rfl, hz, hn⟩ | ⟨rfl, rfl, rfl, rfl, hz⟩ | ⟨rfl, hr, he⟩
  · have hb : rowB l = false := by
      rw [← Bool.not_eq_true]
      intro hb
      unfold rowB at hb
      simp only [Bool.and_eq_true, beq_iff_eq, rightB_iff, arr_size] at hb
      exact hn _ _ _ (by omega) (by omega) (by omega) hb.2
    have hz' : l ≠ z40 := hz
    simp [decE, decT, decK, decV, hb, hz']
  · have hz' : l = z40 := hz
    subst hz'
    simp [decE, decT, decK, decV, rowB_z40]
  · obtain ⟨h1, h2, h3, h4⟩ := rightB_iff.1 hr
    obtain ⟨n, rfl⟩ : ∃ n : Nat, t = (n : Int) := ⟨t.toNat, by omega⟩
    rw [Int.toNat_natCast] at he
    have hk : k.data.toList.length ≤ 15 := by rw [size_data]; exact h3
    have hv : v.data.toList.length ≤ 21 := by rw [size_data]; exact h4
    have hb : rowB l = true := by rw [← he]; exact rowB_enc n _ _ (by omega) hk hv
    obtain ⟨e1, e2, e3⟩ := row_enc n _ _ (by omega) hk hv
    rw [he] at e1 e2 e3
    simp [decE, decT, decK, decV, hb, e1, e2, e3]
theorem decode_fn (v : Value) (l : List UInt8) (w : World) (hv : Rd w v (u8s l)) :
    Calls Try.prog 28 #[v] w fun e w' => e = .returned (.tuple #[decR l, .int .i64 (decE l)]) ∧ Below w.heap.size w w' := by
  by_cases hl : l.length = 40
  · by_cases hz : l = z40
    · refine (decode_zeros v l w hv hz).mono ?_
      rintro e w' ⟨rfl, hb⟩
      subst hz
      exact ⟨by simp [decR, decE, decT, decK, decV, rowB_z40], hb⟩
    · refine (decode_row v l w hv hl hz).mono ?_
      rintro e w' ⟨t, k, u, e', rfl, hd, hb⟩
      obtain ⟨rfl, rfl, rfl, rfl⟩ := dec_fn hl hd
      exact ⟨rfl, hb⟩
  · refine (decode_size v l w hv hl).mono ?_
    rintro e w' ⟨rfl, hb⟩
    have h1 : rowB l = false := by
      rw [← Bool.not_eq_true]; exact fun h => hl (rowB_length h)
    have h2 : l ≠ z40 := fun e => hl (by rw [e]; rfl)
    exact ⟨by simp [decR, decE, decT, decK, decV, h1, h2], hb⟩
end Go.Proofs.Ytajpjffjhnmfmaa
