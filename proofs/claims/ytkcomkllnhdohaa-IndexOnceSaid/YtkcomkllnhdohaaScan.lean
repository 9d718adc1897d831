/-
  Contract of package index: Scan, which hands out a function.
-/
import Derived.Test.YtkcomkllnhdohaaRangeI
namespace Go.Proofs.Ytkcomkllnhdohaa
open Go.RowKit
set_option maxRecDepth 20000
set_option linter.unusedSimpArgs false
set_option linter.unusedVariables false

/-- What Scan hands out, and what it lies on. -/
structure ScanP (w : World) (xv : Value) (t : Int) (fr to : ByteArray) (w' : World) : Prop where
  x : Blk w' w.heap.size 46 #[xv]
  lo : Blk w' (w.heap.size + 1) 30 (sought t fr).rowc
  hi : Blk w' (w.heap.size + 2) 30 (sought t to).rowc
  bel : Below w.heap.size w w'
theorem Scan_any (w : World) (p : Option Addr) (t : Int) (fr to : ByteArray) :
    Calls Try.prog 19 #[.pointer p, .int .i64 t, .string fr, .string to] w fun e w' => e = .returned (.func (.func 24) #[] #[.pointer (some ⟨w.heap.size, 0, none⟩), .pointer (some ⟨w.heap.size + 1, 0, none⟩), .pointer (some ⟨w.heap.size + 2, 0, none⟩)]) ∧ ScanP w (.pointer p) t fr to w' := by
  go_enter Try.func19, Try.ntmps19
  go_wp2
  go_ret
  refine ⟨rfl, ?_, ?_, ?_, ?_⟩
  · exact Blk.alloc (Blk.alloc (heap_new w _) _) _
  · exact Blk.alloc (heap_at _ _ (by simp)) _
  · exact heap_at _ _ (by simp)
  · exact (((Below.refl _ _).alloc (Nat.le_refl _) _).alloc (by simp) _).alloc (by simp; omega) _
theorem Ix.calm {D g : Nat} {A B : World} {r : Option Nat} {xs : List It} (h : Ix A g r xs) (hc : Calm D A B) (h1 : g < D) (h2 : ∀ k, r = some k → k < D) : Ix B g r xs :=
  h.keep hc.kept (by rintro (h | h) <;> omega) (fun k hk => by have := h2 k hk; rintro (h | h) <;> omega)
/-- What lay below B, and that the memory has grown beyond D: between two rounds. -/
def Grn (B D : Nat) (w A : World) : Prop := Below B w A ∧ D ≤ A.heap.size
theorem Grn.calm {B D : Nat} {w A C : World} (h : Grn B D w A) (hBD : B ≤ D) (hc : Calm D A C) : Grn B D w C := ⟨h.1.trans ((hc.below h.2).mono hBD), Nat.le_trans h.2 hc.2.2.2.1⟩
theorem Grn.below {B D : Nat} {w A C : World} (h : Grn B D w A) (hBD : B ≤ D) (hc : Below A.heap.size A C) : Grn B D w C := ⟨h.1.trans (hc.mono (Nat.le_trans hBD h.2)), Nat.le_trans h.2 hc.size⟩
theorem Grn.kept {B D : Nat} {w A C : World} {S : Nat → Prop} (h : Grn B D w A) (hBD : B ≤ D) (hc : Kept S A C) (hs : ∀ k, S k → B ≤ k) : Grn B D w C := ⟨h.1.trans (hc.below (Nat.le_trans hBD h.2) hs), Nat.le_trans h.2 hc.size⟩
end Go.Proofs.Ytkcomkllnhdohaa
