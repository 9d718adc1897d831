/-
  Contracts: a reader that the call owns: New, Bad, Rest, fail.
-/
import Derived.Test.YtofnldmbokdkbaaPut
namespace Go.Proofs.Ytofnldmbokdkbaa
open Go.RowKit

/-- A reader in block g, its bytes in a block between lo and g. -/
def Rdr (w : World) (lo g : Nat) (s : St) : Prop :=
  lo ≤ g ∧ ∃ A c, Blk w g 59 #[.slice A s.rest.length c, .bool s.bad] ∧ Row w g (.slice A s.rest.length c) (u8s s.rest) ∧ ∀ k, (Value.slice A s.rest.length c).ownBlock = some k → lo ≤ k
/-- The pointer to it. -/
def ptr (g : Nat) : Value := .pointer (some ⟨g, 0, none⟩)
theorem Rdr.keep {w w' : World} {lo g : Nat} {s : St} {row : Option Nat} (h : Rdr w lo g s) (hg : w.grownBy w' row) (hr : ∀ k, row = some k → k < lo ∨ g < k) : Rdr w' lo g s := by
  obtain ⟨hlo, A, c, hb, hrow, hk⟩ := h
  have hlt := hb.lt
  refine ⟨hlo, A, c, ?_, ?_, hk⟩
  · exact (hg.block g hlt (fun e => by have := hr g e.symm; omega)).trans hb
  · obtain ⟨A', c', he, hc, hA⟩ := hrow
    injection he with e1 e2 e3
    subst e1 e3
    refine ⟨A, c, by rw [e2], hc, fun hn => ?_⟩
    obtain ⟨b, o, rfl, hbg, hcell⟩ := hA hn
    refine ⟨b, o, rfl, hbg, fun j u hu => ?_⟩
    have hb2 : w'.heap[b]? = w.heap[b]? := hg.block b (by omega) (fun e => by have h1 := hr b e.symm; have h2 := hk b rfl; omega)
    exact (World.cell?_of_block (a := ⟨b, o + j, none⟩) hb2).trans (hcell j u hu)
theorem Rdr.alloc {w : World} {lo g : Nat} {s : St} (h : Rdr w lo g s) (o : Obj) : Rdr (w.alloc o) lo g s := h.keep (World.grownBy_alloc w o none) (by simp)
theorem Rdr.drew {w : World} {lo g : Nat} {s : St} (h : Rdr w lo g s) : Rdr w.drew lo g s := h
theorem Rdr.below {w w' : World} {lo g : Nat} {s : St} (h : Rdr w lo g s) (hb : Below w.heap.size w w') : Rdr w' lo g s :=
  h.keep (row := none) ⟨hb.os, hb.tape, hb.output, hb.size, fun k hk _ => hb.block k hk⟩ (by simp)
theorem Rdr.lt {w : World} {lo g : Nat} {s : St} (h : Rdr w lo g s) : g < w.heap.size := by
  obtain ⟨_, A, c, hb, _⟩ := h; exact hb.lt
theorem Rdr.lo_le {w : World} {lo g : Nat} {s : St} (h : Rdr w lo g s) : lo ≤ g := h.1
theorem Rdr.bad_cell {w : World} {lo g : Nat} {s : St} (h : Rdr w lo g s) : w.cell? ⟨g, 1, none⟩ = some (.bool s.bad) := by
  obtain ⟨_, A, c, hb, _⟩ := h; exact hb.cell 1 _ rfl
theorem Rdr.frozen {w : World} {lo g : Nat} {s : St} (h : Rdr w lo g s) (i : Nat) : w.frozen? ⟨g, i, none⟩ = false := by
  obtain ⟨_, A, c, hb, _⟩ := h; exact hb.frozen i

theorem bad_any {w : World} {lo g : Nat} {s : St} (h : Rdr w lo g s) : Calls Try.prog 37 #[ptr g] w fun e w' => e = .returned (.bool s.bad) ∧ w = w' := by
  have hc := h.bad_cell
  unfold ptr
  go_enter Try.func37, Try.ntmps37
  go_wp2
  go_ret
  exact ⟨rfl, rfl⟩
theorem bad_nil (w : World) : Calls Try.prog 37 #[.pointer none] w fun e w' => e = .returned (.bool true) ∧ w = w' := by
  go_enter Try.func37, Try.ntmps37
  go_wp2
  go_ret
  exact ⟨rfl, rfl⟩
theorem rest_any {w : World} {lo g : Nat} {s : St} (h : Rdr w lo g s) : Calls Try.prog 38 #[ptr g] w fun e w' => e = .returned (.int .i64 (s.rest.length : Int)) ∧ w = w' := by
  obtain ⟨_, A, c, hb, _, _⟩ := h
  have hc := hb.cell 0 _ rfl
  unfold ptr
  go_enter Try.func38, Try.ntmps38
  go_wp2
  go_ret
  exact ⟨rfl, rfl⟩
theorem rest_nil (w : World) : Calls Try.prog 38 #[.pointer none] w fun e w' => e = .returned (.int .i64 0) ∧ w = w' := by
  go_enter Try.func38, Try.ntmps38
  go_wp2
  go_ret
  exact ⟨rfl, rfl⟩
theorem fail_nil (w : World) : Calls Try.prog 39 #[.pointer none] w fun e w' => e = .returned (.tuple #[]) ∧ w = w' := by
  go_enter Try.func39, Try.ntmps39
  go_wp2
  go_end0
  exact ⟨rfl, rfl⟩
theorem fail_any {w : World} {lo g : Nat} {s : St} (h : Rdr w lo g s) : Calls Try.prog 39 #[ptr g] w fun e w' => e = .returned (.tuple #[]) ∧ Rdr w' lo g s.failed ∧ w.grownBy w' (some g) := by
  have hc := h.bad_cell
  have hf := h.frozen 1
  have hr : Rdr (w.setCell ⟨g, 1, none⟩ (.bool true)) lo g s.failed := by
    obtain ⟨hlo, A, c, hb, hrow, hk⟩ := h
    exact ⟨hlo, A, c, hb.set_ 1 (.bool true), hrow.setCell (Nat.le_refl _) _, hk⟩
  have HR := hide hr
  clear hr h
  unfold ptr
  go_enter Try.func39, Try.ntmps39
  go_wp2
  go_end0
  exact ⟨rfl, HR.out, rfl, rfl, rfl, by simp [World.setCell], fun k hk hne => Below.heap_setCell _ _ _ _ (fun e => hne (by subst e; rfl))⟩
theorem new_any (v : Value) (l : List UInt8) (w : World) (hm : l.length ≤ 70368744177664) (hv : Rd w v (u8s l)) :
    Calls Try.prog 23 #[v] w fun e w' => ∃ g, e = .returned (ptr g) ∧ Rdr w' w.heap.size g ⟨l, false⟩ ∧ Below w.heap.size w w' := by
  go_enter Try.func23, Try.ntmps23
  go_wp2_with (go_at_call 32; refine (clone_any v l _ hm hv).mono ?_; rintro e w1 ⟨v1, rfl, hown, hb1⟩; obtain ⟨A, c, rfl⟩ := hown.form; have HO := hide hown; have HB := hide hb1; clear hown hb1)
  go_ret
  refine ⟨w1.heap.size, rfl, ⟨HB.out.size, A, c, ?_, Row.alloc HO.out.rd (Nat.le_refl _) _, fun k hk => (World.ownsRow.lt HO.out k hk).1⟩, HB.out.alloc HB.out.size _⟩
  exact heap_new _ _
end Go.Proofs.Ytofnldmbokdkbaa
