/-
  A disk of two regions; the region that was never written has no lane.
-/
import Derived.Test.YtlmoiepbnnfebaaHol
namespace Go.Proofs.Ytlmoiepbnnfebaa
open Go.RowKit
set_option maxRecDepth 20000
set_option linter.unusedSimpArgs false
set_option linter.unusedVariables false

/-- A disk of two regions. -/
theorem disk_new2 (w : World) : Calls Try.prog 14 #[.int .i64 2, .int .i64 538] w fun e w' => ∃ dg d, e = .returned (.pointer (some ⟨dg, 0, none⟩)) ∧ Many w' (fun k => k < w.heap.size) [(dg, d)] ∧ DIs d 0 (Rg.new 538) 0 ∧ DIs d 1 (Rg.new 538) 0 ∧ d.size = 538 ∧ Below w.heap.size w w' := by
  refine (new_many (X := fun k => k < w.heap.size) (Many.nil (fun k hk => hk)) 2 538 (by omega) (by omega) (by omega) (by omega)).mono ?_
  rintro e w' ⟨dg, rfl, hm, hb⟩
  exact ⟨dg, _, rfl, hm, ⟨rfl, by show 514 ≤ 538; omega, Rg.new_fit 538, Small.new 2 538⟩, ⟨rfl, by show 514 ≤ 538; omega, Rg.new_fit 538, Small.new 2 538⟩, rfl, hb⟩
theorem Rg.new_crash (n : Nat) (m : Nat → Bool) : (Rg.new n).crash m = Rg.new n := rfl
/-- The other region, never written. -/
theorem Apart.new0 {d d' : Ds} {n : Nat} (h : Apart d d' 1) (h0 : d.regs[0]? = some (Rg.new n)) : d'.regs[0]? = some (Rg.new n) := (h.2 0 (by decide)).trans h0
theorem crash_new0 {d : Ds} {n : Nat} (h0 : d.regs[0]? = some (Rg.new n)) (m : Nat → Bool) : (d.crash m).regs[0]? = some (Rg.new n) := by
  show (d.regs.map (Rg.crash m))[0]? = _
  rw [List.getElem?_map, h0]
  rfl
theorem LiveD.new0 {w : World} {X : Nat → Prop} {dg g r n k gen s : Nat} {d : Ds} {up : Bool} {all : List Rc} (h : LiveD w X dg d g r n k gen up all s) (h0 : d.regs[0]? = some (Rg.new n)) : Many w X [(dg, d)] ∧ DIs d 0 (Rg.new n) k := by
  obtain ⟨l, kv, gr, h1, h2, _, _, hn, _⟩ := h
  exact ⟨h1.many.more (Below.refl _ _) (fun k hk => .inl (.inl hk)), h0, h2.size, by rw [hn]; exact Rg.new_fit n, h2.small⟩
theorem zsec_gn : gn zsec = 0 := by decide
set_option maxHeartbeats 8000000 in
/-- Open, where there is none. -/
theorem open_none {w : World} {X : Nat → Prop} {dg n k : Nat} {d : Ds} (h : Many w X [(dg, d)]) (hd : DIs d 0 (Rg.new n) k) :
    Calls Try.prog 23 #[.pointer (some ⟨dg, 0, none⟩), .int .i64 0] w fun e w' => e = .returned (.tuple #[.pointer none, .slice none 0 0, .int .i64 5]) ∧ Below w.heap.size w w' := by
  have hsz := hd.size
  obtain ⟨b, hb2, hb3, hb64⟩ := hd.rd (s := 1) (by omega)
  have hb0 : b = zsec := by
    have h1 : (Rg.new n).secs = List.replicate n zsec := rfl
    rw [h1, List.getElem?_replicate] at hb3
    split at hb3
    · exact (Option.some.inj hb3).symm
    · cases hb3
  subst hb0
  have hfind : Calls Try.prog 44 #[.pointer (some ⟨dg, 0, none⟩), .int .i64 0] w fun e w' => e = .returned (.tuple #[.pointer none, .int .i64 5]) ∧ Below w.heap.size w w' := (find_ln h hd hb2 hb64).mono (fun e w' hp => hp.1 zsec_gn)
  clear h hd hb2 hb3 hb64
  go_enter Try.func23, Try.ntmps23
  go_wp2_with (go_at_call 44; ((with_reducible refine hfind.mono ?_); rintro e w1 ⟨rfl, hb1⟩))
  go_ret3
  exact ⟨rfl, hb1⟩
end Go.Proofs.Ytlmoiepbnnfebaa
