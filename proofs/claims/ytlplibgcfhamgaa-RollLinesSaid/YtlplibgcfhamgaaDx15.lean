/-
  Package disk: Arm and Waits.
-/
import Derived.Test.YtlplibgcfhamgaaB3
namespace Go.Proofs.Ytlplibgcfhamgaa
open Go.RowKit
set_option maxRecDepth 20000
set_option linter.unusedSimpArgs false
set_option linter.unusedVariables false

theorem arm_nil (r n : Int) (w : World) : Calls Try.prog 15 #[.pointer none, .int .i64 r, .int .i64 n] w fun e w' => e = .returned (.tuple #[]) ∧ w = w' := by
  go_enter Try.func15, Try.ntmps15
  go_wp2_with (go_at_call 17; refine (region_nil r _).mono ?_; rintro e w1 ⟨rfl, rfl⟩)
  go_end0
  exact ⟨rfl, rfl⟩
theorem arm_bad {w : World} {lab : Nat → Nat} {g : Nat} {d : Ds} (h : DkAt w lab g d) (r n : Int) (hr : d.at? r = none) :
    Calls Try.prog 15 #[ptr g, .int .i64 r, .int .i64 n] w fun e w' => e = .returned (.tuple #[]) ∧ w = w' := by
  obtain ⟨_, _, _, g2, cs, _, hb, _⟩ := id h
  have hout := out_of hr
  go_enter Try.func15, Try.ntmps15
  go_wp2_with (go_at_call 17; refine (region_out hb r hout).mono ?_; rintro e w1 ⟨rfl, rfl⟩)
  go_end0
  exact ⟨rfl, rfl⟩
theorem arm_ok {w : World} {lab : Nat → Nat} {g : Nat} {d : Ds} (h : DkAt w lab g d) (r n : Int) {rg : Rg} (hr : d.at? r = some rg) :
    Calls Try.prog 15 #[ptr g, .int .i64 r, .int .i64 n] w (DkRet w lab g (.tuple #[]) (d.arm r.toNat rg n)) := by
  obtain ⟨i, rfl, hi, hri⟩ := at_some hr
  obtain ⟨_, hg, _, g2, cs, hg2, hb, hb2, hcs, hall⟩ := id h
  obtain ⟨sb, pv, c0, c1, c2, c3, hlsb, hsb, hown, hpl, hfit⟩ := id (hall i rg hri)
  have hlt : i * 4 + 3 < cs.size := (Array.getElem?_eq_some_iff.1 c3).1
  have hc2 := hb2.cell _ _ c2
  have hf2 := hb2.frozen (i * 4 + 2)
  have hc3 := hb2.cell _ _ c3
  have hf3 := hb2.frozen (i * 4 + 3)
  have H : ∀ z : Int, z = ((n.toNat : Nat) : Int) → Hid (DkAt ((w.setCell ⟨g2, i * 4 + 2, none⟩ (.bool true)).setCell ⟨g2, i * 4 + 3, none⟩ (.int .i64 z)) lab g (d.arm i rg n) ∧ DkStep w ((w.setCell ⟨g2, i * 4 + 2, none⟩ (.bool true)).setCell ⟨g2, i * 4 + 3, none⟩ (.int .i64 z)) lab lab) := by
    rintro z rfl
    have hk : Kept (fun k => k = g2) w ((w.setCell ⟨g2, i * 4 + 2, none⟩ (.bool true)).setCell ⟨g2, i * 4 + 3, none⟩ (.int .i64 ((n.toNat : Nat) : Int))) := (Kept.setCell w ⟨g2, i * 4 + 2, none⟩ (.bool true)).trans_same (Kept.setCell _ ⟨g2, i * 4 + 3, none⟩ _)
    refine dk_turned (r' := rg.arm n) (cs' := (cs.setIfInBounds (i * 4 + 2) (.bool true)).setIfInBounds (i * 4 + 3) (.int .i64 ((n.toNat : Nat) : Int))) h hri hg2 hb hcs hall hk (fun k hc => .inl (by rw [show k = g2 from hc]; exact hg2)) ((hb2.set_ _ _).set_ _ _) (by simp)
      (fun p hp => by rw [Array.getElem?_setIfInBounds, if_neg (by omega), Array.getElem?_setIfInBounds, if_neg (by omega)]) ⟨sb, pv, ?_, ?_, ?_, ?_, hlsb, ?_, ?_, hpl, hfit.arm n⟩
    · rw [Array.getElem?_setIfInBounds, if_neg (by omega), Array.getElem?_setIfInBounds, if_neg (by omega)]; exact c0
    · rw [Array.getElem?_setIfInBounds, if_neg (by omega), Array.getElem?_setIfInBounds, if_neg (by omega)]; exact c1
    · rw [Array.getElem?_setIfInBounds, if_neg (by omega), Array.getElem?_setIfInBounds, if_pos rfl, if_pos (by omega)]; rfl
    · rw [Array.getElem?_setIfInBounds, if_pos rfl, if_pos (by simp; omega)]; rfl
    · exact hk.blk hsb (fun hc => by have : sb = g2 := hc; rw [this, hg2] at hlsb; omega)
    · exact hk.own hown (fun k hk' hc => by have := hpl k hk'; rw [show k = g2 from hc, hg2] at this; omega)
  clear hall hown hfit h
  unfold ptr
  by_cases hn : n < 0
  · have H1 := H 0 (by omega)
    clear H
    go_enter Try.func15, Try.ntmps15
    go_wp2_with (go_at_call 17; refine (region_some hb i hi).mono ?_; rintro e w1 ⟨rfl, rfl⟩)
    go_end0
    exact ⟨rfl, lab, H1.out.1, H1.out.2⟩
  · have H1 := H n (by omega)
    have hn2 : 0 ≤ n := by omega
    clear H hn
    go_enter Try.func15, Try.ntmps15
    go_wp2_with (go_at_call 17; refine (region_some hb i hi).mono ?_; rintro e w1 ⟨rfl, rfl⟩)
    go_end0
    exact ⟨rfl, lab, H1.out.1, H1.out.2⟩
theorem arm_any {w : World} {lab : Nat → Nat} {g : Nat} {d : Ds} (h : DkAt w lab g d) (r n : Int) : Calls Try.prog 15 #[ptr g, .int .i64 r, .int .i64 n] w (DkRet w lab g (.tuple #[]) (d.ar r n)) := by
  unfold Ds.ar
  cases hr : d.at? r with
  | none => exact (arm_bad h r n hr).mono fun e w' ⟨he, hw⟩ => ⟨he, lab, hw ▸ h, hw ▸ DkStep.refl _ _⟩
  | some rg => exact arm_ok h r n hr

/-- Waits, Down, Writes. -/
theorem waits_any {w : World} {lab : Nat → Nat} {g : Nat} {d : Ds} (h : DkAt w lab g d) (r : Int) : Calls Try.prog 16 #[ptr g, .int .i64 r] w fun e w' => e = .returned (.int .i64 (d.waits r : Int)) ∧ w = w' := by
  obtain ⟨_, _, _, g2, cs, _, hb, hb2, hcs, hall⟩ := id h
  unfold Ds.waits
  cases hr : d.at? r with
  | none =>
    have hout := out_of hr
    simp only
    go_enter Try.func16, Try.ntmps16
    go_wp2_with (go_at_call 17; refine (region_out hb r hout).mono ?_; rintro e w1 ⟨rfl, rfl⟩)
    go_ret
    exact ⟨rfl, rfl⟩
  | some rg =>
    obtain ⟨i, rfl, hi, hri⟩ := at_some hr
    obtain ⟨sb, pv, c0, c1, c2, c3, _, _, hown, _, _⟩ := hall i rg hri
    obtain ⟨A, c, rfl⟩ := own_form_n hown
    have hc1 := hb2.cell _ _ c1
    simp only
    clear hown hall
    go_enter Try.func16, Try.ntmps16
    go_wp2_with (go_at_call 17; refine (region_some hb i hi).mono ?_; rintro e w1 ⟨rfl, rfl⟩)
    go_ret
    exact ⟨rfl, rfl⟩
section
variable {w : World} {X : Nat → Prop} {l : List (Nat × Ds)} {i g : Nat} {d : Ds}
theorem arm_many (h : Many w X l) (hi : l[i]? = some (g, d)) (r n : Int) : Calls Try.prog 15 #[ptr g, .int .i64 r, .int .i64 n] w (fun e w' => e = .returned (.tuple #[]) ∧ Many w' X (l.set i (g, d.ar r n)) ∧ Out X w w') :=
  many_calls h hi (fun _ hd => arm_any hd r n)
theorem waits_many (h : Many w X l) (hi : l[i]? = some (g, d)) (r : Int) : Calls Try.prog 16 #[ptr g, .int .i64 r] w fun e w' => e = .returned (.int .i64 (d.waits r : Int)) ∧ w = w' := by
  obtain ⟨lab, hd⟩ := many_at h hi; exact waits_any hd r
end
end Go.Proofs.Ytlplibgcfhamgaa
