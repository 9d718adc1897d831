/-
  Contract: a disk's Read.
-/
import Derived.Test.YthlclhfepnmaeaaDOps2
namespace Go.Proofs.Ythlclhfepnmaeaa
open Go.RowKit

/-- What Read tells: a sector, if there is one. -/
def Ds.rd? (d : Ds) (r s : Int) : Option Sec :=
  match d.at? r with
  | none => none
  | some g => if s < 0 ∨ (d.size : Int) ≤ s then none else g.secs[s.toNat]?
theorem read_nil (r s : Int) (w : World) : Calls Try.prog 11 #[.pointer none, .int .i64 r, .int .i64 s] w fun e w' => e = .returned (.tuple #[.slice none 0 0, .int .i64 1]) ∧ w = w' := by
  go_enter Try.func11, Try.ntmps11
  go_wp2_with (first
    | (go_at_call 16; refine (region_nil r _).mono ?_; rintro e w1 ⟨rfl, rfl⟩)
    | (go_at_call 17; refine (has_nil s _).mono ?_; rintro e w1 ⟨rfl, rfl⟩))
  go_ret2
  exact ⟨rfl, rfl⟩
theorem read_bad {w : World} {lab : Nat → Nat} {g : Nat} {d : Ds} (h : DkAt w lab g d) (r s : Int) (hn : d.rd? r s = none) : Calls Try.prog 11 #[ptr g, .int .i64 r, .int .i64 s] w fun e w' => e = .returned (.tuple #[.slice none 0 0, .int .i64 1]) ∧ w = w' := by
  obtain ⟨_, _, _, g2, cs, _, hb, hb2, hcs, hall⟩ := id h
  unfold Ds.rd? at hn
  cases hr : d.at? r with
  | none =>
    have hout := out_of hr
    clear hn
    go_enter Try.func11, Try.ntmps11
    go_wp2_with (first
      | (go_at_call 16; refine (region_out hb r hout).mono ?_; rintro e w1 ⟨rfl, rfl⟩)
      | (go_at_call 17; refine (has_nil s _).mono ?_; rintro e w1 ⟨rfl, rfl⟩))
    go_ret2
    exact ⟨rfl, rfl⟩
  | some rg =>
    obtain ⟨i, rfl, hi, hri⟩ := at_some hr
    obtain ⟨sb, pv, c0, _, _, _, _, _, _, _, hfit⟩ := hall i rg hri
    have hs : s < 0 ∨ (d.size : Int) ≤ s := by
      rw [hr] at hn
      simp only at hn
      split at hn
      · assumption
      · rename_i hs
        rw [List.getElem?_eq_none_iff, hfit.secs_length] at hn
        omega
    have hc := hb2.cell _ _ c0
    clear hn hall hfit
    go_enter Try.func11, Try.ntmps11
    go_wp2_with (first
      | (go_at_call 16; refine (region_some hb i hi).mono ?_; rintro e w1 ⟨rfl, rfl⟩)
      | (go_at_call 17; refine (has_no hc s hs).mono ?_; rintro e w1 ⟨rfl, rfl⟩))
    go_ret2
    exact ⟨rfl, rfl⟩
theorem splice_whole (cs : List Value) (h : cs.length = 64) : splice (u8s zsec) 0 cs = cs := by
  unfold splice
  rw [List.take_zero, List.nil_append, List.drop_eq_nil_of_le (by rw [u8s_length, Nat.zero_add, h]; exact Nat.le_refl 64), List.append_nil]
theorem read_ok {w : World} {lab : Nat → Nat} {g : Nat} {d : Ds} (h : DkAt w lab g d) (r s : Int) {b : Sec} (hn : d.rd? r s = some b) :
    Calls Try.prog 11 #[ptr g, .int .i64 r, .int .i64 s] w fun e w' => e = .returned (.tuple #[.slice (some ⟨w.heap.size, 0, none⟩) 64 64, .int .i64 0]) ∧ b.length = 64 ∧ Blk w' w.heap.size 5 (blk8 b) ∧ Below w.heap.size w w' := by
  obtain ⟨_, _, _, g2, cs, _, hb, hb2, hcs, hall⟩ := id h
  unfold Ds.rd? at hn
  cases hr : d.at? r with
  | none => rw [hr] at hn; cases hn
  | some rg =>
    obtain ⟨i, rfl, hi, hri⟩ := at_some hr
    obtain ⟨sb, pv, c0, _, _, _, _, hsb, _, _, hfit⟩ := hall i rg hri
    rw [hr] at hn
    simp only at hn
    split at hn
    · cases hn
    rename_i hs
    obtain ⟨k, rfl⟩ : ∃ k : Nat, s = (k : Int) := ⟨s.toNat, by omega⟩
    have hk : k < d.size := by omega
    have hkl : k < rg.secs.length := by rw [hfit.secs_length]; exact hk
    have hbk : rg.secs[k] = b := by
      rw [Int.toNat_natCast, List.getElem?_eq_getElem hkl] at hn
      exact Option.some.inj hn
    have h64 : b.length = 64 := by rw [← hbk]; exact hfit.secs_full _ (List.getElem_mem hkl)
    have hc := hb2.cell _ _ c0
    have hsl := hsb.lt
    have hgl := hb2.lt
    have hcA := (hb2.alloc (.cells (blk8 zsec) 5)).cell _ _ c0
    have hsrc : ∀ j v, (u8s b)[j]? = some v → (w.alloc (.cells (blk8 zsec) 5)).cell? (Addr.add ⟨sb, k * 64, none⟩ j) = some v := by
      intro j v hj
      rw [addr_add]
      have hj64 : j < 64 := by
        have := (List.getElem?_eq_some_iff.1 hj).1
        rw [u8s_length, h64] at this; exact this
      refine (hsb.alloc _).cell (k * 64 + j) v ?_
      rw [← hj]
      unfold blk8
      rw [List.getElem?_toArray]
      simp only [u8s, List.getElem?_map]
      rw [flat_get rg.secs hfit.secs_full k j hkl hj64, hbk]
    have HS := hide hsrc
    have H64 := hide h64
    have hmk := fun w => run_make8 (P := Try.prog) 33 5 Try.underlying33 info8 64 (by omega) w
    have hmk2 : ∀ w, (Instr.makeSlice 33 (.int .i64 64) (.int .i64 64)).run Try.prog w = .ok (.slice (some ⟨w.heap.size, 0, none⟩) 64 64) (w.alloc (.cells (blk8 zsec) 5)) := hmk
    have hk0 : (0 : Int) ≤ (k : Int) := by omega
    have hk1 : (k : Int) < (d.size : Int) := by omega
    clear hn hall hfit hs hmk hsrc h64 hbk hkl
    unfold ptr
    go_enter Try.func11, Try.ntmps11
    go_wp2_with (first
      | (go_at_call 16; refine (region_some hb i hi).mono ?_; rintro e w1 ⟨rfl, rfl⟩)
      | (go_at_call 17; refine (has_yes hc k hk).mono ?_; rintro e w1 ⟨rfl, rfl⟩)
      | ((with_reducible refine wpList_copy_splice rfl (.tmp 18) (.tmp 25) 33 33 rfl 5 Try.underlying33 (by kernel_rfl) (some ⟨w.heap.size, 0, none⟩) (some ⟨sb, k * 64, none⟩) 64 64 64 64 rfl rfl w.heap.size 0 (u8s zsec) 5 ?_ (u8s b) ?_ ?_ ?_ (oneCell_u8s b) w.heap.size w ?_ (Nat.le_refl _) ?_); exact Blk.new_ w (u8s zsec).toArray _ rfl; (rw [u8s_length, H64.out]; rfl); exact (fun _ => ⟨rfl, _, rfl, HS.out⟩); (rw [u8s_length, u8s_length, H64.out]; exact Nat.le_refl 64); exact (Below.refl _ w).alloc (Nat.le_refl _) _; intro w2 HG2 hB2; have HB2 := hide hB2; have HG3 := hide (show Blk w2 w.heap.size 5 (blk8 b) by have := HG2.out; rw [splice_whole _ (by rw [u8s_length, H64.out])] at this; exact this); clear HG2 hB2))
    go_ret2
    exact ⟨rfl, H64.out, HG3.out, HB2.out⟩
end Go.Proofs.Ythlclhfepnmaeaa
