/-
  Contracts: a reader's Num and Text.
-/
import Derived.Test.YtofnldmbokdkbaaTake
namespace Go.Proofs.Ytofnldmbokdkbaa
open Go.RowKit

theorem val_take_lt (l : List UInt8) (j : Nat) (hl : l.length ≤ 8) (hj : j < l.length) : val (l.take j) < 72057594037927936 := by
  have h1 := val_lt (l.take j)
  have h2 : 256 ^ (l.take j).length ≤ 256 ^ 7 := Nat.pow_le_pow_right (by omega) (by rw [List.length_take]; omega)
  omega
theorem val_take (l : List UInt8) (j : Nat) (hj : j < l.length) : val (l.take (j + 1)) = val (l.take j) * 256 + l[j].toNat := by
  rw [List.take_succ_eq_append_getElem hj, val_snoc]

theorem or_byte (a : Nat) (b : UInt8) (ha : a < 72057594037927936) : bits .or .u64 ((a : Int) * 256) (IntKind.u64.wrap (b.toNat : Int)) = ((a * 256 + b.toNat : Nat) : Int) := by
  have hb := b.toNat_lt
  have h1 : IntKind.u64.wrap (b.toNat : Int) = (b.toNat : Int) := by rw [IntKind.wrap_u64]; omega
  have h2 : bits .or .u64 ((a : Int) * 256) (b.toNat : Int) = IntKind.u64.wrap (((BitVec.ofInt 64 ((a : Int) * 256) ||| BitVec.ofInt 64 (b.toNat : Int)).toNat : Int)) := rfl
  have h3 : (BitVec.ofInt 64 ((a : Int) * 256)).toNat = a * 256 := by rw [BitVec.toNat_ofInt]; omega
  have h4 : (BitVec.ofInt 64 (b.toNat : Int)).toNat = b.toNat := by rw [BitVec.toNat_ofInt]; omega
  have h5 : a * 256 ||| b.toNat = a * 256 + b.toNat := by
    have := Nat.shiftLeft_add_eq_or_of_lt (i := 8) (b := b.toNat) (by omega) a
    rw [Nat.shiftLeft_eq] at this
    exact this.symm
  rw [h1, h2, BitVec.toNat_or, h3, h4, h5, IntKind.wrap_u64]
  omega

set_option maxHeartbeats 1000000 in
theorem num_walk {w : World} {lo g : Nat} {s : St} (n : Int) (h : Rdr w lo g s) (hm : s.rest.length ≤ 70368744177664) (h1 : 1 ≤ n) (h8 : n ≤ 8) :
    Calls Try.prog 34 #[ptr g, .int .i64 n] w fun e w' => e = .returned (.int .u64 (val (s.got n) : Int)) ∧ Rdr w' lo g (s.take n) ∧ w.grownBy w' (some g) := by
  go_enter Try.func34, Try.ntmps34
  have hgl := s.got_le n h8
  go_wp2_with (go_at_call 33; refine (take_told n h hm).mono ?_; rintro e w1 ⟨A, c, rfl, hrd, hr, hg, _⟩)
  have HR := hide hr
  have HG := hide hg
  generalize hl : s.got n = l at *
  have HL := hide hl
  clear hl
  clear hr hg h
  obtain ⟨A', c', he, hc, hA⟩ := hrd
  injection he with e1 e2 e3
  subst e1 e3
  rw [u8s_length] at hA
  go_loop [5, 20] (fun x i => ∃ j : Nat, j ≤ l.length ∧ i = .int .i64 j ∧ x = .int .u64 (val (l.take j) : Int)) (fun _ i => l.length - (intOf i).toNat)
  case atStart => exact ⟨0, by omega, rfl, rfl⟩
  case round =>
    obtain ⟨j, hj, rfl, rfl⟩ := hrel
    by_cases hlt : j < l.length
    · obtain ⟨b, o, rfl, hb, hcell⟩ := hA (by omega)
      have hcj := hcell j _ (u8s_get l j hlt)
      have hv := val_take_lt l j hgl hlt
      have HV := hide (val_take l j hlt)
      clear hcell
      generalize val (l.take j) = a at *
      have HX := or_byte a l[j] hv
      go_wp2
      go_round
      case rel => exact ⟨j + 1, by omega, by go_num, by rw [HV.out, show ((a * 256 + l[j].toNat : Nat) : Int) = (a : Int) * 256 + (l[j].toNat : Int) by omega]⟩
      case measure => simp [intOf]; omega
    · obtain rfl : j = l.length := by omega
      rw [List.take_length]
      go_wp2
      go_ret
      exact ⟨by rw [HL.out]; rfl, HR.out, HG.out⟩
theorem num_any {w : World} {lo g : Nat} {s : St} (n : Int) (h : Rdr w lo g s) (hm : s.rest.length ≤ 70368744177664) :
    Calls Try.prog 34 #[ptr g, .int .i64 n] w fun e w' => e = .returned (.int .u64 (s.num n : Int)) ∧ Rdr w' lo g (s.numSt n) ∧ w.grownBy w' (some g) := by
  unfold St.num St.numSt
  by_cases hn : 1 ≤ n ∧ n ≤ 8
  · rw [if_pos hn, if_pos hn]
    exact num_walk n h hm hn.1 hn.2
  · rw [if_neg hn, if_neg hn]
    by_cases h1 : n < 1
    · go_enter Try.func34, Try.ntmps34
      go_wp2_with (go_at_call 39; refine (fail_any h).mono ?_; rintro e w1 ⟨rfl, hr, hg⟩)
      go_ret
      exact ⟨rfl, hr, hg⟩
    · have h8 : 8 < n := by omega
      go_enter Try.func34, Try.ntmps34
      go_wp2_with (go_at_call 39; refine (fail_any h).mono ?_; rintro e w1 ⟨rfl, hr, hg⟩)
      go_ret
      exact ⟨rfl, hr, hg⟩
theorem num_nil (w : World) : Calls Try.prog 34 #[.pointer none, .int .i64 1] w fun e w' => e = .returned (.int .u64 0) ∧ w = w' := by
  go_enter Try.func34, Try.ntmps34
  go_wp2_with (go_at_call 33; refine (take_nil _ _).mono ?_; rintro e w1 ⟨rfl, rfl⟩)
  go_loop [5, 20] (fun x i => i = .int .i64 0 ∧ x = .int .u64 0) (fun _ i => 0)
  case atStart => exact ⟨rfl, rfl⟩
  case round =>
    obtain ⟨rfl, rfl⟩ := hrel
    go_wp2
    go_ret
    exact ⟨rfl, rfl⟩
theorem text_any_r {w : World} {lo g : Nat} {s : St} (h : Rdr w lo g s) (hm : s.rest.length ≤ 70368744177664) :
    Calls Try.prog 35 #[ptr g] w fun e w' => e = .returned (.string ⟨s.text.toArray⟩) ∧ Rdr w' lo g s.textSt ∧ w.grownBy w' (some g) := by
  unfold St.text St.textSt
  have h1 := s.num1_lt
  have hm1 : (s.numSt 1).rest.length ≤ 70368744177664 := Nat.le_trans (s.numSt_length 1) hm
  go_enter Try.func35, Try.ntmps35
  go_wp2_with (first
    | (go_at_call 34; refine (num_any 1 h hm).mono ?_; rintro e w1 ⟨rfl, hr1, hg1⟩)
    | (go_at_call 33; refine (take_told (s.num 1 : Int) hr1 hm1).mono ?_; rintro e w2 ⟨A, c, rfl, hrd, hr2, hg2, hcv⟩))
  go_ret
  exact ⟨rfl, hr2, hg1.trans hg2⟩
theorem text_nil (w : World) : Calls Try.prog 35 #[.pointer none] w fun e w' => e = .returned (.string ⟨#[]⟩) ∧ w = w' := by
  have hcv := run_convert_bytes_nil (P := Try.prog) w 25 5 Try.underlying25 Try.underlying5 0 0 9 Try.underlying9
  go_enter Try.func35, Try.ntmps35
  go_wp2_with (first
    | (go_at_call 34; refine (num_nil _).mono ?_; rintro e w1 ⟨rfl, rfl⟩)
    | (go_at_call 33; refine (take_nil _ _).mono ?_; rintro e w1 ⟨rfl, rfl⟩))
  go_ret
  exact ⟨rfl, rfl⟩
end Go.Proofs.Ytofnldmbokdkbaa
