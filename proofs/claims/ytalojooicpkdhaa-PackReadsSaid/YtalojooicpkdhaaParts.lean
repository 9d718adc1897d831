/-
  The walk of PackParts.
-/
import Derived.Test.YtalojooicpkdhaaEnds
namespace Go.Proofs.Ytalojooicpkdhaa
open Go.RowKit

theorem and3 (bit : Int) : ∃ m : Nat, 1 ≤ m ∧ m ≤ 4 ∧ bits .and .i64 bit 3 + 1 = (m : Int) := by
  have h1 : bits .and .i64 bit 3 = IntKind.i64.wrap (((BitVec.ofInt 64 bit &&& BitVec.ofInt 64 3).toNat : Int)) := rfl
  have h2 : (BitVec.ofInt 64 bit &&& BitVec.ofInt 64 3).toNat < 4 := by
    rw [BitVec.toNat_and]
    have : (BitVec.ofInt 64 3).toNat = 3 := by decide
    rw [this]
    exact Nat.lt_of_le_of_lt Nat.and_le_right (by omega)
  refine ⟨(BitVec.ofInt 64 bit &&& BitVec.ofInt 64 3).toNat + 1, by omega, by omega, ?_⟩
  rw [h1, IntKind.wrap_i64]
  omega
theorem put_sum (v : Value) (l : List UInt8) (n m x : Nat) (w : World) (hm : l.length ≤ 70368744177000) (hn1 : 1 ≤ n + m) (hn8 : n + m ≤ 8) (hv : Rd w v (u8s l)) :
    Calls Try.prog 17 #[v, .int .i64 ((n : Int) + (m : Int)), .int .u64 (x : Int)] w fun e w' => ∃ v', e = .returned v' ∧ Mine w' w.heap.size v' (l ++ be (n + m) x) ∧ Below w.heap.size w w' := by
  rw [← Int.natCast_add]
  exact put_any v l (n + m) x w hm hn1 hn8 hv
theorem num_take {w : World} {lo g : Nat} {l : List UInt8} {k : Nat} (h : Rdr w lo g ⟨l, false⟩) (hm : l.length ≤ 70368744177664) (h1 : 1 ≤ k) (h8 : k ≤ 8) (hk : k ≤ l.length) :
    Calls Try.prog 12 #[ptr g, .int .i64 (k : Int)] w fun e w' => e = .returned (.int .u64 (val (l.take k) : Int)) ∧ Rdr w' lo g ⟨l.drop k, false⟩ ∧ w.grownBy w' (some g) := by
  have := num_any (k : Int) h hm
  have hc : (⟨l, false⟩ : St).can (k : Int) = true := by simp [St.can]; omega
  have e1 : (⟨l, false⟩ : St).num (k : Int) = val (l.take k) := by
    unfold St.num St.got; rw [if_pos (by omega), if_pos hc]; rfl
  have e2 : (⟨l, false⟩ : St).numSt (k : Int) = ⟨l.drop k, false⟩ := by
    unfold St.numSt St.take; rw [if_pos (by omega), if_pos hc]; rfl
  rwa [e1, e2] at this

theorem num_sum {w : World} {lo g : Nat} {l : List UInt8} {k j : Nat} (h : Rdr w lo g ⟨l, false⟩) (hm : l.length ≤ 70368744177664) (h1 : 1 ≤ k + j) (h8 : k + j ≤ 8) (hk : k + j ≤ l.length) :
    Calls Try.prog 12 #[ptr g, .int .i64 ((k : Int) + (j : Int))] w fun e w' => e = .returned (.int .u64 (val (l.take (k + j)) : Int)) ∧ Rdr w' lo g ⟨l.drop (k + j), false⟩ ∧ w.grownBy w' (some g) := by
  rw [← Int.natCast_add]
  exact num_take h hm h1 h8 hk

theorem or_parts (l : List UInt8) (n m : Nat) (hl : l.length = n + m) (h8 : n + m ≤ 8) :
    bits .or .u64 (IntKind.u64.wrap ((val (l.take n) : Int) * 2 ^ (8 * m))) (val (l.drop n) : Int) = (val l : Int) := by
  have h1 : val l = val (l.take n) * 2 ^ (8 * m) + val (l.drop n) := by
    have := val_append (l.take n) (l.drop n)
    rw [List.take_append_drop, List.length_drop, hl, show n + m - n = m by omega, show (256 : Nat) ^ m = 2 ^ (8 * m) by rw [Nat.pow_mul]] at this
    exact this
  have h2 : val l < 18446744073709551616 := by
    have h1 := val_lt l
    have h2 : 256 ^ l.length ≤ 256 ^ 8 := Nat.pow_le_pow_right (by omega) (by omega)
    omega
  have h3 : val (l.drop n) < 2 ^ (8 * m) := by
    have := val_lt (l.drop n)
    rwa [List.length_drop, hl, show n + m - n = m by omega, show (256 : Nat) ^ m = 2 ^ (8 * m) by rw [Nat.pow_mul]] at this
  have e1 : ((val (l.take n) : Int) * 2 ^ (8 * m)) = ((val (l.take n) * 2 ^ (8 * m) : Nat) : Int) := by simp
  have h5 : val (l.take n) * 2 ^ (8 * m) ||| val (l.drop n) = val l := by
    have := Nat.shiftLeft_add_eq_or_of_lt h3 (val (l.take n))
    rw [Nat.shiftLeft_eq] at this
    rw [← this, h1]
  rw [e1]
  generalize val (l.take n) * 2 ^ (8 * m) = a at *
  generalize val (l.drop n) = b at *
  have h6 : IntKind.u64.wrap (a : Int) = (a : Int) := by rw [IntKind.wrap_u64]; omega
  have h7 : bits .or .u64 (a : Int) (b : Int) = IntKind.u64.wrap (((BitVec.ofInt 64 (a : Int) ||| BitVec.ofInt 64 (b : Int)).toNat : Int)) := rfl
  have h8 : (BitVec.ofInt 64 (a : Int)).toNat = a := by rw [BitVec.toNat_ofInt]; omega
  have h9 : (BitVec.ofInt 64 (b : Int)).toNat = b := by rw [BitVec.toNat_ofInt]; omega
  rw [h6, h7, BitVec.toNat_or, h8, h9, h5, IntKind.wrap_u64]
  omega

set_option maxHeartbeats 1000000 in
theorem parts_walk (x n m : Int) (w : World) (hx : (Lit.int .u64 x).wf = true) (_ : (Lit.int .i64 n).wf = true) (_ : (Lit.int .i64 m).wf = true) :
    Calls Try.prog 6 #[.int .u64 x, .int .i64 n, .int .i64 m] w fun e w' => e = .returned (.bool true) ∧ Below w.heap.size w w' := by
  simp only [Lit.wf, Bool.and_eq_true, decide_eq_true_eq] at hx
  obtain ⟨n1, hn0, hn4, hpb⟩ := and3 n
  obtain ⟨m1, hm0, hm4, hqb⟩ := and3 m
  obtain ⟨X, rfl⟩ : ∃ X : Nat, x = (X : Int) := ⟨x.toNat, by have : IntKind.u64.min = 0 := rfl; omega⟩
  have hlen := be_length (n1 + m1) X
  generalize hE : be (n1 + m1) X = l at *
  have HE := hide hE
  clear hE
  have hlm : l.length ≤ 70368744177664 := by omega
  have hdm : (l.drop n1).length ≤ 70368744177664 := by rw [List.length_drop]; omega
  have hdm2 : m1 ≤ (l.drop n1).length := by rw [List.length_drop]; omega
  have hsum : n1 + m1 ≤ l.length := by omega
  have HT := hide (show (l.drop n1).take m1 = l.drop n1 from List.take_of_length_le (by rw [List.length_drop]; omega))
  have HD := hide (show (l.drop n1).drop m1 = [] from List.drop_of_length_le (by rw [List.length_drop]; omega))
  have HT2 := hide (show l.take (n1 + m1) = l from List.take_of_length_le (by omega))
  have HD2 := hide (show l.drop (n1 + m1) = [] from List.drop_of_length_le (by omega))
  have HX := or_parts l n1 m1 hlen (by omega)
  generalize hv1 : val (l.take n1) = V1 at *
  generalize hv2 : val (l.drop n1) = V2 at *
  generalize hv3 : val l = V3 at *
  have HV1 := hide hv1
  have HV2 := hide hv2
  have HV3 := hide hv3
  clear hv1 hv2 hv3
  go_enter Try.func6, Try.ntmps6
  go_wp2_with (first
    | (go_at_call 8; refine (fit_any _).mono ?_; rintro e w1 ⟨rfl, hb1⟩)
    | (go_at_call 17; refine (put_sum (.slice none 0 0) [] n1 m1 X _ (by simp) (by omega) (by omega) (Rd.nil_ _ _ _)).mono ?_; rw [List.nil_append, HE.out]; rintro e w2 ⟨v2, rfl, hmine, hb2⟩; obtain ⟨A, c, rfl⟩ := hmine.form; have hrd2 := hide (show Rd w2 (.slice A (n1 + m1) c) (u8s l) from hlen ▸ hmine.rd); clear hmine)
    | (go_at_call 9; with_reducible refine (new_any _ l _ hlm hrd2.out).mono ?_; rintro e w3 ⟨g, rfl, hr3, hb3⟩; have hrd3 := hide (hrd2.out.below hb3))
    | (go_at_call 9; with_reducible refine (new_any _ l _ hlm hrd3.out).mono ?_; rintro e w4 ⟨g', rfl, hs4, hb4⟩; have hr4 := hr3.below hb4; have hgg := hide (show g < w3.heap.size from hr3.lt); have hg' := hide hs4.lo_le)
    | (go_at_call 12; with_reducible refine (num_take (k := n1) hr4 hlm hn0 (by omega) (by omega)).mono ?_; rw [HV1.out]; rintro e w5 ⟨rfl, hr5, hg5⟩; have hs5 := hs4.keep hg5 (fun k hk => by injection hk with hk; have := hgg.out; omega))
    | (go_at_call 12; with_reducible refine (num_take (k := m1) hr5 hdm hm0 (by omega) hdm2).mono ?_; rw [HT.out, HD.out, HV2.out]; rintro e w6 ⟨rfl, hr6, hg6⟩; have hs6 := hs5.keep hg6 (fun k hk => by injection hk with hk; have := hgg.out; omega))
    | (go_at_call 12; with_reducible refine (num_sum hs6 hlm (by omega) (by omega) hsum).mono ?_; rw [HT2.out, HD2.out, HV3.out]; rintro e w7 ⟨rfl, hs7, hg7⟩; have hr7 := hr6.keep hg7 (fun k hk => by injection hk with hk; have := hgg.out; have := hg'.out; omega))
    | (go_at_call 15; with_reducible refine (rest_at hr7).mono ?_; rintro e w8 ⟨rfl, rfl⟩)
    | (go_at_call 15; with_reducible refine (rest_at hs7).mono ?_; rintro e w9 ⟨rfl, rfl⟩))
  go_ret
  have s1 := hb1.size
  have s2 := hb2.size
  have s3 := hb3.size
  have s4 := hb4.size
  have s5 := hg5.size
  have s6 := hg6.size
  have q1 := hr3.lo_le
  have q2 := hg'.out
  exact ⟨rfl, ((((hb1.trans (hb2.mono s1)).trans (hb3.mono (by omega))).trans (hb4.mono (by omega))).grown (hg5.trans hg6) (by omega) (fun k hk => by injection hk with hk; omega)).grown hg7 (by omega) (fun k hk => by injection hk with hk; omega)⟩
end Go.Proofs.Ytalojooicpkdhaa
