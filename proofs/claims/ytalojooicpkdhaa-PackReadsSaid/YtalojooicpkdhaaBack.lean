/-
  The walk of PackBack.
-/
import Derived.Test.YtalojooicpkdhaaParts
namespace Go.Proofs.Ytalojooicpkdhaa
open Go.RowKit

/-- A text as it is laid. -/
def laid (t : List UInt8) : List UInt8 := UInt8.ofNat t.length :: t
theorem text_of (t r : List UInt8) (h : t.length ≤ 255) : (⟨laid t ++ r, false⟩ : St).text = t ∧ (⟨laid t ++ r, false⟩ : St).textSt = ⟨r, false⟩ := by
  have hb : (UInt8.ofNat t.length).toNat = t.length := by rw [UInt8.toNat_ofNat']; omega
  have hc : (⟨laid t ++ r, false⟩ : St).can 1 = true := by simp [St.can, laid]; omega
  have e1 : (⟨laid t ++ r, false⟩ : St).num 1 = t.length := by
    unfold St.num St.got
    rw [if_pos (by omega), if_pos hc]
    show val [UInt8.ofNat t.length] = _
    simp [val, hb]
  have e2 : (⟨laid t ++ r, false⟩ : St).numSt 1 = ⟨t ++ r, false⟩ := by
    unfold St.numSt St.take
    rw [if_pos (by omega), if_pos hc]
    rfl
  have hc2 : (⟨t ++ r, false⟩ : St).can (t.length : Int) = true := by simp [St.can]; omega
  unfold St.text St.textSt
  rw [e1, e2]
  unfold St.got St.take
  rw [if_pos hc2, if_pos hc2]
  simp
theorem text_laid {w : World} {lo g : Nat} {t r : List UInt8} (h : Rdr w lo g ⟨laid t ++ r, false⟩) (ht : t.length ≤ 255) (hm : (laid t ++ r).length ≤ 70368744177664) :
    Calls Try.prog 13 #[ptr g] w fun e w' => e = .returned (.string ⟨t.toArray⟩) ∧ Rdr w' lo g ⟨r, false⟩ ∧ w.grownBy w' (some g) := by
  have := text_any_r h hm
  rwa [(text_of t r ht).1, (text_of t r ht).2] at this
theorem text_str {w : World} {lo g : Nat} {s : ByteArray} {r : List UInt8} (h : Rdr w lo g ⟨laid s.data.toList ++ r, false⟩) (ht : s.data.toList.length ≤ 255) (hm : (laid s.data.toList ++ r).length ≤ 70368744177664) :
    Calls Try.prog 13 #[ptr g] w fun e w' => e = .returned (.string s) ∧ Rdr w' lo g ⟨r, false⟩ ∧ w.grownBy w' (some g) := by
  have := text_laid h ht hm
  rwa [show (⟨s.data.toList.toArray⟩ : ByteArray) = s by cases s; simp] at this
theorem take_front {w : World} {lo g : Nat} {l r : List UInt8} (h : Rdr w lo g ⟨l ++ r, false⟩) (hm : (l ++ r).length ≤ 70368744177664) :
    Calls Try.prog 11 #[ptr g, .int .i64 (l.length : Int)] w fun e w' => ∃ A c, e = .returned (.slice A l.length c) ∧ Rdr w' lo g ⟨r, false⟩ ∧ w.grownBy w' (some g) ∧
      (convert 22 9 (.slice A l.length c)).run Try.prog w' = .ok (.string ⟨l.toArray⟩) w' := by
  have hc : (⟨l ++ r, false⟩ : St).can (l.length : Int) = true := by simp [St.can]; omega
  have e1 : (⟨l ++ r, false⟩ : St).got (l.length : Int) = l := by unfold St.got; rw [if_pos hc]; simp
  have e2 : (⟨l ++ r, false⟩ : St).take (l.length : Int) = ⟨r, false⟩ := by unfold St.take; rw [if_pos hc]; simp
  have := take_told (l.length : Int) h hm
  rw [e1, e2] at this
  refine this.mono ?_
  rintro e w' ⟨A, c, rfl, _, h2, h3, h4⟩
  exact ⟨A, c, rfl, h2, h3, h4⟩
theorem num_front {w : World} {lo g : Nat} {n X : Nat} {r : List UInt8} (h : Rdr w lo g ⟨be n X ++ r, false⟩) (hm : (be n X ++ r).length ≤ 70368744177664) (h1 : 1 ≤ n) (h8 : n ≤ 8) :
    Calls Try.prog 12 #[ptr g, .int .i64 (n : Int)] w fun e w' => e = .returned (.int .u64 ((X % 256 ^ n : Nat) : Int)) ∧ Rdr w' lo g ⟨r, false⟩ ∧ w.grownBy w' (some g) := by
  have := num_take (k := n) h hm h1 h8 (by simp [be_length])
  rwa [List.take_left' (be_length n X), List.drop_left' (be_length n X), val_be] at this

/-- Text behind bytes, as a walk takes it. -/
theorem text_told (v : Value) (l : List UInt8) (s : ByteArray) (L : Nat) (w : World) (hL : l.length = L) (hm : L ≤ 70368744176000) (hs : s.size ≤ 255) (hv : Rd w v (u8s l)) :
    Calls Try.prog 16 #[v, .string s] w fun e w' => ∃ A c, e = .returned (.slice A (L + 1 + s.size) c) ∧ Rd w' (.slice A (L + 1 + s.size) c) (u8s (l ++ laid s.data.toList)) ∧ Below w.heap.size w w' := by
  refine (text_any v l s w (by omega) hs hv).mono ?_
  rintro e w' ⟨v', rfl, hmine, hb⟩
  obtain ⟨A, c, rfl⟩ := hmine.form
  have hl : (l ++ UInt8.ofNat s.size :: s.data.toList).length = L + 1 + s.size := by
    have h1 : s.data.toList.length = s.size := Array.length_toList
    rw [List.length_append, List.length_cons]
    omega
  have hr := hmine.rd
  rw [hl] at hr
  exact ⟨A, c, by rw [hl], hr, hb⟩
theorem mask_eq (X n : Nat) (hx : X < 18446744073709551616) (hn : n < 8) : bits .and .u64 (X : Int) (IntKind.u64.wrap (IntKind.u64.wrap (2 ^ (8 * n)) - 1)) = ((X % 256 ^ n : Nat) : Int) := by
  rw [show (256 : Nat) ^ n = 2 ^ (8 * n) by rw [Nat.pow_mul]]
  have h0 : 2 ^ (8 * n) ≤ 2 ^ 56 := Nat.pow_le_pow_right (by omega) (by omega)
  have hp : 0 < 2 ^ (8 * n) := Nat.pow_pos (by omega)
  have e1 : ((2 : Int) ^ (8 * n) - 1) = ((2 ^ (8 * n) - 1 : Nat) : Int) := by
    have : ((2 ^ (8 * n) : Nat) : Int) = (2 : Int) ^ (8 * n) := by simp
    omega
  have h5 : X &&& (2 ^ (8 * n) - 1) = X % 2 ^ (8 * n) := Nat.and_two_pow_sub_one_eq_mod X (8 * n)
  have h6 : X % 2 ^ (8 * n) ≤ X := Nat.mod_le _ _
  have e2 : IntKind.u64.wrap ((2 : Int) ^ (8 * n)) = (2 : Int) ^ (8 * n) := by
    have : ((2 ^ (8 * n) : Nat) : Int) = (2 : Int) ^ (8 * n) := by simp
    rw [IntKind.wrap_u64, ← this]
    generalize 2 ^ (8 * n) = q at *
    omega
  have e3 : IntKind.u64.wrap ((2 ^ (8 * n) - 1 : Nat) : Int) = ((2 ^ (8 * n) - 1 : Nat) : Int) := by
    rw [IntKind.wrap_u64]
    generalize 2 ^ (8 * n) = q at *
    omega
  rw [e2, e1, e3]
  have h7 : bits .and .u64 (X : Int) ((2 ^ (8 * n) - 1 : Nat) : Int) = IntKind.u64.wrap (((BitVec.ofInt 64 (X : Int) &&& BitVec.ofInt 64 ((2 ^ (8 * n) - 1 : Nat) : Int)).toNat : Int)) := rfl
  have h8 : (BitVec.ofInt 64 (X : Int)).toNat = X := by rw [BitVec.toNat_ofInt]; omega
  have h9 : (BitVec.ofInt 64 ((2 ^ (8 * n) - 1 : Nat) : Int)).toNat = 2 ^ (8 * n) - 1 := by
    rw [BitVec.toNat_ofInt]
    generalize 2 ^ (8 * n) = q at *
    omega
  rw [h7, BitVec.toNat_and, h8, h9, h5, IntKind.wrap_u64]
  omega

theorem back_end {w wr w2 w3 w4 w5 w6 w7 : World} {A : Option Addr} {c g : Nat} {l : List UInt8} (hv : Rd wr (.slice A l.length c) (u8s l)) (hb : Below w.heap.size w wr)
    (h2 : Below wr.heap.size wr w2) (h3 : Below w2.heap.size w2 w3) (h4 : Below w3.heap.size w3 w4) (hlo : w3.heap.size ≤ g) (h5 : w4.grownBy w5 (some g)) (h6 : w5.grownBy w6 (some g)) (h7 : w6.grownBy w7 (some g)) :
    (convert 22 9 (.slice A l.length c)).run Try.prog w7 = .ok (.string ⟨l.toArray⟩) w7 ∧ Below w.heap.size w w7 := by
  have s0 := hb.size
  have s2 := h2.size
  have s3 := h3.size
  have s4 := h4.size
  have hb7 : Below wr.heap.size wr w7 := ((h2.trans (h3.mono s2)).trans (h4.mono (by omega))).grown ((h5.trans h6).trans h7) (by omega) (fun k hk => by injection hk with hk; omega)
  exact ⟨conv_rd (hv.below hb7), hb.trans (hb7.mono s0)⟩

set_option maxRecDepth 20000 in
set_option maxHeartbeats 1000000 in
theorem back_walk (v : Value) (l : List UInt8) (x : Int) (s : ByteArray) (w : World) (hm : l.length ≤ maxLen) (hv : Rd w v (u8s l)) (hx : (Lit.int .u64 x).wf = true) :
    Calls Try.prog 4 #[v, .int .u64 x, .string s] w fun e w' => e = .returned (.bool true) ∧ Below w.heap.size w w' := by
  simp only [Lit.wf, Bool.and_eq_true, decide_eq_true_eq] at hx
  obtain ⟨X, rfl⟩ : ∃ X : Nat, x = (X : Int) := ⟨x.toNat, by have : IntKind.u64.min = 0 := rfl; omega⟩
  obtain ⟨A, c, rfl, hc, hA⟩ := id hv
  rw [u8s_length] at hA hc hv ⊢
  have hm' := hm
  unfold maxLen at hm
  by_cases hlong : 200 < l.length
  · go_enter Try.func4, Try.ntmps4
    go_wp2_with (go_at_call 8; refine (fit_any _).mono ?_; rintro e w1 ⟨rfl, hb1⟩)
    go_ret
    exact ⟨rfl, hb1⟩
  by_cases hmany : 255 < s.size
  · go_enter Try.func4, Try.ntmps4
    go_wp2_with (go_at_call 8; refine (fit_any _).mono ?_; rintro e w1 ⟨rfl, hb1⟩)
    go_ret
    exact ⟨rfl, hb1⟩
  go_enter Try.func4, Try.ntmps4
  go_wp2_with (go_at_call 8; refine (fit_any _).mono ?_; rintro e w1 ⟨rfl, hb1⟩; have hr1 := hide (hv.below hb1); have hcv := conv_rd (hv.below hb1))
  clear hcv
  go_loopw [8] (fun i wr => ∃ n : Nat, 1 ≤ n ∧ n ≤ 9 ∧ i = .int .i64 n ∧ Below w.heap.size w wr) (fun i _ => 9 - (intOf i).toNat)
  case atStart => exact ⟨1, by omega, by omega, rfl, hb1⟩
  case round =>
    obtain ⟨n, hn1, hn9, rfl, hb⟩ := hrel
    by_cases hlt : n = 9
    · subst hlt
      go_wp2_with (first
        | (go_at_call 14; refine (bad_nil _).mono ?_; rintro e v1 ⟨rfl, rfl⟩)
        | (go_at_call 15; refine (rest_nil _).mono ?_; rintro e v1 ⟨rfl, rfl⟩)
        | (go_at_call 11; refine (take_nil _ _).mono ?_; rintro e v1 ⟨rfl, rfl⟩)
        | (go_at_call 12; refine (num_nil _).mono ?_; rintro e v1 ⟨rfl, rfl⟩)
        | (go_at_call 13; refine (text_nil _).mono ?_; rintro e v1 ⟨rfl, rfl⟩))
      go_ret
      exact ⟨rfl, hb⟩
    · have hn8 : n ≤ 8 := by omega
      have hrd := hide (hv.below hb)
      clear hr1
      have hel : (l ++ be n X).length = l.length + n := by rw [List.length_append, be_length]
      have HL := hide hel
      have HA := hide (show (l ++ be n X) ++ laid s.data.toList = l ++ (be n X ++ (laid s.data.toList ++ [])) by simp)
      have htl : s.data.toList.length ≤ 255 := by rw [Array.length_toList]; show s.size ≤ 255; omega
      have hlm : (l ++ (be n X ++ (laid s.data.toList ++ []))).length ≤ 70368744177664 := by simp only [List.length_append, be_length, laid, List.length_cons, List.length_nil]; omega
      have hlm1 : (be n X ++ (laid s.data.toList ++ [])).length ≤ 70368744177664 := by simp only [List.length_append, be_length, laid, List.length_cons, List.length_nil]; omega
      have hlm2 : (laid s.data.toList ++ []).length ≤ 70368744177664 := by simp only [List.length_append, laid, List.length_cons, List.length_nil]; omega
      have HT := hide htl
      have HM := hide hlm
      have HM1 := hide hlm1
      have HM2 := hide hlm2
      have hl2 : (l ++ be n X).length ≤ 70368744176000 := by omega
      clear hel htl hlm hlm1 hlm2 hl2
      obtain ⟨V, HV, hcase⟩ : ∃ V, Hid (X % 256 ^ n = V) ∧ ((8 ≤ n ∧ X = V) ∨ (n < 8 ∧ bits .and .u64 (X : Int) (IntKind.u64.wrap (IntKind.u64.wrap (2 ^ (8 * n)) - 1)) = (V : Int))) := by
        have hX : X < 18446744073709551616 := by have : IntKind.u64.max = 18446744073709551615 := rfl; omega
        refine ⟨_, hide rfl, ?_⟩
        rcases Nat.lt_or_ge n 8 with h | h
        · exact .inr ⟨h, mask_eq X n hX h⟩
        · refine .inl ⟨h, (Nat.mod_eq_of_lt ?_).symm⟩
          have h256 : 256 ^ 8 ≤ 256 ^ n := Nat.pow_le_pow_right (by omega) h
          omega
      clear hx
      rcases hcase with ⟨h8, hXV⟩ | ⟨h8, HX⟩
      · subst hXV
        have H8 : ¬ n < 8 := by omega
        go_wp2_with (first
          | (go_at_call 17; with_reducible refine (put_any _ l n X _ (by omega) hn1 hn8 hrd.out).mono ?_; rintro e w2 ⟨v2, rfl, hmine2, hb2⟩; have hrd2 := hide hmine2.rd; clear hmine2)
          | (go_at_call 16; with_reducible refine (text_told v2 (l ++ be n X) s (l.length + n) _ HL.out (by omega) (by omega) hrd2.out).mono ?_; rintro e w3 ⟨A3, c3, rfl, hrd3, hb3⟩; rw [HA.out] at hrd3; have hrd3' := hide hrd3; clear hrd3)
          | (go_at_call 9; with_reducible refine (new_any _ (l ++ (be n X ++ (laid s.data.toList ++ []))) _ HM.out hrd3'.out).mono ?_; rintro e w4 ⟨g, rfl, hr4, hb4⟩)
          | (go_at_call 11; with_reducible refine (take_front hr4 HM.out).mono ?_; rintro e w5 ⟨A5, c5, rfl, hr5, hg5, hcv5⟩)
          | (go_at_call 12; with_reducible refine (num_front hr5 HM1.out hn1 hn8).mono ?_; rw [HV.out]; rintro e w6 ⟨rfl, hr6, hg6⟩)
          | (go_at_call 13; with_reducible refine (text_str hr6 HT.out HM2.out).mono ?_; rintro e w7 ⟨rfl, hr7, hg7⟩)
          | (go_at_call 14; with_reducible refine (bad_at hr7).mono ?_; rintro e w8 ⟨rfl, rfl⟩)
          | (go_at_call 15; with_reducible refine (rest_at hr7).mono ?_; rintro e w9 ⟨rfl, rfl⟩; obtain ⟨hcv9, hb9⟩ := back_end hrd.out hb hb2 hb3 hb4 hr4.lo_le hg5 hg6 hg7))
        go_round
        case rel => exact ⟨n + 1, by omega, by omega, by go_num, hb9⟩
        case measure => simp [intOf]; omega
      · go_wp2_with (first
          | (go_at_call 17; with_reducible refine (put_any _ l n X _ (by omega) hn1 hn8 hrd.out).mono ?_; rintro e w2 ⟨v2, rfl, hmine2, hb2⟩; have hrd2 := hide hmine2.rd; clear hmine2)
          | (go_at_call 16; with_reducible refine (text_told v2 (l ++ be n X) s (l.length + n) _ HL.out (by omega) (by omega) hrd2.out).mono ?_; rintro e w3 ⟨A3, c3, rfl, hrd3, hb3⟩; rw [HA.out] at hrd3; have hrd3' := hide hrd3; clear hrd3)
          | (go_at_call 9; with_reducible refine (new_any _ (l ++ (be n X ++ (laid s.data.toList ++ []))) _ HM.out hrd3'.out).mono ?_; rintro e w4 ⟨g, rfl, hr4, hb4⟩)
          | (go_at_call 11; with_reducible refine (take_front hr4 HM.out).mono ?_; rintro e w5 ⟨A5, c5, rfl, hr5, hg5, hcv5⟩)
          | (go_at_call 12; with_reducible refine (num_front hr5 HM1.out hn1 hn8).mono ?_; rw [HV.out]; rintro e w6 ⟨rfl, hr6, hg6⟩)
          | (go_at_call 13; with_reducible refine (text_str hr6 HT.out HM2.out).mono ?_; rintro e w7 ⟨rfl, hr7, hg7⟩)
          | (go_at_call 14; with_reducible refine (bad_at hr7).mono ?_; rintro e w8 ⟨rfl, rfl⟩)
          | (go_at_call 15; with_reducible refine (rest_at hr7).mono ?_; rintro e w9 ⟨rfl, rfl⟩; obtain ⟨hcv9, hb9⟩ := back_end hrd.out hb hb2 hb3 hb4 hr4.lo_le hg5 hg6 hg7))
        go_round
        case rel => exact ⟨n + 1, by omega, by omega, by go_num, hb9⟩
        case measure => simp [intOf]; omega
end Go.Proofs.Ytalojooicpkdhaa
