/-
  The walk of RowSizes.
-/
import Derived.Test.YtkjngpiblbkccaaOne
namespace Go.Proofs.Ytkjngpiblbkccaa
open Go.RowKit

theorem and63 (x : Int) : ∃ m : Nat, m < 64 ∧ bits .and .i64 x 63 = (m : Int) := by
  have h1 : bits .and .i64 x 63 = IntKind.i64.wrap (((BitVec.ofInt 64 x &&& BitVec.ofInt 64 63).toNat : Int)) := rfl
  have h2 : (BitVec.ofInt 64 x &&& BitVec.ofInt 64 63).toNat < 64 := by
    rw [BitVec.toNat_and]
    have : (BitVec.ofInt 64 63).toNat = 63 := by decide
    rw [this]
    exact Nat.lt_of_le_of_lt Nat.and_le_right (by omega)
  refine ⟨(BitVec.ofInt 64 x &&& BitVec.ofInt 64 63).toNat, h2, ?_⟩
  rw [h1, IntKind.wrap_i64]
  omega
theorem encL_spare (t : Nat) (k v : List UInt8) (hk : k.length ≤ 15) (i : Nat) (hi : i < (encL t k v).length) (h : (3 + k.length ≤ i ∧ i < 18) ∨ 19 + v.length ≤ i) : (encL t k v)[i] = 0 := by
  have e : encL t k v = ([1, UInt8.ofNat t, UInt8.ofNat k.length] ++ k) ++ (List.replicate (15 - k.length) 0 ++ ((UInt8.ofNat v.length :: v) ++ List.replicate (21 - v.length) 0)) := by simp [encL, fieldL]
  have h2 : (encL t k v)[i]? = some 0 := by
    rw [e, List.getElem?_append_right (by simp; omega)]
    rcases h with h | h
    · rw [List.getElem?_append_left (by simp; omega), List.getElem?_replicate, if_pos (by simp; omega)]
    · rw [List.getElem?_append_right (by simp; omega), List.getElem?_append_right (by simp; omega), List.getElem?_replicate, if_pos]
      have : (encL t k v).length = 2 + (k.length + 1 + (15 - k.length)) + (v.length + 1 + (21 - v.length)) := by simp [encL, fieldL]; omega
      simp only [List.length_append, List.length_replicate, List.length_cons, List.length_nil]
      omega
  rw [List.getElem?_eq_getElem hi] at h2
  exact Option.some.inj h2
theorem encB_spare {t : Int} {k v : ByteArray} (h : rightB t k v = true) (i : Nat) (hi : i < (encB t k v).length) (h2 : (3 + k.size ≤ i ∧ i < 18) ∨ 19 + v.size ≤ i) : (encB t k v)[i] = 0 := by
  obtain ⟨_, _, h3, h4⟩ := rightB_iff.1 h
  exact encL_spare _ _ _ (by rw [size_data]; exact h3) i hi (by rw [size_data, size_data]; exact h2)
/-- Encode, its slice told. -/
theorem encode_told2 (t : Int) (k v : ByteArray) (w : World) (h : rightB t k v = true) :
    Calls Try.prog 14 #[.agg #[.int .i64 t, .string k, .string v]] w fun e w' => ∃ b c, e = .returned (.slice (some ⟨b, 0, none⟩) 40 c) ∧ w.heap.size ≤ b ∧ Rd w' (.slice (some ⟨b, 0, none⟩) 40 c) (u8s (encB t k v)) ∧ Below w.heap.size w w' := by
  obtain ⟨h1, h2, h3, h4⟩ := rightB_iff.1 h
  obtain ⟨n, rfl⟩ : ∃ n : Nat, t = (n : Int) := ⟨t.toNat, by omega⟩
  refine (encode_yes n k v w h).mono ?_
  rintro e w' ⟨u, rfl, hm, hb⟩
  have hr := hm.rd
  have hl : (encL n k.data.toList v.data.toList).length = 40 := encB_length h
  rcases hm.2 with ⟨rfl, h0⟩ | ⟨g, cap, cur, rfl, hg, _⟩
  · rw [hl] at h0; cases h0
  · rw [hl] at hr ⊢
    exact ⟨g, cap, rfl, hg, hr, hb⟩
theorem over_whole (l m : List UInt8) (h : l.length = m.length) : over l 0 m = m := by simp [over, h]

set_option maxHeartbeats 1000000 in
theorem sizes_long (t : Int) (k v : ByteArray) (n : Int) (w : World) (_ : (Lit.int .i64 t).wf = true) (_ : k.size ≤ maxLen) (_ : v.size ≤ maxLen) (_ : (Lit.int .i64 n).wf = true) (hl : lightB k v = false) :
    Calls Try.prog 7 #[.agg #[.int .i64 t, .string k, .string v], .int .i64 n] w fun e w' => e = .returned (.bool true) ∧ Below w.heap.size w w' := by
  go_enter Try.func7, Try.ntmps7
  go_wp2_with (first
    | (go_at_call 9; refine (fit_one w _ _ _).mono ?_; rintro e w1 ⟨rfl, T1⟩; obtain ⟨p11, p12, p13⟩ := T1.cells)
    | (go_at_call 10; (with_reducible refine (light_told false t k v w1 hl).mono ?_); rintro e w2 ⟨rfl, hb2⟩; have T2 := T1.below hb2; obtain ⟨p21, p22, p23⟩ := T2.cells))
  go_ret
  exact ⟨rfl, T2.le⟩
set_option maxHeartbeats 1000000 in
theorem sizes_wrong (t : Int) (k v : ByteArray) (n : Int) (w : World) (_ : (Lit.int .i64 t).wf = true) (_ : k.size ≤ maxLen) (_ : v.size ≤ maxLen) (_ : (Lit.int .i64 n).wf = true) (hl : lightB k v = true) (hr : rightB t k v = false) :
    Calls Try.prog 7 #[.agg #[.int .i64 t, .string k, .string v], .int .i64 n] w fun e w' => e = .returned (.bool true) ∧ Below w.heap.size w w' := by
  go_enter Try.func7, Try.ntmps7
  go_wp2_with (first
    | (go_at_call 9; refine (fit_one w _ _ _).mono ?_; rintro e w1 ⟨rfl, T1⟩; obtain ⟨p11, p12, p13⟩ := T1.cells)
    | (go_at_call 10; (with_reducible refine (light_told true t k v w1 hl).mono ?_); rintro e w2 ⟨rfl, hb2⟩; have T2 := T1.below hb2; obtain ⟨p21, p22, p23⟩ := T2.cells)
    | (go_at_call 12; (with_reducible refine (lright_told false t k v w2 hr).mono ?_); rintro e w3 ⟨rfl, hb3⟩; have T3 := T2.below hb3; obtain ⟨p31, p32, p33⟩ := T3.cells))
  go_ret
  exact ⟨rfl, T3.le⟩
set_option maxHeartbeats 4000000 in
theorem sizes_right (t : Int) (k v : ByteArray) (n : Int) (w : World) (_ : (Lit.int .i64 t).wf = true) (_ : k.size ≤ maxLen) (_ : v.size ≤ maxLen) (_ : (Lit.int .i64 n).wf = true) (hl : lightB k v = true) (hr : rightB t k v = true) :
    Calls Try.prog 7 #[.agg #[.int .i64 t, .string k, .string v], .int .i64 n] w fun e w' => e = .returned (.bool true) ∧ Below w.heap.size w w' := by
  go_enter Try.func7, Try.ntmps7
  go_wp2_with (first
    | (go_at_call 9; refine (fit_one w _ _ _).mono ?_; rintro e w1 ⟨rfl, T1⟩; obtain ⟨p11, p12, p13⟩ := T1.cells)
    | (go_at_call 10; (with_reducible refine (light_told true t k v w1 hl).mono ?_); rintro e w2 ⟨rfl, hb2⟩; have T2 := T1.below hb2; obtain ⟨p21, p22, p23⟩ := T2.cells)
    | (go_at_call 12; (with_reducible refine (lright_told true t k v w2 hr).mono ?_); rintro e w3 ⟨rfl, hb3⟩; have T3 := T2.below hb3; obtain ⟨p31, p32, p33⟩ := T3.cells)
    | (go_at_call 14; (with_reducible refine (encode_told2 t k v w3 hr).mono ?_); rintro e w4 ⟨b, c, rfl, hlo, R4, hb4⟩; have T4 := T3.below hb4; obtain ⟨p41, p42, p43⟩ := T4.cells))
  
  obtain ⟨n1, n2, n3, n4⟩ := rightB_iff.1 hr
  have HL := hide (encB_length hr)
  have HR := hide R4
  have hread : ∀ j (h : j < (encB t k v).length), w4.cell? ⟨b, j, none⟩ = some (.int .u8 ((encB t k v)[j].toNat : Int)) := by
    obtain ⟨_, _, he, _, hA⟩ := R4
    injection he with e1 e2 e3
    intro j h
    obtain ⟨b', o', e, _, hc⟩ := hA (by rw [u8s_length]; omega)
    rw [← e1] at e
    injection e with e
    injection e with e4 e5
    subst e4
    have := hc j _ (u8s_get _ j h)
    rwa [← e5, Nat.zero_add] at this
  have HRD := hide hread
  clear R4 hread hb2 hb3 hb4 T1 T2 T3 p11 p12 p13 p21 p22 p23 p31 p32 p33 hlo
  go_loop [25] (fun i => ∃ j : Nat, j ≤ 40 ∧ i = .int .i64 (j : Int)) (fun i => 40 - (intOf i).toNat)
  case atStart => exact ⟨0, by omega, rfl⟩
  case round =>
    obtain ⟨j, hj, rfl⟩ := hrel
    by_cases hlt : j < 40
    · have hjl : j < (encB t k v).length := by rw [HL.out]; exact hlt
      have hc := HRD.out j hjl
      by_cases hA : j < 3 + k.size
      · have a1 : decide ((j : Int) < 3 + (k.size : Int)) = true := by simp; omega
        go_wp2
        go_round
        case rel => exact ⟨j + 1, by omega, by go_num⟩
        case measure => simp [intOf]; omega
      · have a1 : decide ((j : Int) < 3 + (k.size : Int)) = false := by simp; omega
        by_cases hB : j = 18
        · have a2 : ((j : Int) == 18) = true := by rw [beq_iff_eq]; omega
          clear hB
          go_wp2
          go_round
          case rel => exact ⟨j + 1, by omega, by go_num⟩
          case measure => simp [intOf]; omega
        · have a2 : ((j : Int) == 18) = false := by rw [beq_eq_false_iff_ne]; omega
          by_cases hC : 19 ≤ j
          · have a3 : decide ((19 : Int) ≤ (j : Int)) = true := by simp; omega
            by_cases hD : j < 19 + v.size
            · have a4 : decide ((j : Int) < 19 + (v.size : Int)) = true := by simp; omega
              go_wp2
              go_round
              case rel => exact ⟨j + 1, by omega, by go_num⟩
              case measure => simp [intOf]; omega
            · have a4 : decide ((j : Int) < 19 + (v.size : Int)) = false := by simp; omega
              have hz := encB_spare hr j hjl (.inr (by omega))
              rw [hz] at hc
              have hc2 : w4.cell? ⟨b, j, none⟩ = some (.int .u8 0) := hc
              clear hc hz
              go_wp2
              go_round
              case rel => exact ⟨j + 1, by omega, by go_num⟩
              case measure => simp [intOf]; omega
          · have a3 : decide ((19 : Int) ≤ (j : Int)) = false := by simp; omega
            have hz := encB_spare hr j hjl (.inl (by omega))
            rw [hz] at hc
            have hc2 : w4.cell? ⟨b, j, none⟩ = some (.int .u8 0) := hc
            clear hc hz
            go_wp2
            go_round
            case rel => exact ⟨j + 1, by omega, by go_num⟩
            case measure => simp [intOf]; omega
    · obtain rfl : j = 40 := by omega
      obtain ⟨m, hm, hbits⟩ := and63 n
      have hmk := fun W => run_make8 (P := Try.prog) 26 5 Try.underlying26 info8 m (by omega) W
      obtain ⟨i0, hi, hz0, hz1, hz2⟩ := info_parts info8
      have T5 := T4.alloc (.cells (blk8 (List.replicate m 0)) 5)
      have B5 : Blk (w4.alloc (.cells (blk8 (List.replicate m 0)) 5)) w4.heap.size 5 (blk8 (List.replicate m 0)) := heap_new w4 _
      have R5 := hide (HR.out.alloc (.cells (blk8 (List.replicate m 0)) 5))
      have hlt4 := hide T4.a.lt
      have hsl := hide (show (List.replicate m (0 : UInt8)).length = m by simp)
      have hlc := hide (show (over (List.replicate m (0 : UInt8)) 0 ((encB t k v).take (min 40 m))).length = m by rw [over_length _ _ _ (by simp; omega)]; simp)
      have hle := hide (fun h : m = 40 => show over (List.replicate m (0 : UInt8)) 0 ((encB t k v).take (min 40 m)) = encB t k v by rw [h, show (encB t k v).take (min 40 40) = encB t k v from List.take_of_length_le (by rw [HL.out]; decide)]; exact over_whole _ _ (by rw [HL.out]; simp))
      generalize hz : List.replicate m (0 : UInt8) = zs at *
      clear hz
      by_cases h40 : m = 40
      · have a5 : ((m : Int) == 40) = true := by rw [beq_iff_eq]; omega
        have H40 := hide h40
        clear h40
        go_wp2_with (first
          | (refine wpList_copy_rd rfl (.tmp 64) (.tmp 65) 26 26 5 i0 rfl Try.underlying26 hi hz1 rfl B5 rfl R5.out HL.out (by rw [hsl.out]; omega) ?_; intro w6 B6 hb6; have T6 := T5.turns hb6 (by rintro k rfl; exact hlt4.out); have R6 := B6.rd8 (n := m) (c := m) hlc.out.symm (Nat.le_refl _); rw [hle.out H40.out] at R6)
          | (go_at_call 13; refine (decode_enc _ t k v w6 hr R6).mono ?_; rintro e w7 ⟨rfl, hb7⟩; have T7 := (T6.below hb7).alloc (.cells #[.int .i64 t, .string k, .string v] 23)))
        go_ret
        exact ⟨rfl, T7.le⟩
      · have a5 : ((m : Int) == 40) = false := by rw [beq_eq_false_iff_ne]; omega
        have H40 := hide h40
        clear h40
        go_wp2_with (first
          | (refine wpList_copy_rd rfl (.tmp 64) (.tmp 65) 26 26 5 i0 rfl Try.underlying26 hi hz1 rfl B5 rfl R5.out HL.out (by rw [hsl.out]; omega) ?_; intro w6 B6 hb6; have T6 := T5.turns hb6 (by rintro k rfl; exact hlt4.out); have R6 := B6.rd8 (n := m) (c := m) hlc.out.symm (Nat.le_refl _))
          | (go_at_call 13; refine (decode_size _ _ w6 R6 (by rw [hlc.out]; exact H40.out)).mono ?_; rintro e w7 ⟨rfl, hb7⟩; have T7 := (T6.below hb7).alloc (.cells #[.int .i64 0, .string ⟨#[]⟩, .string ⟨#[]⟩] 23)))
        go_ret
        exact ⟨rfl, T7.le⟩
theorem sizes_walk (t : Int) (k v : ByteArray) (n : Int) (w : World) (wt : (Lit.int .i64 t).wf = true) (wk : k.size ≤ maxLen) (wv : v.size ≤ maxLen) (wn : (Lit.int .i64 n).wf = true) :
    Calls Try.prog 7 #[.agg #[.int .i64 t, .string k, .string v], .int .i64 n] w fun e w' => e = .returned (.bool true) ∧ Below w.heap.size w w' := by
  cases hl : lightB k v
  · exact sizes_long t k v n w wt wk wv wn hl
  · cases hr : rightB t k v
    · exact sizes_wrong t k v n w wt wk wv wn hl hr
    · exact sizes_right t k v n w wt wk wv wn hl hr
end Go.Proofs.Ytkjngpiblbkccaa
