/-
  The walk of DiskTwice.
-/
import Derived.Test.YtjlfepmdnphenaaCalls
namespace Go.Proofs.Ytjlfepmdnphenaa
open Go.RowKit

/-- The disk behind the first k calls. -/
def tw (cs : List CallD) (k : Nat) : Ds := (cs.take k).foldl (fun D x => D.wr x.r x.s x.data) ⟨8, List.replicate 3 (Rg.new 8), 0⟩
theorem tw_next {cs : List CallD} {k : Nat} (h : k < cs.length) {x : CallD} (hx : cs[k] = x) : tw cs (k + 1) = (tw cs k).wr x.r x.s x.data := by
  subst hx
  unfold tw
  rw [List.take_succ_eq_append_getElem h, List.foldl_append]
  rfl
theorem tw_both (cs : List CallD) (k : Nat) (hk : k ≤ cs.length) : Small (tw cs k) k ∧ Shape (tw cs k) 3 8 := by
  induction k with
  | zero => exact ⟨Small.new 3 8, Shape.new 3 8⟩
  | succ k ih =>
    obtain ⟨h1, h2⟩ := ih (by omega)
    rw [tw_next (by omega) rfl]
    exact ⟨h1.wr _ _ _, h2.wr _ _ _⟩
section
variable {w : World} {X : Nat → Prop} {g h : Nat} {D E : Ds}
theorem tw_w1 (hm : Many w X [(g, D), (h, E)]) (hs : Small D 1000000) (r s : Int) {A : Option Addr} {n c B : Nat} {b : List UInt8} (hn : b.length = n) (hv : Row w B (.slice A n c) (u8s b)) (hB : B ≤ w.heap.size) :
    Calls Try.prog 13 #[ptr g, .int .i64 r, .int .i64 s, .slice A n c] w fun e w' => e = .returned (.int .i64 (D.wrCode r s b.length)) ∧ Many w' X [(g, D.wr r s b), (h, E)] ∧ Out X w w' := m_write 0 hm rfl hs r s hn hv hB
theorem tw_w2 (hm : Many w X [(g, D), (h, E)]) (hs : Small E 1000000) (r s : Int) {A : Option Addr} {n c B : Nat} {b : List UInt8} (hn : b.length = n) (hv : Row w B (.slice A n c) (u8s b)) (hB : B ≤ w.heap.size) :
    Calls Try.prog 13 #[ptr h, .int .i64 r, .int .i64 s, .slice A n c] w fun e w' => e = .returned (.int .i64 (E.wrCode r s b.length)) ∧ Many w' X [(g, D), (h, E.wr r s b)] ∧ Out X w w' := m_write 1 hm rfl hs r s hn hv hB
theorem tw_new1 (hm : Many w X []) : Calls Try.prog 12 #[.int .i64 3, .int .i64 8] w fun e w' => ∃ g, e = .returned (ptr g) ∧ Many w' X [(g, ⟨8, List.replicate 3 (Rg.new 8), 0⟩)] ∧ Below w.heap.size w w' := new_many hm 3 8 (by omega) (by omega) (by omega) (by omega)
theorem tw_new2 (hm : Many w X [(g, D)]) : Calls Try.prog 12 #[.int .i64 3, .int .i64 8] w fun e w' => ∃ h, e = .returned (ptr h) ∧ Many w' X [(g, D), (h, ⟨8, List.replicate 3 (Rg.new 8), 0⟩)] ∧ Below w.heap.size w w' := new_many hm 3 8 (by omega) (by omega) (by omega) (by omega)
theorem tw_c1 (hm : Many w X [(g, D), (h, E)]) (hs : Small D 1000000) (m : Nat) : Calls Try.prog 16 #[ptr g, .int .u64 (m : Int)] w fun e w' => e = .returned (.tuple #[]) ∧ Many w' X [(g, D.crash (bitOf m)), (h, E)] ∧ Out X w w' := crash_many (i := 0) hm rfl hs m
theorem tw_c2 (hm : Many w X [(g, D), (h, E)]) (hs : Small E 1000000) (m : Nat) : Calls Try.prog 16 #[ptr h, .int .u64 (m : Int)] w fun e w' => e = .returned (.tuple #[]) ∧ Many w' X [(g, D), (h, E.crash (bitOf m))] ∧ Out X w w' := crash_many (i := 1) hm rfl hs m
theorem tw_r1 (hm : Many w X [(g, D), (h, E)]) (hd : Shape D 3 8) {r s : Int} (hr : 0 ≤ r ∧ r < 3 ∧ 0 ≤ s ∧ s < 8) : Calls Try.prog 18 #[ptr g, .int .i64 r, .int .i64 s] w fun e w' => e = .returned (.tuple #[.slice (some ⟨w.heap.size, 0, none⟩) 64 64, .int .i64 0]) ∧ (sec D r s).length = 64 ∧ Blk w' w.heap.size 5 (blk8 (sec D r s)) ∧ Many w' X [(g, D), (h, E)] ∧ Below w.heap.size w w' := m_read 0 hm rfl hd hr.1 hr.2.1 hr.2.2.1 hr.2.2.2
theorem tw_r2 (hm : Many w X [(g, D), (h, E)]) (hd : Shape E 3 8) {r s : Int} (hr : 0 ≤ r ∧ r < 3 ∧ 0 ≤ s ∧ s < 8) : Calls Try.prog 18 #[ptr h, .int .i64 r, .int .i64 s] w fun e w' => e = .returned (.tuple #[.slice (some ⟨w.heap.size, 0, none⟩) 64 64, .int .i64 0]) ∧ (sec E r s).length = 64 ∧ Blk w' w.heap.size 5 (blk8 (sec E r s)) ∧ Many w' X [(g, D), (h, E)] ∧ Below w.heap.size w w' := m_read 1 hm rfl hd hr.1 hr.2.1 hr.2.2.1 hr.2.2.2
theorem tw_waits (hm : Many w X [(g, D), (h, E)]) (hz : ∀ r, D.waits r = 0) (r : Int) : Calls Try.prog 20 #[ptr g, .int .i64 r] w fun e w' => e = .returned (.int .i64 0) ∧ w = w' := by
  have := waits_many (i := 0) hm rfl r
  rw [hz r] at this
  exact this
theorem tw_n1 (hm : Many w X [(g, D), (h, E)]) : Calls Try.prog 22 #[ptr g] w fun e w' => e = .returned (.int .i64 (D.writes : Int)) ∧ w = w' := writes_many (i := 0) hm rfl
theorem tw_n2 (hm : Many w X [(g, D), (h, E)]) : Calls Try.prog 22 #[ptr h] w fun e w' => e = .returned (.int .i64 (E.writes : Int)) ∧ w = w' := writes_many (i := 1) hm rfl
end

set_option maxRecDepth 100000 in
set_option maxHeartbeats 8000000 in
theorem twice_walk (v : Value) (cs : List CallD) (m0 m1 : Nat) (w : World) (hv : CallRow w w.heap.size v cs) (_ : m0 < 18446744073709551616) (_ : m1 < 18446744073709551616) :
    Calls Try.prog 9 #[v, .agg #[.int .u64 (m0 : Int), .int .u64 (m1 : Int)]] w fun e w' => e = .returned (.bool true) ∧ Below w.heap.size w w' := by
  obtain ⟨A, c, rfl, _, _⟩ := id hv
  by_cases hlong : 100 < cs.length
  · have hl : (100 : Int) < (cs.length : Int) := by omega
    go_enter Try.func9, Try.ntmps9
    go_wp2_with (go_at_call 11; refine (fit_any _).mono ?_; rintro e w1 ⟨rfl, hb1⟩; have hq := box_facts hb1; clear hb1)
    go_ret
    exact ⟨rfl, hq.1⟩
  have h100 : cs.length ≤ 100 := by omega
  have hl : decide ((100 : Int) < (cs.length : Int)) = false := by simp; omega
  have HV := hide hv
  clear hv
  go_enter Try.func9, Try.ntmps9
  go_wp2_with (first
    | (go_at_call 11; refine (fit_any _).mono ?_; rintro e w1 ⟨rfl, hb1⟩; obtain ⟨hq1, hq2, hq3⟩ := box_facts hb1; have HM0 := hide (show Many w1 (fun k => k < w.heap.size + 1) [] from Many.nil (fun k h => Nat.lt_of_lt_of_le h hq2)); have HB1 := hide hq1; have HX1 := hide hq3; clear hb1 hq1 hq2 hq3)
    | (go_at_call 12; refine (tw_new1 HM0.out).mono ?_; rintro e w2 ⟨g, rfl, hm2, hb2⟩; have HM2 := hide hm2; have HB2 := hide (HB1.out.trans (hb2.mono HB1.out.size)); have HX2 := hide (blk_below HX1.out hb2); clear hm2 hb2)
    | (go_at_call 12; refine (tw_new2 HM2.out).mono ?_; rintro e w3 ⟨h, rfl, hm3, hb3⟩; have HM3 := hide hm3; have HB3 := hide (HB2.out.trans (hb3.mono HB2.out.size)); have HX3 := hide (blk_below HX2.out hb3); clear hm3 hb3))
  go_loopw [23] (fun i wr => ∃ k : Nat, k ≤ cs.length ∧ i = .int .i64 k ∧ Many wr (fun k => k < w.heap.size + 1) [(g, tw cs k), (h, tw cs k)] ∧ Below w.heap.size w wr ∧ Blk wr w.heap.size 54 #[.int .u64 (m0 : Int), .int .u64 (m1 : Int)]) (fun i _ => cs.length - (intOf i).toNat)
  case atStart => exact ⟨0, Nat.zero_le _, rfl, HM3.out, HB3.out, HX3.out⟩
  case round =>
    obtain ⟨k, hk, rfl, hm, hb, hx⟩ := hrel
    by_cases hlt : k < cs.length
    · obtain ⟨b, o, cap, he, kd, r, s, A2, n, c2, l, mask, hck, hln, hn2, hmask, hrange, hrow, -, -, -⟩ := call_at HV.out hb hlt
      injection he with e1 e2 e3
      subst e1
      subst e3
      have HNX := hide (tw_next hlt hck)
      have HSM := hide ((tw_both cs k hk).1.more (show k ≤ 1000000 by omega))
      have HM := hide hm
      have HB := hide hb
      have HX := hide hx
      have HLN := hide hln
      have HRG := hide hrange
      have HRW := hide hrow
      have XIC := hide infoCall
      have XAC := hide (all_call kd r s A2 n c2 (mask : Int))
      have hk0 : (0 : Int) ≤ (k : Int) := by omega
      have hk1 : (k : Int) < (cs.length : Int) := by omega
      clear hm hb hx hln hrange hrow hck
      go_wp2_with (first
        | ((with_reducible refine wpList_load_mid rfl 36 (.tmp 25) rfl b (o + k * 5) rfl [.int .i64 kd, .int .i64 r, .int .i64 s, .slice A2 n c2, .int .u64 (mask : Int)] _ ?_ Try.underlying36 ?_ ?_ ?_); exact HRG.out; rfl; exact XIC.out)
        | ((with_reducible refine store_box 36 (.tmp 8) (.tmp 26) 5 _ #[.int .i64 kd, .int .i64 r, .int .i64 s, .slice A2 n c2, .int .u64 (mask : Int)] rfl rfl ?_ ?_ rfl rfl ?_ ?_ ?_); rfl; rfl; exact XIC.out; exact XAC.out; intro W2 hb2 hs2 hx2; have HMW := hide (many_box HM.out hb2 hs2); have HBW := hide (HB.out.trans (hb2.mono HB.out.size)); have HXW := hide (blk_below HX.out hb2); have HLW := hide (Nat.le_trans HB.out.size hb2.size); have HRWW := hide (HRW.out.below (hb2.mono HB.out.size)); have hc1 := hx2.cell 1 _ rfl; have hc2 := hx2.cell 2 _ rfl; have hc3 := hx2.cell 3 _ rfl; have HXB := hide hx2; clear hb2 hs2 hx2)
        | (go_at_call 13; (with_reducible refine (tw_w1 HMW.out HSM.out r s HLN.out HRWW.out HLW.out).mono ?_); rintro e w4 ⟨rfl, hm4, ho4⟩; have hx4 := ho4.blk HXB.out (.inr rfl); have hd1 := hx4.cell 1 _ rfl; have hd2 := hx4.cell 2 _ rfl; have hd3 := hx4.cell 3 _ rfl; have HM4 := hide hm4; have HO4 := hide ho4; have HRW4 := hide (ho4.row HRWW.out HLW.out (fun k hk => .inl (Nat.lt_succ_of_lt hk))); have HL4 := hide (Nat.le_trans HLW.out ho4.size); clear hm4 ho4 hx4)
        | (go_at_call 13; (with_reducible refine (tw_w2 HM4.out HSM.out r s HLN.out HRW4.out HL4.out).mono ?_); rintro e w5 ⟨rfl, hm5, ho5⟩; have HM5 := hide hm5; have HO5 := hide ho5; clear hm5 ho5))
      go_roundw
      case rel =>
        have ho := HO4.out.trans HO5.out
        refine ⟨k + 1, by omega, by go_num, ?_, HBW.out.trans (ho.below HLW.out (fun k hk => .inl (Nat.lt_succ_of_lt hk))), ho.blk HXW.out (.inl (Nat.lt_succ_self _))⟩
        rw [HNX.out]
        exact many_unbox HM5.out
      case measure => simp [intOf]; omega
    · have hkN : cs.length = k := by omega
      subst hkN
      obtain ⟨D, hD⟩ : ∃ D, tw cs cs.length = D := ⟨_, rfl⟩
      have hboth := tw_both cs cs.length hk
      rw [hD] at hm hboth
      have HSM := hide (hboth.1.more (show cs.length ≤ 1000000 by omega))
      have HSC := hide (show Small (D.crash (bitOf m0)) 1000000 from (hboth.1.more (show cs.length ≤ 1000000 by omega)).crash _)
      have HSH := hide (hboth.2.crash (bitOf m0))
      have HWZ := hide (waits_crash D (bitOf m0))
      have HM := hide hm
      have HB := hide hb
      have hc0 := hx.cell 0 _ rfl
      have hc1 := hx.cell 1 _ rfl
      have HX := hide hx
      clear hm hb hx hD hboth
      go_wp2_with (first
        | (go_at_call 16; (with_reducible refine (tw_c1 HM.out HSM.out m0).mono ?_); rintro e w4 ⟨rfl, hm4, ho4⟩; have HM4 := hide hm4; have HB4 := hide (HB.out.trans (ho4.below HB.out.size (fun k hk => Nat.lt_succ_of_lt hk))); have hx4 := ho4.blk HX.out (Nat.lt_succ_self _); have hd0 := hx4.cell 0 _ rfl; have hd1 := hx4.cell 1 _ rfl; have HX4 := hide hx4; clear hm4 ho4 hx4)
        | (go_at_call 16; (with_reducible refine (tw_c2 HM4.out HSM.out m0).mono ?_); rintro e w5 ⟨rfl, hm5, ho5⟩; have HM5 := hide hm5; have HB5 := hide (HB4.out.trans (ho5.below HB4.out.size (fun k hk => Nat.lt_succ_of_lt hk))); have hx5 := ho5.blk HX4.out (Nat.lt_succ_self _); have he0 := hx5.cell 0 _ rfl; have he1 := hx5.cell 1 _ rfl; have HX5 := hide hx5; clear hm5 ho5 hx5)
        | (go_at_call 16; (with_reducible refine (tw_c2 HM5.out HSC.out m1).mono ?_); rintro e w6 ⟨rfl, hm6, ho6⟩; rw [crash_crash] at hm6; have HM6 := hide hm6; have HB6 := hide (HB5.out.trans (ho6.below HB5.out.size (fun k hk => Nat.lt_succ_of_lt hk))); clear hm6 ho6))
      clear hc0 hc1 hd0 hd1 he0 he1
      obtain ⟨E, hE⟩ : ∃ E, D.crash (bitOf m0) = E := ⟨_, rfl⟩
      rw [hE] at HM6 HSH HWZ
      go_loopw [56] (fun i wr => ∃ k : Nat, k ≤ 24 ∧ i = .int .i64 k ∧ Many wr (fun k => k < w.heap.size + 1) [(g, E), (h, E)] ∧ Below w.heap.size w wr) (fun i _ => 24 - (intOf i).toNat)
      case atStart => exact ⟨0, Nat.zero_le _, rfl, HM6.out, HB6.out⟩
      case round =>
        obtain ⟨k, hk, rfl, hm, hb⟩ := hrel
        by_cases hlt : k < 24
        · have HM := hide hm
          have HB := hide hb
          have hk0 : (0 : Int) ≤ (k : Int) := by omega
          have hk1 : (k : Int) < 24 := by omega
          clear hm hb
          have hr : 0 ≤ (k : Int) / 8 ∧ (k : Int) / 8 < 3 ∧ 0 ≤ (k : Int) % 8 ∧ (k : Int) % 8 < 8 := by omega
          go_wp2_with (first
            | (go_at_call 18; (with_reducible refine (tw_r1 HM.out HSH.out hr).mono ?_); rintro e w7 ⟨rfl, hp7, hx7, hm7, hb7⟩; have HP := hide hp7; have HX7 := hide hx7; have HM7 := hide hm7; have HB7 := hide (HB.out.trans (hb7.mono HB.out.size)); clear hp7 hx7 hm7 hb7)
            | (go_at_call 18; (with_reducible refine (tw_r2 HM7.out HSH.out hr).mono ?_); rintro e w8 ⟨rfl, hp8, hx8, hm8, hb8⟩; have hcv1 := conv_blk 64 HP.out (blk_below HX7.out hb8); have hcv2 := conv_blk 64 hp8 hx8; have HM8 := hide hm8; have HB8 := hide (HB7.out.trans (hb8.mono HB7.out.size)); clear hp8 hx8 hm8 hb8)
            | (go_at_call 20; (with_reducible refine (tw_waits HM8.out HWZ.out ((k : Int) / 8)).mono ?_); rintro e w9 ⟨rfl, rfl⟩))
          go_roundw
          case rel => exact ⟨k + 1, by omega, by go_num, HM8.out, HB8.out⟩
          case measure => simp [intOf]; omega
        · have hkN : 24 = k := by omega
          subst hkN
          have HM := hide hm
          have HB := hide hb
          clear hm hb
          go_wp2_with (first
            | (go_at_call 22; (with_reducible refine (tw_n1 HM.out).mono ?_); rintro e w7 ⟨rfl, rfl⟩)
            | (go_at_call 22; (with_reducible refine (tw_n2 HM.out).mono ?_); rintro e w8 ⟨rfl, rfl⟩))
          go_ret
          exact ⟨rfl, HB.out⟩
end Go.Proofs.Ytjlfepmdnphenaa
