/-
  The walk of DiskArms.
-/
import Derived.Test.YtjlfepmdnphenaaFit
import Derived.Test.YtjlfepmdnphenaaSpec
namespace Go.Proofs.Ytjlfepmdnphenaa
open Go.RowKit

/-- Two regions of four sectors, the second armed with n, k rounds over. -/
def ArmsInv (d : Ds) (n k : Nat) : Prop :=
  d.size = 4 ∧ Small d (2 * k) ∧ ∃ r0 r1, d.regs = [r0, r1] ∧ r0.armed = false ∧ r1.armed = true ∧ r1.left = n - k ∧ r1.ws.length = min k n
theorem arms_start (n : Nat) (hn : n < 32) : ArmsInv ((⟨4, List.replicate 2 (Rg.new 4), 0⟩ : Ds).ar 1 (n : Int)) n 0 :=
  ⟨rfl, (Small.new 2 4).ar 1 n (by omega), Rg.new 4, (Rg.new 4).arm n, rfl, rfl, rfl, by simp [Rg.arm], by simp [Rg.arm, Rg.new]⟩
theorem at_two {d : Ds} {r0 r1 : Rg} (h : d.regs = [r0, r1]) : d.at? 0 = some r0 ∧ d.at? 1 = some r1 := by
  unfold Ds.at?
  rw [h]
  exact ⟨rfl, rfl⟩
/-- Behind one write of the second region. -/
def ArmsMid (d : Ds) (n k : Nat) : Prop :=
  d.size = 4 ∧ Small d (2 * k + 1) ∧ ∃ r0 r1, d.regs = [r0, r1] ∧ r0.armed = false ∧ r1.armed = true ∧ r1.left = n - (k + 1) ∧ r1.ws.length = min (k + 1) n
theorem arms_mid {d : Ds} {n k s : Nat} (h : ArmsInv d n k) (hs : s < 4) (b : List UInt8) (hb : b.length = 1) : d.wrCode 1 (s : Int) 1 = (if n ≤ k then 10 else 0) ∧ ArmsMid (d.wr 1 (s : Int) b) n k := by
  obtain ⟨h4, hsm, r0, r1, hr, a0, a1, hl, hw⟩ := h
  have h1 := (at_two hr).2
  have hsm2 := hsm.wr 1 (s : Int) b
  by_cases hk : n ≤ k
  · have hd : r1.down = true := by simp [Rg.down, a1, hl]; omega
    have hh := wr_dn (b := b) (s := (s : Int)) h1 (by omega) (by omega) (by omega) hd
    rw [hb] at hh
    rw [if_pos hk]
    refine ⟨hh.1, ?_, hsm2, r0, r1, ?_, a0, a1, by omega, by omega⟩
    · rw [hh.2]; exact h4
    · rw [hh.2]; exact hr
  · have hd : r1.down = false := by simp [Rg.down, a1, hl]; omega
    have hh := wr_ok (b := b) (s := (s : Int)) h1 (by omega) (by omega) (by omega) hd
    rw [hb] at hh
    rw [if_neg hk]
    refine ⟨hh.1, ?_, hsm2, r0, r1.write s (pad b), ?_, a0, a1, ?_, ?_⟩
    · rw [hh.2]; exact h4
    · rw [hh.2]; simp [Ds.write, hr]
    · simp [Rg.write, a1, hl]; omega
    · simp [Rg.write, hw]; omega
theorem arms_next {d : Ds} {n k : Nat} (h : ArmsMid d n k) : d.wrCode 0 0 0 = 0 ∧ ArmsInv (d.wr 0 0 []) n (k + 1) ∧ (d.wr 0 0 []).dn 1 = decide (n ≤ k + 1) := by
  obtain ⟨h4, hsm, r0, r1, hr, a0, a1, hl, hw⟩ := h
  have h0 := (at_two hr).1
  have hsm2 := hsm.wr 0 0 []
  have hd : r0.down = false := by simp [Rg.down, a0]
  have hh := wr_ok (b := []) (s := 0) h0 (by omega) (by omega) (by simp) hd
  have hregs : (d.wr 0 0 []).regs = [r0.write 0 (pad []), r1] := by rw [hh.2]; simp [Ds.write, hr]
  refine ⟨hh.1, ⟨by rw [hh.2]; exact h4, hsm2.more (by omega), r0.write 0 (pad []), r1, hregs, a0, a1, hl, hw⟩, ?_⟩
  unfold Ds.dn
  rw [(at_two hregs).2]
  simp only [Rg.down, a1, hl, Bool.true_and]
  by_cases e : n ≤ k + 1
  · have : n - (k + 1) = 0 := by omega
    simp [this, e]
  · have : n - (k + 1) ≠ 0 := by omega
    simp [this, e]
theorem arms_end {d : Ds} {n : Nat} (h : ArmsInv d n (n + 3)) (hn : n < 32) (m : Nat) (hm : m < 32) : d.brCode 1 = 10 ∧ d.br 1 = d ∧ d.waits 1 = n ∧ (d.ar 1 m).dn 1 = decide (m = 0) ∧ ((d.ar 1 m).crash (bitOf 0)).dn 1 = false ∧ ((d.ar 1 m).crash (bitOf 0)).waits 1 = 0 ∧ ((d.ar 1 m).crash (bitOf 0)).wrCode 1 0 0 = 0 ∧ Small (d.ar 1 m) 1000 := by
  obtain ⟨h4, hsm, r0, r1, hr, a0, a1, hl, hw⟩ := h
  have h1 := (at_two hr).2
  have hd : r1.down = true := by simp [Rg.down, a1, hl]
  have har : (d.ar 1 m).regs = [r0, r1.arm m] := by unfold Ds.ar; rw [h1]; simp [Ds.arm, hr]
  have hcr : ((d.ar 1 m).crash (bitOf 0)).regs = [r0.crash (bitOf 0), (r1.arm m).crash (bitOf 0)] := by simp [Ds.crash, har]
  have hsz : ((d.ar 1 m).crash (bitOf 0)).size = 4 := by
    show (d.ar 1 m).size = 4
    unfold Ds.ar; rw [h1]; exact h4
  refine ⟨by unfold Ds.brCode; rw [h1]; simp [hd], by unfold Ds.br; rw [h1]; simp [hd], by unfold Ds.waits; rw [h1]; simp [hw], ?_, ?_, ?_, ?_, ?_⟩
  · unfold Ds.dn
    rw [(at_two har).2]
    cases m <;> simp [Rg.down, Rg.arm]
  · unfold Ds.dn
    rw [(at_two hcr).2]
    rfl
  · unfold Ds.waits
    rw [(at_two hcr).2]
    rfl
  · exact (wr_ok (b := []) (s := 0) (at_two hcr).2 (by omega) (by rw [hsz]; omega) (by simp) rfl).1
  · exact (hsm.ar 1 m (by omega)).more (by omega)

section
variable {w : World} {X : Nat → Prop} {g n k s : Nat} {d : Ds}
theorem byte_rd (W : World) (k : Nat) (hk : k < 256) : Rd (W.alloc (.cells #[.int .u8 (k : Int)] 5)) (.slice (some ⟨W.heap.size, 0, none⟩) 1 1) (u8s [UInt8.ofNat k]) := by
  refine Rd.new_ W _ _ _ rfl rfl (Nat.le_refl _) ?_
  simp only [u8s, List.map_cons, List.map_nil, UInt8.toNat_ofNat']
  rw [Nat.mod_eq_of_lt (by omega)]
theorem arms_w1 (C : Int) (h : Many w X [(g, d)]) (hi : ArmsInv d n k) (hn : n < 32) (hk : k < n + 3) (hs : s < 4) (hC : (if n ≤ k then 10 else 0) = C) :
    Calls Try.prog 13 #[ptr g, .int .i64 1, .int .i64 (s : Int), .slice (some ⟨w.heap.size, 0, none⟩) 1 1] (w.alloc (.cells #[.int .u8 (k : Int)] 5)) (fun e w' => e = .returned (.int .i64 C) ∧ (∃ d', Many w' X [(g, d')] ∧ ArmsMid d' n k) ∧ Out X (w.alloc (.cells #[.int .u8 (k : Int)] 5)) w') := by
  have hh := arms_mid hi hs [UInt8.ofNat k] rfl
  have := write_many (i := 0) (h.alloc (.cells #[.int .u8 (k : Int)] 5)) rfl (hi.2.1.more (by omega)) 1 (s : Int) (some ⟨w.heap.size, 0, none⟩) 1 [UInt8.ofNat k] (byte_rd w k (by omega))
  refine this.mono ?_
  rintro e w' ⟨rfl, h1, h2⟩
  refine ⟨?_, ⟨_, h1, hh.2⟩, h2⟩
  rw [← hC, ← hh.1]
  rfl
theorem arms_w2 (h : Many w X [(g, d)]) (hi : ArmsMid d n k) (hk : k < 100) :
    Calls Try.prog 13 #[ptr g, .int .i64 0, .int .i64 0, .slice none 0 0] w (fun e w' => e = .returned (.int .i64 0) ∧ (∃ d', Many w' X [(g, d')] ∧ ArmsInv d' n (k + 1) ∧ d'.dn 1 = decide (n ≤ k + 1)) ∧ Out X w w') := by
  have hh := arms_next hi
  refine (write_many (i := 0) h rfl (hi.2.1.more (by omega)) 0 0 none 0 [] (Rd.nil_ _ _ _)).mono ?_
  rintro e w' ⟨rfl, h1, h2⟩
  exact ⟨congrArg (fun z => Ending.returned (.int .i64 z)) hh.1, ⟨_, h1, hh.2.1, hh.2.2⟩, h2⟩
theorem arms_dn (B : Bool) (h : Many w X [(g, d)]) (hd : d.dn 1 = B) : Calls Try.prog 21 #[ptr g, .int .i64 1] w (fun e w' => e = .returned (.bool B) ∧ w = w') := by
  rw [← hd]; exact dn_many (i := 0) h rfl 1
end

set_option maxHeartbeats 4000000 in
theorem arms_walk (n0 m0 : Int) (w : World) (_ : (Lit.int .i64 n0).wf = true) (_ : (Lit.int .i64 m0).wf = true) :
    Calls Try.prog 7 #[.int .i64 n0, .int .i64 m0] w fun e w' => e = .returned (.bool true) ∧ Below w.heap.size w w' := by
  obtain ⟨n, hn, en⟩ := and31 n0
  obtain ⟨m, hm', em⟩ := and31 m0
  have hn3 : 0 ≤ (n : Int) + 3 := by omega
  go_enter Try.func7, Try.ntmps7
  go_wp2_with (first
    | (go_at_call 11; refine (fit_any _).mono ?_; rintro e w1 ⟨rfl, hb1⟩; have HM0 := hide (show Many w1 (fun k => k < w.heap.size) [] from Many.nil (fun k h => Nat.lt_of_lt_of_le h hb1.size)); have HB1 := hide hb1; clear hb1)
    | (go_at_call 12; refine (show Calls Try.prog 12 #[.int .i64 2, .int .i64 4] w1 _ from new_many HM0.out 2 4 (by omega) (by omega) (by omega) (by omega)).mono ?_; rintro e w2 ⟨g, rfl, hm2, hb2⟩; have HM2 := hide hm2; have HB2 := hide hb2; clear hm2 hb2)
    | (go_at_call 17; refine (arm_many (i := 0) HM2.out rfl 1 (n : Int)).mono ?_; rintro e w3 ⟨rfl, hm3, ho3⟩; have HM3 := hide hm3; have HO3 := hide ho3; clear hm3 ho3))
  have HST := hide (arms_start n hn)
  go_loopw [20] (fun i wr => ∃ (k : Nat) (d : Ds), k ≤ n + 3 ∧ i = .int .i64 k ∧ ArmsInv d n k ∧ Many wr (fun k => k < w.heap.size) [(g, d)] ∧ Below w.heap.size w wr) (fun i _ => n + 3 - (intOf i).toNat)
  case atStart =>
    have b2 := HB1.out.trans (HB2.out.mono HB1.out.size)
    exact ⟨0, _, by omega, rfl, HST.out, HM3.out, b2.trans (HO3.out.below b2.size (fun _ h => h))⟩
  case round =>
    obtain ⟨k, d, hk, rfl, hinv, hm, hb⟩ := hrel
    by_cases hlt : k < n + 3
    · obtain ⟨s, hs, es⟩ := and3 (k : Int)
      have hlt' : (k : Int) < (n : Int) + 3 := by omega
      have hk0 : (0 : Int) ≤ (k : Int) := by omega
      have HINV := hide hinv
      have HM := hide hm
      have HB := hide hb
      clear hinv hm hb
      have hcase : (n ≤ k ∧ n ≤ k + 1) ∨ (¬ n ≤ k ∧ n ≤ k + 1) ∨ (¬ n ≤ k ∧ ¬ n ≤ k + 1) := by omega
      rcases hcase with ⟨c1, c2⟩ | ⟨c1, c2⟩ | ⟨c1, c2⟩
      · have h1 : (n : Int) ≤ (k : Int) := by omega
        have h2 : (n : Int) - 1 ≤ (k : Int) := by omega
        go_wp2_with (first
          | (go_at_call 13; (with_reducible refine (arms_w1 10 HM.out HINV.out hn hlt hs (if_pos c1)).mono ?_); rintro e w4 ⟨rfl, ⟨d4, hm4, hi4⟩, ho4⟩; have HM4 := hide hm4; have HI4 := hide hi4; have HO4 := hide ho4; clear hm4 hi4 ho4)
          | (go_at_call 13; (with_reducible refine (arms_w2 HM4.out HI4.out (by omega)).mono ?_); rintro e w5 ⟨rfl, ⟨d5, hm5, hi5, hd5⟩, ho5⟩; have HM5 := hide hm5; have HI5 := hide hi5; have HO5 := hide ho5; have HD5 := hide (hd5.trans (decide_eq_true c2)); clear hm5 hi5 ho5 hd5)
          | (go_at_call 21; refine (arms_dn true HM5.out HD5.out).mono ?_; rintro e w6 ⟨rfl, rfl⟩))
        go_round
        case rel => exact ⟨k + 1, d5, by omega, by go_num, HI5.out, HM5.out, ((HB.out.alloc HB.out.size _).trans (HO4.out.below (by have := HB.out.size; simp; omega) (fun _ h => h))).trans (HO5.out.below (Nat.le_trans (by have := HB.out.size; simp; omega) HO4.out.size) (fun _ h => h))⟩
        case measure => simp [intOf]; omega
      · have h1 : (k : Int) < (n : Int) := by omega
        have h2 : (n : Int) - 1 ≤ (k : Int) := by omega
        go_wp2_with (first
          | (go_at_call 13; (with_reducible refine (arms_w1 0 HM.out HINV.out hn hlt hs (if_neg c1)).mono ?_); rintro e w4 ⟨rfl, ⟨d4, hm4, hi4⟩, ho4⟩; have HM4 := hide hm4; have HI4 := hide hi4; have HO4 := hide ho4; clear hm4 hi4 ho4)
          | (go_at_call 13; (with_reducible refine (arms_w2 HM4.out HI4.out (by omega)).mono ?_); rintro e w5 ⟨rfl, ⟨d5, hm5, hi5, hd5⟩, ho5⟩; have HM5 := hide hm5; have HI5 := hide hi5; have HO5 := hide ho5; have HD5 := hide (hd5.trans (decide_eq_true c2)); clear hm5 hi5 ho5 hd5)
          | (go_at_call 21; refine (arms_dn true HM5.out HD5.out).mono ?_; rintro e w6 ⟨rfl, rfl⟩))
        go_round
        case rel => exact ⟨k + 1, d5, by omega, by go_num, HI5.out, HM5.out, ((HB.out.alloc HB.out.size _).trans (HO4.out.below (by have := HB.out.size; simp; omega) (fun _ h => h))).trans (HO5.out.below (Nat.le_trans (by have := HB.out.size; simp; omega) HO4.out.size) (fun _ h => h))⟩
        case measure => simp [intOf]; omega
      · have h1 : (k : Int) < (n : Int) := by omega
        have h2 : (k : Int) < (n : Int) - 1 := by omega
        have h3 : decide ((n : Int) - 1 ≤ (k : Int)) = false := by simp; omega
        go_wp2_with (first
          | (go_at_call 13; (with_reducible refine (arms_w1 0 HM.out HINV.out hn hlt hs (if_neg c1)).mono ?_); rintro e w4 ⟨rfl, ⟨d4, hm4, hi4⟩, ho4⟩; have HM4 := hide hm4; have HI4 := hide hi4; have HO4 := hide ho4; clear hm4 hi4 ho4)
          | (go_at_call 13; (with_reducible refine (arms_w2 HM4.out HI4.out (by omega)).mono ?_); rintro e w5 ⟨rfl, ⟨d5, hm5, hi5, hd5⟩, ho5⟩; have HM5 := hide hm5; have HI5 := hide hi5; have HO5 := hide ho5; have HD5 := hide (hd5.trans (decide_eq_false c2)); clear hm5 hi5 ho5 hd5)
          | (go_at_call 21; refine (arms_dn false HM5.out HD5.out).mono ?_; rintro e w6 ⟨rfl, rfl⟩))
        go_round
        case rel => exact ⟨k + 1, d5, by omega, by go_num, HI5.out, HM5.out, ((HB.out.alloc HB.out.size _).trans (HO4.out.below (by have := HB.out.size; simp; omega) (fun _ h => h))).trans (HO5.out.below (Nat.le_trans (by have := HB.out.size; simp; omega) HO4.out.size) (fun _ h => h))⟩
        case measure => simp [intOf]; omega
    · obtain rfl : k = n + 3 := by omega
      obtain ⟨e1, e2, e3, e4, e5, e6, e7, e8⟩ := arms_end hinv hn m hm'
      have E4 := hide e4
      have E5 := hide e5
      have E6 := hide e6
      have E7 := hide e7
      have E8 := hide e8
      have HB := hide hb
      have hba : ∀ W, Many W (fun k => k < w.heap.size) [(g, d)] → Calls Try.prog 15 #[ptr g, .int .i64 1] W (fun e w' => e = .returned (.int .i64 10) ∧ Many w' (fun k => k < w.heap.size) [(g, d)] ∧ Out (fun k => k < w.heap.size) W w') := by
        intro W h
        have := barrier_many (i := 0) h rfl 1
        rw [e1, e2] at this
        exact this
      have hwa : ∀ W, Many W (fun k => k < w.heap.size) [(g, d)] → Calls Try.prog 20 #[ptr g, .int .i64 1] W (fun e w' => e = .returned (.int .i64 (n : Int)) ∧ W = w') := by
        intro W h
        have := waits_many (i := 0) h rfl 1
        rw [e3] at this
        exact this
      have hwb : ∀ W, Many W (fun k => k < w.heap.size) [(g, (d.ar 1 m).crash (bitOf 0))] → Calls Try.prog 20 #[ptr g, .int .i64 1] W (fun e w' => e = .returned (.int .i64 0) ∧ W = w') := by
        intro W h
        have := waits_many (i := 0) h rfl 1
        rw [e6] at this
        exact this
      have hwr : ∀ W, Many W (fun k => k < w.heap.size) [(g, (d.ar 1 m).crash (bitOf 0))] → Calls Try.prog 13 #[ptr g, .int .i64 1, .int .i64 0, .slice none 0 0] W (fun e w' => e = .returned (.int .i64 0) ∧ Out (fun k => k < w.heap.size) W w') := by
        intro W h
        have := write_many (i := 0) h rfl ((E8.out.crash (bitOf 0)).more (by omega)) 1 0 none 0 [] (Rd.nil_ _ _ _)
        refine this.mono ?_
        rintro e w' ⟨rfl, _, h2⟩
        exact ⟨congrArg (fun z => Ending.returned (.int .i64 z)) e7, h2⟩
      have HBA := hide hba
      have HWA := hide hwa
      have HWB := hide hwb
      have HWR := hide hwr
      have HM := hide hm
      clear e1 e2 e3 e4 e5 e6 e7 e8 hba hwa hwb hwr hm hinv hb
      by_cases hm0 : m = 0
      · subst hm0
        go_wp2_with (first
          | (go_at_call 15; refine (HBA.out _ HM.out).mono ?_; rintro e w4 ⟨rfl, hm4, ho4⟩; have HM4 := hide hm4; have HO4 := hide ho4; clear hm4 ho4)
          | (go_at_call 20; refine (HWA.out _ HM4.out).mono ?_; rintro e w5 ⟨rfl, rfl⟩)
          | (go_at_call 17; refine (arm_many (i := 0) HM4.out rfl 1 ((0 : Nat) : Int)).mono ?_; rintro e w6 ⟨rfl, hm6, ho6⟩; have HM6 := hide hm6; have HO6 := hide ho6; clear hm6 ho6 HM4)
          | (go_at_call 21; refine (arms_dn true HM6.out (E4.out.trans rfl)).mono ?_; rintro e w7 ⟨rfl, rfl⟩)
          | (go_at_call 16; refine (show Calls Try.prog 16 #[ptr g, .int .u64 0] _ _ from crash_many (i := 0) HM6.out rfl (E8.out.more (by omega)) 0).mono ?_; rintro e w8 ⟨rfl, hm8, ho8⟩; have HM8 := hide hm8; have HO8 := hide ho8; clear hm8 ho8 HM6)
          | (go_at_call 21; refine (arms_dn false HM8.out E5.out).mono ?_; rintro e w9 ⟨rfl, rfl⟩)
          | (go_at_call 20; refine (HWB.out _ HM8.out).mono ?_; rintro e w9 ⟨rfl, rfl⟩)
          | (go_at_call 13; refine (HWR.out _ HM8.out).mono ?_; rintro e w10 ⟨rfl, ho10⟩))
        go_ret
        have b4 := HB.out.trans (HO4.out.below HB.out.size (fun _ h => h))
        have b6 := b4.trans (HO6.out.below b4.size (fun _ h => h))
        have b8 := b6.trans (HO8.out.below b6.size (fun _ h => h))
        exact ⟨rfl, b8.trans (ho10.below b8.size (fun _ h => h))⟩
      · have hm1 : ((m : Int) == 0) = false := by simp; omega
        go_wp2_with (first
          | (go_at_call 15; refine (HBA.out _ HM.out).mono ?_; rintro e w4 ⟨rfl, hm4, ho4⟩; have HM4 := hide hm4; have HO4 := hide ho4; clear hm4 ho4)
          | (go_at_call 20; refine (HWA.out _ HM4.out).mono ?_; rintro e w5 ⟨rfl, rfl⟩)
          | (go_at_call 17; refine (arm_many (i := 0) HM4.out rfl 1 (m : Int)).mono ?_; rintro e w6 ⟨rfl, hm6, ho6⟩; have HM6 := hide hm6; have HO6 := hide ho6; clear hm6 ho6 HM4)
          | (go_at_call 21; refine (arms_dn false HM6.out (E4.out.trans (decide_eq_false hm0))).mono ?_; rintro e w7 ⟨rfl, rfl⟩)
          | (go_at_call 16; refine (show Calls Try.prog 16 #[ptr g, .int .u64 0] _ _ from crash_many (i := 0) HM6.out rfl (E8.out.more (by omega)) 0).mono ?_; rintro e w8 ⟨rfl, hm8, ho8⟩; have HM8 := hide hm8; have HO8 := hide ho8; clear hm8 ho8 HM6)
          | (go_at_call 21; refine (arms_dn false HM8.out E5.out).mono ?_; rintro e w9 ⟨rfl, rfl⟩)
          | (go_at_call 20; refine (HWB.out _ HM8.out).mono ?_; rintro e w9 ⟨rfl, rfl⟩)
          | (go_at_call 13; refine (HWR.out _ HM8.out).mono ?_; rintro e w10 ⟨rfl, ho10⟩))
        go_ret
        have b4 := HB.out.trans (HO4.out.below HB.out.size (fun _ h => h))
        have b6 := b4.trans (HO6.out.below b4.size (fun _ h => h))
        have b8 := b6.trans (HO8.out.below b6.size (fun _ h => h))
        exact ⟨rfl, b8.trans (ho10.below b8.size (fun _ h => h))⟩
end Go.Proofs.Ytjlfepmdnphenaa
