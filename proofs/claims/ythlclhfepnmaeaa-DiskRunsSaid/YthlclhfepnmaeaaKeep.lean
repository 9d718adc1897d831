/-
  The model of DiskRuns in memory: what lasts is laid down.
-/
import Derived.Test.YthlclhfepnmaeaaMod
import Derived.Test.YthlclhfepnmaeaaPhase
namespace Go.Proofs.Ythlclhfepnmaeaa
open Go.RowKit

theorem CallsIn.kept {w w' : World} {A : Option Addr} {n : Nat} {cs : List CallD} {S : Nat → Prop} (h : CallsIn w A n cs) (hk : Kept S w w') (hS : ∀ g, A = some ⟨g, 0, none⟩ → ¬ S g) : CallsIn w' A n cs := fun hn => by
  obtain ⟨gq, cur, e, hx, ht⟩ := h hn
  exact ⟨gq, cur, e, hk.blk hx (hS gq e), ht⟩
/-- The cells behind k calls. -/
def kput (m : Nat → Bool) (r : Nat) (cs : List CallD) (C : Array Value) : Nat → Array Value
  | 0 => C
  | k + 1 => if m k then (kput m r cs C k).setIfInBounds (r * 8 + (cs.getD k default).s.toNat) (.string ⟨(cs.getD k default).data.toArray⟩) else kput m r cs C k
theorem kput_size (m : Nat → Bool) (r : Nat) (cs : List CallD) (C : Array Value) (k : Nat) : (kput m r cs C k).size = C.size := by
  induction k with
  | zero => rfl
  | succ k ih => unfold kput; split <;> simp [ih]
theorem kput_next {m : Nat → Bool} {r : Nat} {cs : List CallD} {C : Array Value} {k : Nat} (h : k < cs.length) {x : CallD} (hx : cs[k] = x) : kput m r cs C (k + 1) = if m k then (kput m r cs C k).setIfInBounds (r * 8 + x.s.toNat) (.string ⟨x.data.toArray⟩) else kput m r cs C k := by
  have e : cs.getD k default = x := by rw [List.getD_eq_getElem?_getD, List.getElem?_eq_getElem h, hx]; rfl
  show (if m k then _ else _) = _
  rw [e]

set_option maxRecDepth 100000 in
set_option maxHeartbeats 8000000 in
theorem mkeep {w : World} {gm r B mask : Nat} (hr : r < 3) {PC : Array Value} (hblk : Blk w gm 32 PC) (hsz : PC.size = 30) {A : Option Addr} {n c : Nat} {cs : List CallD} (h1 : PC[24 + r]? = some (.slice A n c)) (hn : n = cs.length) (hc : CallsIn w A n cs) (hne : A ≠ some ⟨gm, 0, none⟩)
    (hf : ∀ x ∈ cs, x.Fit w B) (hB : B ≤ w.heap.size) (hBg : B ≤ gm) (hs : ∀ x ∈ cs, 0 ≤ x.s ∧ x.s < 8) (hn2 : n ≤ 200) :
    Calls Try.prog 7 #[ptr gm, .int .i64 (r : Int), .int .u64 (mask : Int)] w fun e w' => e = .returned (.tuple #[]) ∧ Blk w' gm 32 ((kput (bitOf mask) r cs PC n).setIfInBounds (24 + r) (.slice none 0 0)) ∧ Kept (fun k => k = gm) w w' := by
  have hr0 : (0 : Int) ≤ (r : Int) := by omega
  have hr1 : (r : Int) < 3 := by omega
  have hcell := hblk.cell _ _ h1
  have HC := hide hc
  have HF := hide hf
  have HS := hide hs
  have HN := hide hn
  have HK := hide hblk
  have HGL := hide hblk.lt
  have HSZ := hide hsz
  have HNA := hide hne
  have HBG := hide hBg
  clear hc hf hs hn hblk h1 hsz hne
  unfold ptr
  go_enter Try.func7, Try.ntmps7
  go_wp2
  clear hcell
  go_loopw [15] (fun i wr => ∃ k : Nat, k ≤ n ∧ i = .int .i64 k ∧ Blk wr gm 32 (kput (bitOf mask) r cs PC k) ∧ Kept (fun k => k = gm) w wr) (fun i _ => n - (intOf i).toNat)
  case atStart => exact ⟨0, Nat.zero_le _, rfl, HK.out, Kept.refl _ _⟩
  case round =>
    obtain ⟨k, hk, rfl, hp, hkp⟩ := hrel
    by_cases hlt : k < n
    · have hcw := HC.out.kept hkp (fun g e1 e2 => HNA.out (by rw [e1, show g = gm from e2]))
      have hbw : Below B w wr := hkp.below hB (fun k e => by rw [show k = gm from e]; exact HBG.out)
      obtain ⟨gq, hA, kd, cr, csv, A2, n2, c2, l, mask2, hck, hln, hn3, hrange, hrow⟩ := hcw.at HN.out hlt HF.out hbw
      subst hA
      have hcs := HS.out _ (List.getElem_mem (HN.out ▸ hlt))
      rw [hck] at hcs
      obtain ⟨sn, rfl⟩ : ∃ sn : Nat, csv = (sn : Int) := ⟨csv.toNat, by have := hcs.1; dsimp only at this; omega⟩
      have hsn : sn < 8 := by have := hcs.2; dsimp only at this; omega
      have HNX := hide (kput_next (m := bitOf mask) (r := r) (C := PC) (HN.out ▸ hlt) hck)
      have hps := kput_size (bitOf mask) r cs PC k
      rw [HSZ.out] at hps
      obtain ⟨P, hP⟩ : ∃ P, kput (bitOf mask) r cs PC k = P := ⟨_, rfl⟩
      rw [hP] at hp hps
      have HPP := hide hP
      have HP := hide hp
      have HPS := hide hps
      have HKP := hide hkp
      have HLN := hide hln
      have HRG := hide hrange
      have HRW := hide hrow
      have XIC := hide infoCall
      have XAC := hide (all_call kd cr (sn : Int) A2 n2 c2 (mask2 : Int))
      have HBL0 := hide (show gm < wr.heap.size from hp.lt)
      have HBB := hide (Nat.le_trans hB hkp.size)
      have hk0 : (0 : Int) ≤ (k : Int) := by omega
      have hk1 : (k : Int) < (n : Int) := by omega
      have hk2 : (k : Int) < 200 := by omega
      have hsn0 : (0 : Int) ≤ (sn : Int) := by omega
      have hsn1 : (sn : Int) < 8 := by omega
      have hbits := bit_at mask k
      clear hp hps hkp hln hrange hrow hck hcw hbw hcs hP
      cases hbit : bitOf mask k
      · rw [hbit] at hbits
        simp only [Bool.false_eq_true, if_false] at hbits
        have HBIT := hide hbit
        clear hbit
        go_wp2_with (first
          | ((with_reducible refine wpList_load_mid rfl 36 (.tmp 18) rfl gq (k * 5) rfl [.int .i64 kd, .int .i64 cr, .int .i64 (sn : Int), .slice A2 n2 c2, .int .u64 (mask2 : Int)] _ ?_ Try.underlying36 ?_ ?_ ?_); exact HRG.out; rfl; exact XIC.out)
          | ((with_reducible refine store_box 36 (.tmp 7) (.tmp 19) 5 _ #[.int .i64 kd, .int .i64 cr, .int .i64 (sn : Int), .slice A2 n2 c2, .int .u64 (mask2 : Int)] rfl rfl ?_ ?_ rfl rfl ?_ ?_ ?_); rfl; rfl; exact XIC.out; exact XAC.out; intro W2 hb2 hs2 hx2; have HP2 := hide (blk_below HP.out hb2); have HKP2 := hide (HKP.out.trans_same (Kept.of_below (S := fun k => k = gm) hb2)); clear hb2 hs2 hx2))
        go_roundw
        case rel =>
          refine ⟨k + 1, by omega, by go_num, ?_, HKP2.out⟩
          rw [HNX.out, HBIT.out, HPP.out]
          exact HP2.out
        case measure => simp [intOf]; omega
      · rw [hbit] at hbits
        simp only [if_true] at hbits
        have HBIT := hide hbit
        clear hbit
        go_wp2_with (first
          | ((with_reducible refine wpList_load_mid rfl 36 (.tmp 18) rfl gq (k * 5) rfl [.int .i64 kd, .int .i64 cr, .int .i64 (sn : Int), .slice A2 n2 c2, .int .u64 (mask2 : Int)] _ ?_ Try.underlying36 ?_ ?_ ?_); exact HRG.out; rfl; exact XIC.out)
          | ((with_reducible refine store_box 36 (.tmp 7) (.tmp 19) 5 _ #[.int .i64 kd, .int .i64 cr, .int .i64 (sn : Int), .slice A2 n2 c2, .int .u64 (mask2 : Int)] rfl rfl ?_ ?_ rfl rfl ?_ ?_ ?_); rfl; rfl; exact XIC.out; exact XAC.out; intro W2 hb2 hs2 hx2; have HP2 := hide (blk_below HP.out hb2); have HKP2 := hide (HKP.out.trans_same (Kept.of_below (S := fun k => k = gm) hb2)); have hc2 := hx2.cell 2 _ rfl; have hc3 := hx2.cell 3 _ rfl; have HBL := hide hx2.lt; have HNE := hide (show ¬ wr.heap.size = gm from fun e => absurd HBL0.out (by rw [e]; exact Nat.lt_irrefl _)); have HRW2 := hide (HRW.out.below (hb2.mono HBB.out)); have HBW2 := hide (Nat.le_trans HBB.out hb2.size); clear hb2 hs2 hx2))
        refine region_phases (ops := _) (valV [some (.pointer (some ⟨gm, 0, none⟩)), some (.int .i64 (r : Int)), some (.pointer (some ⟨wr.heap.size, 2, none⟩)), some (.int .i64 (sn : Int)), some (.pointer (some ⟨wr.heap.size, 3, none⟩)), some (.slice A2 n2 c2), some (.string ⟨l.toArray⟩), some (.pointer (some ⟨gm, 0, none⟩)), some (.pointer (some ⟨gm, 0, none⟩)), some (.pointer (some ⟨gm, r * 8, none⟩)), some (.pointer (some ⟨gm, r * 8 + sn, none⟩)), none]) (phased [⟨11, 10, fun _ w2 => Blk w2 gm 32 (P.setIfInBounds (r * 8 + sn) (.string ⟨l.toArray⟩)) ∧ Kept (fun k => k = gm) W2 w2⟩] (fun w2 => Blk w2 gm 32 P ∧ Kept (fun k => k = gm) W2 w2)) (by kernel_rfl) (by kernel_rfl) (by kernel_rfl) (by kernel_rfl) (phased_ext (by kernel_rfl)) ?_ ?_ ?_
        · exact ⟨HP2.out.drew, (Kept.refl _ _).drew⟩
        · intro i o ho L a w2 hph hsz hLi hnot hyes old dep
          match i, ho with
          | 0, ho =>
            obtain rfl := Option.some.inj ho
            rw [if_pos (wanted_none rfl)]
            have o0 := old 0 (by kernel_rfl)
            refine wp_yields (v := .pointer (some ⟨gm, 0, none⟩)) (w' := w2) ?_ (fun u hu => Option.some.inj (Option.some.inj hu)) (phased_quiet hLi (by rfl) hph)
            clear dep old ho hsz hph hnot hyes hLi
            go_simp
          | 1, ho =>
            obtain rfl := Option.some.inj ho
            rw [if_pos (wanted_none rfl)]
            have o1 := old 1 (by kernel_rfl)
            refine wp_yields (v := .int .i64 (r : Int)) (w' := w2) ?_ (fun u hu => Option.some.inj (Option.some.inj hu)) (phased_quiet hLi (by rfl) hph)
            clear dep old ho hsz hph hnot hyes hLi
            go_simp
          | 2, ho =>
            obtain rfl := Option.some.inj ho
            rw [if_pos (wanted_none rfl)]
            have o7 := old 7 (by kernel_rfl)
            refine wp_yields (v := .pointer (some ⟨wr.heap.size, 2, none⟩)) (w' := w2) ?_ (fun u hu => Option.some.inj (Option.some.inj hu)) (phased_quiet hLi (by rfl) hph)
            clear dep old ho hsz hph hnot hyes hLi
            go_simp
          | 3, ho =>
            obtain rfl := Option.some.inj ho
            rw [if_pos (wanted_none rfl)]
            have d2 : a.tmps.getD 29 undef = .pointer (some ⟨wr.heap.size, 2, none⟩) := dep 2 _ _ (by kernel_rfl) rfl rfl _ rfl
            have e2 : a.tmps[29]?.getD undef = .pointer (some ⟨wr.heap.size, 2, none⟩) := (Array.getD_eq_getD_getElem? ..).symm.trans d2
            have hkk : Kept (fun k => k = gm) W2 w2 := phased_all (R := fun w2 => Kept (fun k => k = gm) W2 w2) (fun q hq v w h => by simp only [List.mem_cons, List.not_mem_nil, or_false] at hq; rcases hq with rfl; exact h.2) (fun w h => h.2) hph
            have hcc := (hkk.cell (p := ⟨wr.heap.size, 2, none⟩) HBL.out HNE.out).trans hc2
            refine wp_yields (v := .int .i64 (sn : Int)) (w' := w2) ?_ (fun u hu => Option.some.inj (Option.some.inj hu)) (phased_quiet hLi (by rfl) hph)
            clear dep old ho hsz hph hnot hyes hLi hkk
            go_simp
          | 4, ho =>
            obtain rfl := Option.some.inj ho
            rw [if_pos (wanted_none rfl)]
            have o7 := old 7 (by kernel_rfl)
            refine wp_yields (v := .pointer (some ⟨wr.heap.size, 3, none⟩)) (w' := w2) ?_ (fun u hu => Option.some.inj (Option.some.inj hu)) (phased_quiet hLi (by rfl) hph)
            clear dep old ho hsz hph hnot hyes hLi
            go_simp
          | 5, ho =>
            obtain rfl := Option.some.inj ho
            rw [if_pos (wanted_none rfl)]
            have d4 : a.tmps.getD 31 undef = .pointer (some ⟨wr.heap.size, 3, none⟩) := dep 4 _ _ (by kernel_rfl) rfl rfl _ rfl
            have e4 : a.tmps[31]?.getD undef = .pointer (some ⟨wr.heap.size, 3, none⟩) := (Array.getD_eq_getD_getElem? ..).symm.trans d4
            have hkk : Kept (fun k => k = gm) W2 w2 := phased_all (R := fun w2 => Kept (fun k => k = gm) W2 w2) (fun q hq v w h => by simp only [List.mem_cons, List.not_mem_nil, or_false] at hq; rcases hq with rfl; exact h.2) (fun w h => h.2) hph
            have hcc := (hkk.cell (p := ⟨wr.heap.size, 3, none⟩) HBL.out HNE.out).trans hc3
            refine wp_yields (v := .slice A2 n2 c2) (w' := w2) ?_ (fun u hu => Option.some.inj (Option.some.inj hu)) (phased_quiet hLi (by rfl) hph)
            clear dep old ho hsz hph hnot hyes hLi hkk
            go_simp
          | 6, ho =>
            obtain rfl := Option.some.inj ho
            rw [if_pos (wanted_none rfl)]
            have d5 : a.tmps.getD 32 undef = .slice A2 n2 c2 := dep 5 _ _ (by kernel_rfl) rfl rfl _ rfl
            have e5 : a.tmps[32]?.getD undef = .slice A2 n2 c2 := (Array.getD_eq_getD_getElem? ..).symm.trans d5
            have hkk : Kept (fun k => k = gm) W2 w2 := phased_all (R := fun w2 => Kept (fun k => k = gm) W2 w2) (fun q hq v w h => by simp only [List.mem_cons, List.not_mem_nil, or_false] at hq; rcases hq with rfl; exact h.2) (fun w h => h.2) hph
            have hcv := conv_rdn HLN.out ((hkk.row HRW2.out HBW2.out (fun k hk e => by rw [e] at hk; exact absurd hk (Nat.not_lt.2 HBG.out))).more (Nat.le_trans HBW2.out hkk.size))
            refine wp_yields (v := .string ⟨l.toArray⟩) (w' := w2) ?_ (fun u hu => Option.some.inj (Option.some.inj hu)) (phased_quiet hLi (by rfl) hph)
            clear dep old ho hsz hph hnot hyes hLi hkk
            go_simp
          | 7, ho =>
            obtain rfl := Option.some.inj ho
            rw [if_pos (wanted_none rfl)]
            have d0 : a.tmps.getD 27 undef = .pointer (some ⟨gm, 0, none⟩) := dep 0 _ _ (by kernel_rfl) rfl rfl _ rfl
            have e0 : a.tmps[27]?.getD undef = .pointer (some ⟨gm, 0, none⟩) := (Array.getD_eq_getD_getElem? ..).symm.trans d0
            refine wp_yields (v := .pointer (some ⟨gm, 0, none⟩)) (w' := w2) ?_ (fun u hu => Option.some.inj (Option.some.inj hu)) (phased_quiet hLi (by rfl) hph)
            clear dep old ho hsz hph hnot hyes hLi
            go_simp
          | 8, ho =>
            obtain rfl := Option.some.inj ho
            rw [if_pos (wanted_none rfl)]
            have d7 : a.tmps.getD 34 undef = .pointer (some ⟨gm, 0, none⟩) := dep 7 _ _ (by kernel_rfl) rfl rfl _ rfl
            have e7 : a.tmps[34]?.getD undef = .pointer (some ⟨gm, 0, none⟩) := (Array.getD_eq_getD_getElem? ..).symm.trans d7
            refine wp_yields (v := .pointer (some ⟨gm, 0, none⟩)) (w' := w2) ?_ (fun u hu => Option.some.inj (Option.some.inj hu)) (phased_quiet hLi (by rfl) hph)
            clear dep old ho hsz hph hnot hyes hLi
            go_simp
          | 9, ho =>
            obtain rfl := Option.some.inj ho
            rw [if_pos (wanted_none rfl)]
            have d1 : a.tmps.getD 28 undef = .int .i64 (r : Int) := dep 1 _ _ (by kernel_rfl) rfl rfl _ rfl
            have e1 : a.tmps[28]?.getD undef = .int .i64 (r : Int) := (Array.getD_eq_getD_getElem? ..).symm.trans d1
            have d8 : a.tmps.getD 35 undef = .pointer (some ⟨gm, 0, none⟩) := dep 8 _ _ (by kernel_rfl) rfl rfl _ rfl
            have e8 : a.tmps[35]?.getD undef = .pointer (some ⟨gm, 0, none⟩) := (Array.getD_eq_getD_getElem? ..).symm.trans d8
            refine wp_yields (v := .pointer (some ⟨gm, r * 8, none⟩)) (w' := w2) ?_ (fun u hu => Option.some.inj (Option.some.inj hu)) (phased_quiet hLi (by rfl) hph)
            clear dep old ho hsz hph hnot hyes hLi
            go_simp
          | 10, ho =>
            obtain rfl := Option.some.inj ho
            rw [if_pos (wanted_none rfl)]
            have d3 : a.tmps.getD 30 undef = .int .i64 (sn : Int) := dep 3 _ _ (by kernel_rfl) rfl rfl _ rfl
            have e3 : a.tmps[30]?.getD undef = .int .i64 (sn : Int) := (Array.getD_eq_getD_getElem? ..).symm.trans d3
            have d9 : a.tmps.getD 36 undef = .pointer (some ⟨gm, r * 8, none⟩) := dep 9 _ _ (by kernel_rfl) rfl rfl _ rfl
            have e9 : a.tmps[36]?.getD undef = .pointer (some ⟨gm, r * 8, none⟩) := (Array.getD_eq_getD_getElem? ..).symm.trans d9
            refine wp_yields (v := .pointer (some ⟨gm, r * 8 + sn, none⟩)) (w' := w2) ?_ (fun u hu => Option.some.inj (Option.some.inj hu)) (phased_quiet hLi (by rfl) hph)
            clear dep old ho hsz hph hnot hyes hLi
            go_simp
          | 11, ho =>
            obtain rfl := Option.some.inj ho
            rw [if_pos (wanted_none rfl)]
            have d6 : a.tmps.getD 33 undef = .string ⟨l.toArray⟩ := dep 6 _ _ (by kernel_rfl) rfl rfl _ rfl
            have e6 : a.tmps[33]?.getD undef = .string ⟨l.toArray⟩ := (Array.getD_eq_getD_getElem? ..).symm.trans d6
            have d10 : a.tmps.getD 37 undef = .pointer (some ⟨gm, r * 8 + sn, none⟩) := dep 10 _ _ (by kernel_rfl) rfl rfl _ rfl
            have e10 : a.tmps[37]?.getD undef = .pointer (some ⟨gm, r * 8 + sn, none⟩) := (Array.getD_eq_getD_getElem? ..).symm.trans d10
            have hB : Blk w2 gm 32 P ∧ Kept (fun k => k = gm) W2 w2 := phased_first (fun p hp => by simp only [List.mem_cons, List.not_mem_nil, or_false] at hp; rcases hp with rfl; exact hLi) hph
            have hlt2 : r * 8 + sn < P.size := by rw [HPS.out]; omega
            have hc := hB.1.cell (r * 8 + sn) _ (Array.getElem?_eq_getElem hlt2)
            have hf := hB.1.frozen (r * 8 + sn)
            refine wp_skips (w' := w2.setCell ⟨gm, r * 8 + sn, none⟩ (.string ⟨l.toArray⟩)) ?_ (fun u hu => by cases Option.some.inj hu) ?_
            · generalize P[r * 8 + sn]'(_) = cold at hc
              clear dep old ho hsz hph hnot hyes hLi hB
              go_simp
            · unfold phased
              rw [if_pos (by simp [also])]
              exact ⟨by simp [also, hyes 10 (by kernel_rfl)], hB.1.set_ _ _, hB.2.trans_same (Kept.setCell w2 ⟨gm, r * 8 + sn, none⟩ _)⟩
          | i + 12, ho => exact absurd ho (by simp)
        · intro a w8 hph hsz hdf fin keep
          unfold phased at hph
          rw [if_pos rfl] at hph
          obtain ⟨_, hp8, hk8⟩ := hph
          obtain ⟨tm, df⟩ := a
          have hx : tm = #[tm.getD 0 undef, tm.getD 1 undef, tm.getD 2 undef, tm.getD 3 undef, tm.getD 4 undef, tm.getD 5 undef, tm.getD 6 undef, tm.getD 7 undef, tm.getD 8 undef, tm.getD 9 undef, tm.getD 10 undef, tm.getD 11 undef, tm.getD 12 undef, tm.getD 13 undef, tm.getD 14 undef, tm.getD 15 undef, tm.getD 16 undef, tm.getD 17 undef, tm.getD 18 undef, tm.getD 19 undef, tm.getD 20 undef, tm.getD 21 undef, tm.getD 22 undef, tm.getD 23 undef, tm.getD 24 undef, tm.getD 25 undef, tm.getD 26 undef, tm.getD 27 undef, tm.getD 28 undef, tm.getD 29 undef, tm.getD 30 undef, tm.getD 31 undef, tm.getD 32 undef, tm.getD 33 undef, tm.getD 34 undef, tm.getD 35 undef, tm.getD 36 undef, tm.getD 37 undef, tm.getD 38 undef, tm.getD 39 undef, tm.getD 40 undef, tm.getD 41 undef, tm.getD 42 undef, tm.getD 43 undef] := slots_of tm 44 hsz
          generalize tm.getD 27 undef = y27 at hx
          generalize tm.getD 28 undef = y28 at hx
          generalize tm.getD 29 undef = y29 at hx
          generalize tm.getD 30 undef = y30 at hx
          generalize tm.getD 31 undef = y31 at hx
          generalize tm.getD 32 undef = y32 at hx
          generalize tm.getD 33 undef = y33 at hx
          generalize tm.getD 34 undef = y34 at hx
          generalize tm.getD 35 undef = y35 at hx
          generalize tm.getD 36 undef = y36 at hx
          generalize tm.getD 37 undef = y37 at hx
          rw [show tm.getD 0 undef = _ from keep 0 (by kernel_rfl)] at hx
          rw [show tm.getD 1 undef = _ from keep 1 (by kernel_rfl)] at hx
          rw [show tm.getD 2 undef = _ from keep 2 (by kernel_rfl)] at hx
          rw [show tm.getD 3 undef = _ from keep 3 (by kernel_rfl)] at hx
          rw [show tm.getD 4 undef = _ from keep 4 (by kernel_rfl)] at hx
          rw [show tm.getD 5 undef = _ from keep 5 (by kernel_rfl)] at hx
          rw [show tm.getD 6 undef = _ from keep 6 (by kernel_rfl)] at hx
          rw [show tm.getD 7 undef = _ from keep 7 (by kernel_rfl)] at hx
          rw [show tm.getD 8 undef = _ from keep 8 (by kernel_rfl)] at hx
          rw [show tm.getD 9 undef = _ from keep 9 (by kernel_rfl)] at hx
          rw [show tm.getD 10 undef = _ from keep 10 (by kernel_rfl)] at hx
          rw [show tm.getD 11 undef = _ from keep 11 (by kernel_rfl)] at hx
          rw [show tm.getD 12 undef = _ from keep 12 (by kernel_rfl)] at hx
          rw [show tm.getD 13 undef = _ from keep 13 (by kernel_rfl)] at hx
          rw [show tm.getD 14 undef = _ from keep 14 (by kernel_rfl)] at hx
          rw [show tm.getD 15 undef = _ from keep 15 (by kernel_rfl)] at hx
          rw [show tm.getD 16 undef = _ from keep 16 (by kernel_rfl)] at hx
          rw [show tm.getD 17 undef = _ from keep 17 (by kernel_rfl)] at hx
          rw [show tm.getD 18 undef = _ from keep 18 (by kernel_rfl)] at hx
          rw [show tm.getD 19 undef = _ from keep 19 (by kernel_rfl)] at hx
          rw [show tm.getD 20 undef = _ from keep 20 (by kernel_rfl)] at hx
          rw [show tm.getD 21 undef = _ from keep 21 (by kernel_rfl)] at hx
          rw [show tm.getD 22 undef = _ from keep 22 (by kernel_rfl)] at hx
          rw [show tm.getD 23 undef = _ from keep 23 (by kernel_rfl)] at hx
          rw [show tm.getD 24 undef = _ from keep 24 (by kernel_rfl)] at hx
          rw [show tm.getD 25 undef = _ from keep 25 (by kernel_rfl)] at hx
          rw [show tm.getD 26 undef = _ from keep 26 (by kernel_rfl)] at hx
          rw [show tm.getD 38 undef = _ from keep 38 (by kernel_rfl)] at hx
          rw [show tm.getD 39 undef = _ from keep 39 (by kernel_rfl)] at hx
          rw [show tm.getD 40 undef = _ from keep 40 (by kernel_rfl)] at hx
          rw [show tm.getD 41 undef = _ from keep 41 (by kernel_rfl)] at hx
          rw [show tm.getD 42 undef = _ from keep 42 (by kernel_rfl)] at hx
          rw [show tm.getD 43 undef = _ from keep 43 (by kernel_rfl)] at hx
          simp only [Array.getD_eq_getD_getElem?, List.getElem?_toArray, List.getElem?_cons_succ, List.getElem?_cons_zero, Option.getD_some] at hx
          dsimp only at hdf
          clear fin keep hsz
          subst hx hdf
          have HP8 := hide hp8
          have HK8 := hide hk8
          clear hp8 hk8 hc2 hc3
          go_wp2
          go_roundw
          case rel =>
            refine ⟨k + 1, by omega, by go_num, ?_, HKP2.out.trans_same HK8.out⟩
            rw [HNX.out, HBIT.out, HPP.out]
            exact HP8.out
          case measure => simp [intOf]; omega
    · have hkN : n = k := by omega
      subst hkN
      have hps := kput_size (bitOf mask) r cs PC n
      rw [HSZ.out] at hps
      obtain ⟨P, hP⟩ : ∃ P, kput (bitOf mask) r cs PC n = P := ⟨_, rfl⟩
      rw [hP] at hp hps
      have HPP := hide hP
      have hlt2 : 24 + r < P.size := by omega
      have hcell := hp.cell (24 + r) _ (Array.getElem?_eq_getElem hlt2)
      have hfr := hp.frozen (24 + r)
      have HP := hide hp
      have HKP := hide hkp
      generalize P[24 + r]'(_) = cold at hcell
      clear hp hkp hP hps hlt2
      go_wp2
      go_end0
      refine ⟨rfl, ?_, HKP.out.trans_same (Kept.setCell _ ⟨gm, 24 + r, none⟩ _)⟩
      rw [HPP.out]
      exact HP.out.set_ _ _
end Go.Proofs.Ythlclhfepnmaeaa
