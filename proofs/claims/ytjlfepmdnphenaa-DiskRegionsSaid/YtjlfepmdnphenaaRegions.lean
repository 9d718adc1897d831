/-
  The walk of DiskRegions.
-/
import Derived.Test.YtjlfepmdnphenaaRegs
namespace Go.Proofs.Ytjlfepmdnphenaa
open Go.RowKit

theorem blk_of_range {w : World} {b o : Nat} {u : Value} (h : w.cell? ⟨b, o, none⟩ = some u) : b < w.heap.size := by
  rcases Nat.lt_or_ge b w.heap.size with h1 | h1
  · exact h1
  · unfold World.cell? at h
    simp only [Array.getElem?_eq_none h1] at h
    cases h

/-- The greater of two lengths. -/
theorem wpList_max {P : Program} {ops : Array Oper} {rest : List Oper} {o : Oper} {a : Act} {w : World} {Q : Exit → Act → World → Prop} (x y : Operand) (m n : Nat) (t : TypeId) (hgd : o.guard = none) (ho : o.op = .call { callee := .builtin .max, args := #[x, y], argTypes := #[t, t] })
    (hx : a.eval x = .int .i64 (m : Int)) (hy : a.eval y = .int .i64 (n : Int)) (h : ∀ T : Nat, m ≤ T → n ≤ T → (T = m ∨ T = n) → wpList P ops Q rest (a.put o.dst (.int .i64 (T : Int))) w) : wpList P ops Q (o :: rest) a w := by
  refine wpList_plain hgd fun K hK => ?_
  unfold Oper.wp execOp
  simp only [ho, resolve, invoke, builtin, Sem.run_bind, Sem.run_pure, Result.andThen_ok, List.map_toArray, List.map_cons, List.map_nil, hx, hy, run_max_int2]
  by_cases hgt : (n : Int) > (m : Int)
  · rw [if_pos hgt]
    exact hK _ _ (h n (by omega) (Nat.le_refl _) (.inr rfl))
  · rw [if_neg hgt]
    exact hK _ _ (h m (Nat.le_refl _) (by omega) (.inl rfl))
set_option maxRecDepth 100000 in
set_option maxHeartbeats 16000000 in
theorem regions_walk (va : Value) (ca : List CallD) (vb : Value) (cb : List CallD) (mask0 : Int) (w : World) (hva : CallRow w w.heap.size va ca) (hvb : CallRow w w.heap.size vb cb) (wm : (Lit.int .u64 mask0).wf = true) :
    Calls Try.prog 4 #[va, vb, .int .u64 mask0] w fun e w' => e = .returned (.bool true) ∧ Below w.heap.size w w' := by
  obtain ⟨mk, rfl, hmk⟩ := wf_u64 wm
  clear wm
  obtain ⟨A, c, rfl, _, _⟩ := id hva
  obtain ⟨A', c', rfl, _, _⟩ := id hvb
  by_cases hlong : 100 < ca.length
  · have hl : (100 : Int) < (ca.length : Int) := by omega
    go_enter Try.func4, Try.ntmps4
    go_wp2_with (go_at_call 11; refine (fit_any _).mono ?_; rintro e w1 ⟨rfl, hb1⟩)
    go_ret
    exact ⟨rfl, hb1⟩
  by_cases hlongb : 100 < cb.length
  · have hl : decide ((100 : Int) < (ca.length : Int)) = false := by simp; omega
    have hlb : (100 : Int) < (cb.length : Int) := by omega
    go_enter Try.func4, Try.ntmps4
    go_wp2_with (go_at_call 11; refine (fit_any _).mono ?_; rintro e w1 ⟨rfl, hb1⟩)
    go_ret
    exact ⟨rfl, hb1⟩
  have h100 : ca.length ≤ 100 := by omega
  have h100b : cb.length ≤ 100 := by omega
  have hl : decide ((100 : Int) < (ca.length : Int)) = false := by simp; omega
  have hlb : decide ((100 : Int) < (cb.length : Int)) = false := by simp; omega
  have HVA := hide hva
  have HVB := hide hvb
  clear hva hvb hlong hlongb
  go_enter Try.func4, Try.ntmps4
  go_wp2_with (first
    | (go_at_call 11; refine (fit_any _).mono ?_; rintro e w1 ⟨rfl, hb1⟩; have HM0 := hide (show Many w1 (fun k => k < w.heap.size) [] from Many.nil (fun k h => Nat.lt_of_lt_of_le h hb1.size)); have HB1 := hide hb1; clear hb1)
    | (go_at_call 12; refine (rg_new1 HM0.out).mono ?_; rintro e w2 ⟨d, rfl, hm2, hb2⟩; have HM2 := hide hm2; have HB2 := hide (HB1.out.trans (hb2.mono HB1.out.size)); clear hm2 hb2)
    | (go_at_call 12; refine (rg_new2 HM2.out).mono ?_; rintro e w3 ⟨e, rfl, hm3, hb3⟩; have HM3 := hide hm3; have HB3 := hide (HB2.out.trans (hb3.mono HB2.out.size)); clear hm3 hb3)
    | ((with_reducible refine wpList_max (.tmp 30) (.tmp 32) ca.length cb.length 3 rfl rfl ?_ ?_ ?_); rfl; rfl; intro TT hT1 hT2 hT3; have HT := hide (And.intro hT1 (And.intro hT2 hT3)); clear hT1 hT2 hT3))
  have hT : TT ≤ 100 := by have := HT.out; omega
  go_loopw [34] (fun i wr => ∃ (k : Nat) (D E : Ds), k ≤ TT ∧ i = .int .i64 k ∧ Pair D E ∧ Small D (2 * k) ∧ Small E k ∧ Many wr (fun k => k < w.heap.size) [(d, D), (e, E)] ∧ Below w.heap.size w wr) (fun i _ => TT - (intOf i).toNat)
  case atStart => exact ⟨0, _, _, Nat.zero_le _, rfl, Pair.new, Small.new 2 8, Small.new 2 8, HM3.out, HB3.out⟩
  case round =>
    obtain ⟨k, D, E, hk, rfl, hp, hsd, hse, hm, hb⟩ := hrel
    by_cases hlt : k < TT
    · have HP := hide hp
      have HM := hide hm
      have HB := hide hb
      have HSD0 := hide hsd
      have HSE0 := hide hse
      have hk0 : (0 : Int) ≤ (k : Int) := by omega
      have hk1 : (k : Int) < (TT : Int) := by omega
      have hk2 : (k : Int) < 100 := by omega
      clear hp hm hb hsd hse
      by_cases hbi : k < cb.length
      · obtain ⟨b, o, cap, he, kd, r, s, A2, n, c2, l, mask, hck, hln, -, -, hrange, hrow, -, -, -⟩ := call_at HVB.out (Below.refl _ w) hbi
        injection he with e1 e2 e3
        subst e1
        subst e3
        have hcs := hrange 2 _ rfl
        have hcd := hrange 3 _ rfl
        have hck0 : w.cell? ⟨b, o + k * 5, none⟩ = some (.int .i64 kd) := hrange 0 _ rfl
        have hbB := blk_of_range hck0
        have HRW := hide hrow
        have HLN := hide hln
        have hix : (k : Int) < (cb.length : Int) := by omega
        clear hrange hrow hln hck
        have HSD := hide (HSD0.out.more (show 2 * k ≤ 1000000 by omega))
        go_wp2
        refine region_phases (ops := _) (valV [some (ptr d), some (.slice (some ⟨b, o, none⟩) cb.length c'), some (.int .i64 (k : Int)), some (.pointer (some ⟨b, o + k * 5, none⟩)), some (.pointer (some ⟨b, o + k * 5 + 2, none⟩)), some (.int .i64 s), some (.slice (some ⟨b, o, none⟩) cb.length c'), some (.int .i64 (k : Int)), some (.pointer (some ⟨b, o + k * 5, none⟩)), some (.pointer (some ⟨b, o + k * 5 + 3, none⟩)), some (.slice A2 n c2), none]) (phased [⟨11, 11, fun _ w2 => Many w2 (fun k => k < w.heap.size) [(d, D.wr 1 s l), (e, E)] ∧ Below w.heap.size w w2⟩] (fun w2 => Many w2 (fun k => k < w.heap.size) [(d, D), (e, E)] ∧ Below w.heap.size w w2)) (by kernel_rfl) (by kernel_rfl) (by kernel_rfl) (by kernel_rfl) (phased_ext (by kernel_rfl)) ?_ ?_ ?_
        · exact ⟨HM.out.drew, HB.out.drew⟩
        · intro i o ho L a w2 hph hsz hLi hnot hyes old dep
          match i, ho with
          | 0, ho =>
            obtain rfl := Option.some.inj ho
            rw [if_pos (wanted_none rfl)]
            have o7 := old 7 (by kernel_rfl)
            refine wp_yields (v := ptr d) (w' := w2) ?_ (fun u hu => Option.some.inj (Option.some.inj hu)) (phased_quiet hLi (by rfl) hph)
            clear dep old ho hsz hph hnot hyes hLi
            go_simp
          | 1, ho =>
            obtain rfl := Option.some.inj ho
            rw [if_pos (wanted_none rfl)]
            have o1 := old 1 (by kernel_rfl)
            refine wp_yields (v := .slice (some ⟨b, o, none⟩) cb.length c') (w' := w2) ?_ (fun u hu => Option.some.inj (Option.some.inj hu)) (phased_quiet hLi (by rfl) hph)
            clear dep old ho hsz hph hnot hyes hLi
            go_simp
          | 2, ho =>
            obtain rfl := Option.some.inj ho
            rw [if_pos (wanted_none rfl)]
            have o9 := old 9 (by kernel_rfl)
            refine wp_yields (v := .int .i64 (k : Int)) (w' := w2) ?_ (fun u hu => Option.some.inj (Option.some.inj hu)) (phased_quiet hLi (by rfl) hph)
            clear dep old ho hsz hph hnot hyes hLi
            go_simp
          | 3, ho =>
            obtain rfl := Option.some.inj ho
            rw [if_pos (wanted_none rfl)]
            have d1 : a.tmps.getD 42 undef = .slice (some ⟨b, o, none⟩) cb.length c' := dep 1 _ _ (by kernel_rfl) rfl rfl _ rfl
            have e1 : a.tmps[42]?.getD undef = .slice (some ⟨b, o, none⟩) cb.length c' := (Array.getD_eq_getD_getElem? ..).symm.trans d1
            have d2 : a.tmps.getD 43 undef = .int .i64 (k : Int) := dep 2 _ _ (by kernel_rfl) rfl rfl _ rfl
            have e2 : a.tmps[43]?.getD undef = .int .i64 (k : Int) := (Array.getD_eq_getD_getElem? ..).symm.trans d2
            refine wp_yields (v := .pointer (some ⟨b, o + k * 5, none⟩)) (w' := w2) ?_ (fun u hu => Option.some.inj (Option.some.inj hu)) (phased_quiet hLi (by rfl) hph)
            clear dep old ho hsz hph hnot hyes hLi
            go_simp
          | 4, ho =>
            obtain rfl := Option.some.inj ho
            rw [if_pos (wanted_none rfl)]
            have d3 : a.tmps.getD 44 undef = .pointer (some ⟨b, o + k * 5, none⟩) := dep 3 _ _ (by kernel_rfl) rfl rfl _ rfl
            have e3 : a.tmps[44]?.getD undef = .pointer (some ⟨b, o + k * 5, none⟩) := (Array.getD_eq_getD_getElem? ..).symm.trans d3
            refine wp_yields (v := .pointer (some ⟨b, o + k * 5 + 2, none⟩)) (w' := w2) ?_ (fun u hu => Option.some.inj (Option.some.inj hu)) (phased_quiet hLi (by rfl) hph)
            clear dep old ho hsz hph hnot hyes hLi
            go_simp
          | 5, ho =>
            obtain rfl := Option.some.inj ho
            rw [if_pos (wanted_none rfl)]
            have d4 : a.tmps.getD 45 undef = .pointer (some ⟨b, o + k * 5 + 2, none⟩) := dep 4 _ _ (by kernel_rfl) rfl rfl _ rfl
            have e4 : a.tmps[45]?.getD undef = .pointer (some ⟨b, o + k * 5 + 2, none⟩) := (Array.getD_eq_getD_getElem? ..).symm.trans d4
            have hA : Below w.heap.size w w2 := phased_all (R := fun w2 => Below w.heap.size w w2) (fun q hq v w h => by simp only [List.mem_cons, List.not_mem_nil, or_false] at hq; rcases hq with rfl <;> exact h.2) (fun w h => h.2) hph
            have hcc := (hA.cell (p := ⟨b, o + k * 5 + 2, none⟩) hbB).trans hcs
            refine wp_yields (v := .int .i64 s) (w' := w2) ?_ (fun u hu => Option.some.inj (Option.some.inj hu)) (phased_quiet hLi (by rfl) hph)
            clear dep old ho hsz hph hA hnot hyes hLi
            go_simp
          | 6, ho =>
            obtain rfl := Option.some.inj ho
            rw [if_pos (wanted_none rfl)]
            have o1 := old 1 (by kernel_rfl)
            refine wp_yields (v := .slice (some ⟨b, o, none⟩) cb.length c') (w' := w2) ?_ (fun u hu => Option.some.inj (Option.some.inj hu)) (phased_quiet hLi (by rfl) hph)
            clear dep old ho hsz hph hnot hyes hLi
            go_simp
          | 7, ho =>
            obtain rfl := Option.some.inj ho
            rw [if_pos (wanted_none rfl)]
            have o9 := old 9 (by kernel_rfl)
            refine wp_yields (v := .int .i64 (k : Int)) (w' := w2) ?_ (fun u hu => Option.some.inj (Option.some.inj hu)) (phased_quiet hLi (by rfl) hph)
            clear dep old ho hsz hph hnot hyes hLi
            go_simp
          | 8, ho =>
            obtain rfl := Option.some.inj ho
            rw [if_pos (wanted_none rfl)]
            have d6 : a.tmps.getD 47 undef = .slice (some ⟨b, o, none⟩) cb.length c' := dep 6 _ _ (by kernel_rfl) rfl rfl _ rfl
            have e6 : a.tmps[47]?.getD undef = .slice (some ⟨b, o, none⟩) cb.length c' := (Array.getD_eq_getD_getElem? ..).symm.trans d6
            have d7 : a.tmps.getD 48 undef = .int .i64 (k : Int) := dep 7 _ _ (by kernel_rfl) rfl rfl _ rfl
            have e7 : a.tmps[48]?.getD undef = .int .i64 (k : Int) := (Array.getD_eq_getD_getElem? ..).symm.trans d7
            refine wp_yields (v := .pointer (some ⟨b, o + k * 5, none⟩)) (w' := w2) ?_ (fun u hu => Option.some.inj (Option.some.inj hu)) (phased_quiet hLi (by rfl) hph)
            clear dep old ho hsz hph hnot hyes hLi
            go_simp
          | 9, ho =>
            obtain rfl := Option.some.inj ho
            rw [if_pos (wanted_none rfl)]
            have d8 : a.tmps.getD 49 undef = .pointer (some ⟨b, o + k * 5, none⟩) := dep 8 _ _ (by kernel_rfl) rfl rfl _ rfl
            have e8 : a.tmps[49]?.getD undef = .pointer (some ⟨b, o + k * 5, none⟩) := (Array.getD_eq_getD_getElem? ..).symm.trans d8
            refine wp_yields (v := .pointer (some ⟨b, o + k * 5 + 3, none⟩)) (w' := w2) ?_ (fun u hu => Option.some.inj (Option.some.inj hu)) (phased_quiet hLi (by rfl) hph)
            clear dep old ho hsz hph hnot hyes hLi
            go_simp
          | 10, ho =>
            obtain rfl := Option.some.inj ho
            rw [if_pos (wanted_none rfl)]
            have d9 : a.tmps.getD 50 undef = .pointer (some ⟨b, o + k * 5 + 3, none⟩) := dep 9 _ _ (by kernel_rfl) rfl rfl _ rfl
            have e9 : a.tmps[50]?.getD undef = .pointer (some ⟨b, o + k * 5 + 3, none⟩) := (Array.getD_eq_getD_getElem? ..).symm.trans d9
            have hA : Below w.heap.size w w2 := phased_all (R := fun w2 => Below w.heap.size w w2) (fun q hq v w h => by simp only [List.mem_cons, List.not_mem_nil, or_false] at hq; rcases hq with rfl <;> exact h.2) (fun w h => h.2) hph
            have hcc := (hA.cell (p := ⟨b, o + k * 5 + 3, none⟩) hbB).trans hcd
            refine wp_yields (v := .slice A2 n c2) (w' := w2) ?_ (fun u hu => Option.some.inj (Option.some.inj hu)) (phased_quiet hLi (by rfl) hph)
            clear dep old ho hsz hph hA hnot hyes hLi
            go_simp
          | 11, ho =>
            obtain rfl := Option.some.inj ho
            rw [if_pos (wanted_none rfl)]
            have d0 : a.tmps.getD 41 undef = ptr d := dep 0 _ _ (by kernel_rfl) rfl rfl _ rfl
            have e0 : a.tmps[41]?.getD undef = ptr d := (Array.getD_eq_getD_getElem? ..).symm.trans d0
            have d5 : a.tmps.getD 46 undef = .int .i64 s := dep 5 _ _ (by kernel_rfl) rfl rfl _ rfl
            have e5 : a.tmps[46]?.getD undef = .int .i64 s := (Array.getD_eq_getD_getElem? ..).symm.trans d5
            have d10 : a.tmps.getD 51 undef = .slice A2 n c2 := dep 10 _ _ (by kernel_rfl) rfl rfl _ rfl
            have e10 : a.tmps[51]?.getD undef = .slice A2 n c2 := (Array.getD_eq_getD_getElem? ..).symm.trans d10
            have hph2 := phased_first (fun p hp => by simp only [List.mem_cons, List.not_mem_nil, or_false] at hp; rcases hp with rfl; exact hLi) hph
            obtain ⟨hm, hb⟩ := hph2
            refine wp_enters (R := fun w' => Many w' (fun k => k < w.heap.size) [(d, D.wr 1 s l), (e, E)] ∧ Out (fun k => k < w.heap.size) w2 w') (f := 13) (args := #[ptr d, .int .i64 1, .int .i64 s, .slice A2 n c2]) ?_ (rg_w1 hm HSD.out 1 s HLN.out (HRW.out.below hb) hb.size) (fun u hu => by cases Option.some.inj hu) ?_
            · clear dep old ho hsz hph hnot hyes hLi hm hb
              go_simp
            · rintro w3 ⟨hm3, ho3⟩
              unfold phased
              rw [if_pos (by simp [also])]
              exact ⟨by simp [also], hm3, hb.trans (ho3.below hb.size (fun _ h => h))⟩
          | i + 12, ho => exact absurd ho (by simp)
        · intro a w6 hph hsz hdf fin keep
          unfold phased at hph
          rw [if_pos rfl] at hph
          obtain ⟨_, hm6, hb6⟩ := hph
          obtain ⟨tm, df⟩ := a
          have hx : tm = #[tm.getD 0 undef, tm.getD 1 undef, tm.getD 2 undef, tm.getD 3 undef, tm.getD 4 undef, tm.getD 5 undef, tm.getD 6 undef, tm.getD 7 undef, tm.getD 8 undef, tm.getD 9 undef, tm.getD 10 undef, tm.getD 11 undef, tm.getD 12 undef, tm.getD 13 undef, tm.getD 14 undef, tm.getD 15 undef, tm.getD 16 undef, tm.getD 17 undef, tm.getD 18 undef, tm.getD 19 undef, tm.getD 20 undef, tm.getD 21 undef, tm.getD 22 undef, tm.getD 23 undef, tm.getD 24 undef, tm.getD 25 undef, tm.getD 26 undef, tm.getD 27 undef, tm.getD 28 undef, tm.getD 29 undef, tm.getD 30 undef, tm.getD 31 undef, tm.getD 32 undef, tm.getD 33 undef, tm.getD 34 undef, tm.getD 35 undef, tm.getD 36 undef, tm.getD 37 undef, tm.getD 38 undef, tm.getD 39 undef, tm.getD 40 undef, tm.getD 41 undef, tm.getD 42 undef, tm.getD 43 undef, tm.getD 44 undef, tm.getD 45 undef, tm.getD 46 undef, tm.getD 47 undef, tm.getD 48 undef, tm.getD 49 undef, tm.getD 50 undef, tm.getD 51 undef, tm.getD 52 undef, tm.getD 53 undef, tm.getD 54 undef, tm.getD 55 undef, tm.getD 56 undef, tm.getD 57 undef, tm.getD 58 undef, tm.getD 59 undef, tm.getD 60 undef, tm.getD 61 undef, tm.getD 62 undef, tm.getD 63 undef, tm.getD 64 undef, tm.getD 65 undef, tm.getD 66 undef, tm.getD 67 undef, tm.getD 68 undef, tm.getD 69 undef, tm.getD 70 undef, tm.getD 71 undef, tm.getD 72 undef, tm.getD 73 undef, tm.getD 74 undef, tm.getD 75 undef, tm.getD 76 undef, tm.getD 77 undef, tm.getD 78 undef, tm.getD 79 undef, tm.getD 80 undef, tm.getD 81 undef, tm.getD 82 undef, tm.getD 83 undef, tm.getD 84 undef, tm.getD 85 undef, tm.getD 86 undef, tm.getD 87 undef, tm.getD 88 undef, tm.getD 89 undef, tm.getD 90 undef, tm.getD 91 undef, tm.getD 92 undef, tm.getD 93 undef, tm.getD 94 undef, tm.getD 95 undef, tm.getD 96 undef, tm.getD 97 undef, tm.getD 98 undef, tm.getD 99 undef, tm.getD 100 undef, tm.getD 101 undef, tm.getD 102 undef, tm.getD 103 undef, tm.getD 104 undef, tm.getD 105 undef, tm.getD 106 undef, tm.getD 107 undef, tm.getD 108 undef, tm.getD 109 undef, tm.getD 110 undef, tm.getD 111 undef, tm.getD 112 undef, tm.getD 113 undef, tm.getD 114 undef, tm.getD 115 undef, tm.getD 116 undef, tm.getD 117 undef, tm.getD 118 undef, tm.getD 119 undef, tm.getD 120 undef, tm.getD 121 undef, tm.getD 122 undef, tm.getD 123 undef, tm.getD 124 undef, tm.getD 125 undef, tm.getD 126 undef, tm.getD 127 undef, tm.getD 128 undef, tm.getD 129 undef, tm.getD 130 undef, tm.getD 131 undef] := slots_of tm 132 hsz
          generalize tm.getD 41 undef = z41 at hx
          generalize tm.getD 42 undef = z42 at hx
          generalize tm.getD 43 undef = z43 at hx
          generalize tm.getD 44 undef = z44 at hx
          generalize tm.getD 45 undef = z45 at hx
          generalize tm.getD 46 undef = z46 at hx
          generalize tm.getD 47 undef = z47 at hx
          generalize tm.getD 48 undef = z48 at hx
          generalize tm.getD 49 undef = z49 at hx
          generalize tm.getD 50 undef = z50 at hx
          generalize tm.getD 51 undef = z51 at hx
          generalize tm.getD 52 undef = z52 at hx
          rw [show tm.getD 0 undef = _ from keep 0 (by kernel_rfl)] at hx
          rw [show tm.getD 1 undef = _ from keep 1 (by kernel_rfl)] at hx
          rw [show tm.getD 2 undef = _ from keep 2 (by kernel_rfl)] at hx
          rw [show tm.getD 3 undef = _ from keep 3 (by kernel_rfl)] at hx
          rw [show tm.getD 4 undef = _ from keep 4 (by kernel_rfl)] at hx
          rw [show tm.getD 5 undef = _ from keep 5 (by kernel_rfl)] at hx
          rw [show tm.getD 6 undef = _ from keep 6 (by kernel_rfl)] at hx
          rw [show tm.getD 7 undef = _ from keep 7 (by kernel_rfl)] at hx
          rw [show tm.getD 8 undef = _ from keep 8 (by kernel_rfl)] at hx
          rw [show tm.getD 9 undef = _ from keep 9 (by kernel_rfl)] at hx
          rw [show tm.getD 10 undef = _ from keep 10 (by kernel_rfl)] at hx
          rw [show tm.getD 11 undef = _ from keep 11 (by kernel_rfl)] at hx
          rw [show tm.getD 12 undef = _ from keep 12 (by kernel_rfl)] at hx
          rw [show tm.getD 13 undef = _ from keep 13 (by kernel_rfl)] at hx
          rw [show tm.getD 14 undef = _ from keep 14 (by kernel_rfl)] at hx
          rw [show tm.getD 15 undef = _ from keep 15 (by kernel_rfl)] at hx
          rw [show tm.getD 16 undef = _ from keep 16 (by kernel_rfl)] at hx
          rw [show tm.getD 17 undef = _ from keep 17 (by kernel_rfl)] at hx
          rw [show tm.getD 18 undef = _ from keep 18 (by kernel_rfl)] at hx
          rw [show tm.getD 19 undef = _ from keep 19 (by kernel_rfl)] at hx
          rw [show tm.getD 20 undef = _ from keep 20 (by kernel_rfl)] at hx
          rw [show tm.getD 21 undef = _ from keep 21 (by kernel_rfl)] at hx
          rw [show tm.getD 22 undef = _ from keep 22 (by kernel_rfl)] at hx
          rw [show tm.getD 23 undef = _ from keep 23 (by kernel_rfl)] at hx
          rw [show tm.getD 24 undef = _ from keep 24 (by kernel_rfl)] at hx
          rw [show tm.getD 25 undef = _ from keep 25 (by kernel_rfl)] at hx
          rw [show tm.getD 26 undef = _ from keep 26 (by kernel_rfl)] at hx
          rw [show tm.getD 27 undef = _ from keep 27 (by kernel_rfl)] at hx
          rw [show tm.getD 28 undef = _ from keep 28 (by kernel_rfl)] at hx
          rw [show tm.getD 29 undef = _ from keep 29 (by kernel_rfl)] at hx
          rw [show tm.getD 30 undef = _ from keep 30 (by kernel_rfl)] at hx
          rw [show tm.getD 31 undef = _ from keep 31 (by kernel_rfl)] at hx
          rw [show tm.getD 32 undef = _ from keep 32 (by kernel_rfl)] at hx
          rw [show tm.getD 33 undef = _ from keep 33 (by kernel_rfl)] at hx
          rw [show tm.getD 34 undef = _ from keep 34 (by kernel_rfl)] at hx
          rw [show tm.getD 35 undef = _ from keep 35 (by kernel_rfl)] at hx
          rw [show tm.getD 36 undef = _ from keep 36 (by kernel_rfl)] at hx
          rw [show tm.getD 37 undef = _ from keep 37 (by kernel_rfl)] at hx
          rw [show tm.getD 38 undef = _ from keep 38 (by kernel_rfl)] at hx
          rw [show tm.getD 39 undef = _ from keep 39 (by kernel_rfl)] at hx
          rw [show tm.getD 40 undef = _ from keep 40 (by kernel_rfl)] at hx
          rw [show tm.getD 53 undef = _ from keep 53 (by kernel_rfl)] at hx
          rw [show tm.getD 54 undef = _ from keep 54 (by kernel_rfl)] at hx
          rw [show tm.getD 55 undef = _ from keep 55 (by kernel_rfl)] at hx
          rw [show tm.getD 56 undef = _ from keep 56 (by kernel_rfl)] at hx
          rw [show tm.getD 57 undef = _ from keep 57 (by kernel_rfl)] at hx
          rw [show tm.getD 58 undef = _ from keep 58 (by kernel_rfl)] at hx
          rw [show tm.getD 59 undef = _ from keep 59 (by kernel_rfl)] at hx
          rw [show tm.getD 60 undef = _ from keep 60 (by kernel_rfl)] at hx
          rw [show tm.getD 61 undef = _ from keep 61 (by kernel_rfl)] at hx
          rw [show tm.getD 62 undef = _ from keep 62 (by kernel_rfl)] at hx
          rw [show tm.getD 63 undef = _ from keep 63 (by kernel_rfl)] at hx
          rw [show tm.getD 64 undef = _ from keep 64 (by kernel_rfl)] at hx
          rw [show tm.getD 65 undef = _ from keep 65 (by kernel_rfl)] at hx
          rw [show tm.getD 66 undef = _ from keep 66 (by kernel_rfl)] at hx
          rw [show tm.getD 67 undef = _ from keep 67 (by kernel_rfl)] at hx
          rw [show tm.getD 68 undef = _ from keep 68 (by kernel_rfl)] at hx
          rw [show tm.getD 69 undef = _ from keep 69 (by kernel_rfl)] at hx
          rw [show tm.getD 70 undef = _ from keep 70 (by kernel_rfl)] at hx
          rw [show tm.getD 71 undef = _ from keep 71 (by kernel_rfl)] at hx
          rw [show tm.getD 72 undef = _ from keep 72 (by kernel_rfl)] at hx
          rw [show tm.getD 73 undef = _ from keep 73 (by kernel_rfl)] at hx
          rw [show tm.getD 74 undef = _ from keep 74 (by kernel_rfl)] at hx
          rw [show tm.getD 75 undef = _ from keep 75 (by kernel_rfl)] at hx
          rw [show tm.getD 76 undef = _ from keep 76 (by kernel_rfl)] at hx
          rw [show tm.getD 77 undef = _ from keep 77 (by kernel_rfl)] at hx
          rw [show tm.getD 78 undef = _ from keep 78 (by kernel_rfl)] at hx
          rw [show tm.getD 79 undef = _ from keep 79 (by kernel_rfl)] at hx
          rw [show tm.getD 80 undef = _ from keep 80 (by kernel_rfl)] at hx
          rw [show tm.getD 81 undef = _ from keep 81 (by kernel_rfl)] at hx
          rw [show tm.getD 82 undef = _ from keep 82 (by kernel_rfl)] at hx
          rw [show tm.getD 83 undef = _ from keep 83 (by kernel_rfl)] at hx
          rw [show tm.getD 84 undef = _ from keep 84 (by kernel_rfl)] at hx
          rw [show tm.getD 85 undef = _ from keep 85 (by kernel_rfl)] at hx
          rw [show tm.getD 86 undef = _ from keep 86 (by kernel_rfl)] at hx
          rw [show tm.getD 87 undef = _ from keep 87 (by kernel_rfl)] at hx
          rw [show tm.getD 88 undef = _ from keep 88 (by kernel_rfl)] at hx
          rw [show tm.getD 89 undef = _ from keep 89 (by kernel_rfl)] at hx
          rw [show tm.getD 90 undef = _ from keep 90 (by kernel_rfl)] at hx
          rw [show tm.getD 91 undef = _ from keep 91 (by kernel_rfl)] at hx
          rw [show tm.getD 92 undef = _ from keep 92 (by kernel_rfl)] at hx
          rw [show tm.getD 93 undef = _ from keep 93 (by kernel_rfl)] at hx
          rw [show tm.getD 94 undef = _ from keep 94 (by kernel_rfl)] at hx
          rw [show tm.getD 95 undef = _ from keep 95 (by kernel_rfl)] at hx
          rw [show tm.getD 96 undef = _ from keep 96 (by kernel_rfl)] at hx
          rw [show tm.getD 97 undef = _ from keep 97 (by kernel_rfl)] at hx
          rw [show tm.getD 98 undef = _ from keep 98 (by kernel_rfl)] at hx
          rw [show tm.getD 99 undef = _ from keep 99 (by kernel_rfl)] at hx
          rw [show tm.getD 100 undef = _ from keep 100 (by kernel_rfl)] at hx
          rw [show tm.getD 101 undef = _ from keep 101 (by kernel_rfl)] at hx
          rw [show tm.getD 102 undef = _ from keep 102 (by kernel_rfl)] at hx
          rw [show tm.getD 103 undef = _ from keep 103 (by kernel_rfl)] at hx
          rw [show tm.getD 104 undef = _ from keep 104 (by kernel_rfl)] at hx
          rw [show tm.getD 105 undef = _ from keep 105 (by kernel_rfl)] at hx
          rw [show tm.getD 106 undef = _ from keep 106 (by kernel_rfl)] at hx
          rw [show tm.getD 107 undef = _ from keep 107 (by kernel_rfl)] at hx
          rw [show tm.getD 108 undef = _ from keep 108 (by kernel_rfl)] at hx
          rw [show tm.getD 109 undef = _ from keep 109 (by kernel_rfl)] at hx
          rw [show tm.getD 110 undef = _ from keep 110 (by kernel_rfl)] at hx
          rw [show tm.getD 111 undef = _ from keep 111 (by kernel_rfl)] at hx
          rw [show tm.getD 112 undef = _ from keep 112 (by kernel_rfl)] at hx
          rw [show tm.getD 113 undef = _ from keep 113 (by kernel_rfl)] at hx
          rw [show tm.getD 114 undef = _ from keep 114 (by kernel_rfl)] at hx
          rw [show tm.getD 115 undef = _ from keep 115 (by kernel_rfl)] at hx
          rw [show tm.getD 116 undef = _ from keep 116 (by kernel_rfl)] at hx
          rw [show tm.getD 117 undef = _ from keep 117 (by kernel_rfl)] at hx
          rw [show tm.getD 118 undef = _ from keep 118 (by kernel_rfl)] at hx
          rw [show tm.getD 119 undef = _ from keep 119 (by kernel_rfl)] at hx
          rw [show tm.getD 120 undef = _ from keep 120 (by kernel_rfl)] at hx
          rw [show tm.getD 121 undef = _ from keep 121 (by kernel_rfl)] at hx
          rw [show tm.getD 122 undef = _ from keep 122 (by kernel_rfl)] at hx
          rw [show tm.getD 123 undef = _ from keep 123 (by kernel_rfl)] at hx
          rw [show tm.getD 124 undef = _ from keep 124 (by kernel_rfl)] at hx
          rw [show tm.getD 125 undef = _ from keep 125 (by kernel_rfl)] at hx
          rw [show tm.getD 126 undef = _ from keep 126 (by kernel_rfl)] at hx
          rw [show tm.getD 127 undef = _ from keep 127 (by kernel_rfl)] at hx
          rw [show tm.getD 128 undef = _ from keep 128 (by kernel_rfl)] at hx
          rw [show tm.getD 129 undef = _ from keep 129 (by kernel_rfl)] at hx
          rw [show tm.getD 130 undef = _ from keep 130 (by kernel_rfl)] at hx
          rw [show tm.getD 131 undef = _ from keep 131 (by kernel_rfl)] at hx
          simp only [Array.getD_eq_getD_getElem?, List.getElem?_toArray, List.getElem?_cons_succ, List.getElem?_cons_zero, Option.getD_some] at hx
          dsimp only at hdf
          clear fin keep hsz
          subst hx hdf
          have hck6 := (hb6.cell (p := ⟨b, o + k * 5, none⟩) hbB).trans hck0
          have hp6 := HP.out.wr1 s l
          have hs6 := HSD0.out.wr 1 s l
          clear HP HM HB HSD0 HSD hcs hcd hck0 hbB HRW HLN
          obtain ⟨D, hD⟩ : ∃ D2, D.wr 1 s l = D2 := ⟨_, rfl⟩
          rw [hD] at hp6 hs6 hm6
          clear hD
          have HP := hide hp6
          have HSD0 := hide hs6
          have HM := hide hm6
          have HB := hide hb6
          clear hp6 hs6 hm6 hb6
          rcases and1 kd with hb1 | hb1
          · by_cases hai : k < ca.length
            · obtain ⟨b, o, cap, he, kd, r, s, A2, n, c2, l, mask, hck, hln, -, -, hrange, hrow, -, -, -⟩ := call_at HVA.out (Below.refl _ w) hai
              injection he with e1 e2 e3
              subst e1
              subst e3
              have hcs := hrange 2 _ rfl
              have hcd := hrange 3 _ rfl
              have hck0 : w.cell? ⟨b, o + k * 5, none⟩ = some (.int .i64 kd) := hrange 0 _ rfl
              have hbB := blk_of_range hck0
              have HRW := hide hrow
              have HLN := hide hln
              have hix : (k : Int) < (ca.length : Int) := by omega
              clear hrange hrow hln hck
              go_wp2
              have HSD := hide (HSD0.out.more (show 2 * k + 1 ≤ 1000000 by omega))
              have HSE := hide (HSE0.out.more (show k ≤ 1000000 by omega))
              have hpw := HP.out.wr0 s l
              have HPW := hide hpw.1
              have HCE := hide hpw.2
              clear hpw
              refine region_phases (ops := _) (valV [some (ptr d), some (.slice (some ⟨b, o, none⟩) ca.length c), some (.int .i64 (k : Int)), some (.pointer (some ⟨b, o + k * 5, none⟩)), some (.pointer (some ⟨b, o + k * 5 + 2, none⟩)), some (.int .i64 s), some (.slice (some ⟨b, o, none⟩) ca.length c), some (.int .i64 (k : Int)), some (.pointer (some ⟨b, o + k * 5, none⟩)), some (.pointer (some ⟨b, o + k * 5 + 3, none⟩)), some (.slice A2 n c2), some (.int .i64 (D.wrCode 0 s l.length)), some (ptr e), some (.slice (some ⟨b, o, none⟩) ca.length c), some (.int .i64 (k : Int)), some (.pointer (some ⟨b, o + k * 5, none⟩)), some (.pointer (some ⟨b, o + k * 5 + 2, none⟩)), some (.int .i64 s), some (.slice (some ⟨b, o, none⟩) ca.length c), some (.int .i64 (k : Int)), some (.pointer (some ⟨b, o + k * 5, none⟩)), some (.pointer (some ⟨b, o + k * 5 + 3, none⟩)), some (.slice A2 n c2), some (.int .i64 (D.wrCode 0 s l.length)), some (.int .i64 (D.wrCode 0 s l.length)), some (.int .i64 (D.wrCode 0 s l.length))]) (phased [⟨23, 23, fun _ w2 => Many w2 (fun k => k < w.heap.size) [(d, D.wr 0 s l), (e, E.wr 0 s l)] ∧ Below w.heap.size w w2⟩, ⟨11, 11, fun _ w2 => Many w2 (fun k => k < w.heap.size) [(d, D.wr 0 s l), (e, E)] ∧ Below w.heap.size w w2⟩] (fun w2 => Many w2 (fun k => k < w.heap.size) [(d, D), (e, E)] ∧ Below w.heap.size w w2)) (by kernel_rfl) (by kernel_rfl) (by kernel_rfl) (by kernel_rfl) (phased_ext (by kernel_rfl)) ?_ ?_ ?_
              · exact ⟨HM.out.drew, HB.out.drew⟩
              · intro i o ho L a w2 hph hsz hLi hnot hyes old dep
                match i, ho with
                | 0, ho =>
                  obtain rfl := Option.some.inj ho
                  rw [if_pos (wanted_none rfl)]
                  have o7 := old 7 (by kernel_rfl)
                  refine wp_yields (v := ptr d) (w' := w2) ?_ (fun u hu => Option.some.inj (Option.some.inj hu)) (phased_quiet hLi (by rfl) hph)
                  clear dep old ho hsz hph hnot hyes hLi
                  go_simp
                | 1, ho =>
                  obtain rfl := Option.some.inj ho
                  rw [if_pos (wanted_none rfl)]
                  have o0 := old 0 (by kernel_rfl)
                  refine wp_yields (v := .slice (some ⟨b, o, none⟩) ca.length c) (w' := w2) ?_ (fun u hu => Option.some.inj (Option.some.inj hu)) (phased_quiet hLi (by rfl) hph)
                  clear dep old ho hsz hph hnot hyes hLi
                  go_simp
                | 2, ho =>
                  obtain rfl := Option.some.inj ho
                  rw [if_pos (wanted_none rfl)]
                  have o9 := old 9 (by kernel_rfl)
                  refine wp_yields (v := .int .i64 (k : Int)) (w' := w2) ?_ (fun u hu => Option.some.inj (Option.some.inj hu)) (phased_quiet hLi (by rfl) hph)
                  clear dep old ho hsz hph hnot hyes hLi
                  go_simp
                | 3, ho =>
                  obtain rfl := Option.some.inj ho
                  rw [if_pos (wanted_none rfl)]
                  have d1 : a.tmps.getD 67 undef = .slice (some ⟨b, o, none⟩) ca.length c := dep 1 _ _ (by kernel_rfl) rfl rfl _ rfl
                  have e1 : a.tmps[67]?.getD undef = .slice (some ⟨b, o, none⟩) ca.length c := (Array.getD_eq_getD_getElem? ..).symm.trans d1
                  have d2 : a.tmps.getD 68 undef = .int .i64 (k : Int) := dep 2 _ _ (by kernel_rfl) rfl rfl _ rfl
                  have e2 : a.tmps[68]?.getD undef = .int .i64 (k : Int) := (Array.getD_eq_getD_getElem? ..).symm.trans d2
                  refine wp_yields (v := .pointer (some ⟨b, o + k * 5, none⟩)) (w' := w2) ?_ (fun u hu => Option.some.inj (Option.some.inj hu)) (phased_quiet hLi (by rfl) hph)
                  clear dep old ho hsz hph hnot hyes hLi
                  go_simp
                | 4, ho =>
                  obtain rfl := Option.some.inj ho
                  rw [if_pos (wanted_none rfl)]
                  have d3 : a.tmps.getD 69 undef = .pointer (some ⟨b, o + k * 5, none⟩) := dep 3 _ _ (by kernel_rfl) rfl rfl _ rfl
                  have e3 : a.tmps[69]?.getD undef = .pointer (some ⟨b, o + k * 5, none⟩) := (Array.getD_eq_getD_getElem? ..).symm.trans d3
                  refine wp_yields (v := .pointer (some ⟨b, o + k * 5 + 2, none⟩)) (w' := w2) ?_ (fun u hu => Option.some.inj (Option.some.inj hu)) (phased_quiet hLi (by rfl) hph)
                  clear dep old ho hsz hph hnot hyes hLi
                  go_simp
                | 5, ho =>
                  obtain rfl := Option.some.inj ho
                  rw [if_pos (wanted_none rfl)]
                  have d4 : a.tmps.getD 70 undef = .pointer (some ⟨b, o + k * 5 + 2, none⟩) := dep 4 _ _ (by kernel_rfl) rfl rfl _ rfl
                  have e4 : a.tmps[70]?.getD undef = .pointer (some ⟨b, o + k * 5 + 2, none⟩) := (Array.getD_eq_getD_getElem? ..).symm.trans d4
                  have hA : Below w.heap.size w w2 := phased_all (R := fun w2 => Below w.heap.size w w2) (fun q hq v w h => by simp only [List.mem_cons, List.not_mem_nil, or_false] at hq; rcases hq with rfl | rfl <;> exact h.2) (fun w h => h.2) hph
                  have hcc := (hA.cell (p := ⟨b, o + k * 5 + 2, none⟩) hbB).trans hcs
                  refine wp_yields (v := .int .i64 s) (w' := w2) ?_ (fun u hu => Option.some.inj (Option.some.inj hu)) (phased_quiet hLi (by rfl) hph)
                  clear dep old ho hsz hph hA hnot hyes hLi
                  go_simp
                | 6, ho =>
                  obtain rfl := Option.some.inj ho
                  rw [if_pos (wanted_none rfl)]
                  have o0 := old 0 (by kernel_rfl)
                  refine wp_yields (v := .slice (some ⟨b, o, none⟩) ca.length c) (w' := w2) ?_ (fun u hu => Option.some.inj (Option.some.inj hu)) (phased_quiet hLi (by rfl) hph)
                  clear dep old ho hsz hph hnot hyes hLi
                  go_simp
                | 7, ho =>
                  obtain rfl := Option.some.inj ho
                  rw [if_pos (wanted_none rfl)]
                  have o9 := old 9 (by kernel_rfl)
                  refine wp_yields (v := .int .i64 (k : Int)) (w' := w2) ?_ (fun u hu => Option.some.inj (Option.some.inj hu)) (phased_quiet hLi (by rfl) hph)
                  clear dep old ho hsz hph hnot hyes hLi
                  go_simp
                | 8, ho =>
                  obtain rfl := Option.some.inj ho
                  rw [if_pos (wanted_none rfl)]
                  have d6 : a.tmps.getD 72 undef = .slice (some ⟨b, o, none⟩) ca.length c := dep 6 _ _ (by kernel_rfl) rfl rfl _ rfl
                  have e6 : a.tmps[72]?.getD undef = .slice (some ⟨b, o, none⟩) ca.length c := (Array.getD_eq_getD_getElem? ..).symm.trans d6
                  have d7 : a.tmps.getD 73 undef = .int .i64 (k : Int) := dep 7 _ _ (by kernel_rfl) rfl rfl _ rfl
                  have e7 : a.tmps[73]?.getD undef = .int .i64 (k : Int) := (Array.getD_eq_getD_getElem? ..).symm.trans d7
                  refine wp_yields (v := .pointer (some ⟨b, o + k * 5, none⟩)) (w' := w2) ?_ (fun u hu => Option.some.inj (Option.some.inj hu)) (phased_quiet hLi (by rfl) hph)
                  clear dep old ho hsz hph hnot hyes hLi
                  go_simp
                | 9, ho =>
                  obtain rfl := Option.some.inj ho
                  rw [if_pos (wanted_none rfl)]
                  have d8 : a.tmps.getD 74 undef = .pointer (some ⟨b, o + k * 5, none⟩) := dep 8 _ _ (by kernel_rfl) rfl rfl _ rfl
                  have e8 : a.tmps[74]?.getD undef = .pointer (some ⟨b, o + k * 5, none⟩) := (Array.getD_eq_getD_getElem? ..).symm.trans d8
                  refine wp_yields (v := .pointer (some ⟨b, o + k * 5 + 3, none⟩)) (w' := w2) ?_ (fun u hu => Option.some.inj (Option.some.inj hu)) (phased_quiet hLi (by rfl) hph)
                  clear dep old ho hsz hph hnot hyes hLi
                  go_simp
                | 10, ho =>
                  obtain rfl := Option.some.inj ho
                  rw [if_pos (wanted_none rfl)]
                  have d9 : a.tmps.getD 75 undef = .pointer (some ⟨b, o + k * 5 + 3, none⟩) := dep 9 _ _ (by kernel_rfl) rfl rfl _ rfl
                  have e9 : a.tmps[75]?.getD undef = .pointer (some ⟨b, o + k * 5 + 3, none⟩) := (Array.getD_eq_getD_getElem? ..).symm.trans d9
                  have hA : Below w.heap.size w w2 := phased_all (R := fun w2 => Below w.heap.size w w2) (fun q hq v w h => by simp only [List.mem_cons, List.not_mem_nil, or_false] at hq; rcases hq with rfl | rfl <;> exact h.2) (fun w h => h.2) hph
                  have hcc := (hA.cell (p := ⟨b, o + k * 5 + 3, none⟩) hbB).trans hcd
                  refine wp_yields (v := .slice A2 n c2) (w' := w2) ?_ (fun u hu => Option.some.inj (Option.some.inj hu)) (phased_quiet hLi (by rfl) hph)
                  clear dep old ho hsz hph hA hnot hyes hLi
                  go_simp
                | 11, ho =>
                  obtain rfl := Option.some.inj ho
                  rw [if_pos (wanted_none rfl)]
                  have d0 : a.tmps.getD 66 undef = ptr d := dep 0 _ _ (by kernel_rfl) rfl rfl _ rfl
                  have e0 : a.tmps[66]?.getD undef = ptr d := (Array.getD_eq_getD_getElem? ..).symm.trans d0
                  have d5 : a.tmps.getD 71 undef = .int .i64 s := dep 5 _ _ (by kernel_rfl) rfl rfl _ rfl
                  have e5 : a.tmps[71]?.getD undef = .int .i64 s := (Array.getD_eq_getD_getElem? ..).symm.trans d5
                  have d10 : a.tmps.getD 76 undef = .slice A2 n c2 := dep 10 _ _ (by kernel_rfl) rfl rfl _ rfl
                  have e10 : a.tmps[76]?.getD undef = .slice A2 n c2 := (Array.getD_eq_getD_getElem? ..).symm.trans d10
                  have h23 := hnot 23 (by kernel_rfl)
                  unfold phased at hph
                  rw [if_neg (by rw [h23]; decide)] at hph
                  unfold phased at hph
                  rw [if_neg (by rw [hLi]; decide)] at hph
                  obtain ⟨hm, hb⟩ := hph
                  refine wp_enters (R := fun w' => Many w' (fun k => k < w.heap.size) [(d, D.wr 0 s l), (e, E)] ∧ Out (fun k => k < w.heap.size) w2 w') (f := 13) (args := #[ptr d, .int .i64 0, .int .i64 s, .slice A2 n c2]) ?_ (rg_w1 hm HSD.out 0 s HLN.out (HRW.out.below hb) hb.size) (fun u hu => Option.some.inj (Option.some.inj hu)) ?_
                  · clear dep old ho hsz hnot hyes hLi hm hb h23
                    go_simp
                  · rintro w3 ⟨hm3, ho3⟩
                    unfold phased
                    rw [if_neg (by simp [also, h23])]
                    unfold phased
                    rw [if_pos (by simp [also])]
                    exact ⟨by simp [also], hm3, hb.trans (ho3.below hb.size (fun _ h => h))⟩
                | 12, ho =>
                  obtain rfl := Option.some.inj ho
                  rw [if_pos (wanted_none rfl)]
                  have o8 := old 8 (by kernel_rfl)
                  refine wp_yields (v := ptr e) (w' := w2) ?_ (fun u hu => Option.some.inj (Option.some.inj hu)) (phased_quiet hLi (by rfl) hph)
                  clear dep old ho hsz hph hnot hyes hLi
                  go_simp
                | 13, ho =>
                  obtain rfl := Option.some.inj ho
                  rw [if_pos (wanted_none rfl)]
                  have o0 := old 0 (by kernel_rfl)
                  refine wp_yields (v := .slice (some ⟨b, o, none⟩) ca.length c) (w' := w2) ?_ (fun u hu => Option.some.inj (Option.some.inj hu)) (phased_quiet hLi (by rfl) hph)
                  clear dep old ho hsz hph hnot hyes hLi
                  go_simp
                | 14, ho =>
                  obtain rfl := Option.some.inj ho
                  rw [if_pos (wanted_none rfl)]
                  have o9 := old 9 (by kernel_rfl)
                  refine wp_yields (v := .int .i64 (k : Int)) (w' := w2) ?_ (fun u hu => Option.some.inj (Option.some.inj hu)) (phased_quiet hLi (by rfl) hph)
                  clear dep old ho hsz hph hnot hyes hLi
                  go_simp
                | 15, ho =>
                  obtain rfl := Option.some.inj ho
                  rw [if_pos (wanted_none rfl)]
                  have d13 : a.tmps.getD 79 undef = .slice (some ⟨b, o, none⟩) ca.length c := dep 13 _ _ (by kernel_rfl) rfl rfl _ rfl
                  have e13 : a.tmps[79]?.getD undef = .slice (some ⟨b, o, none⟩) ca.length c := (Array.getD_eq_getD_getElem? ..).symm.trans d13
                  have d14 : a.tmps.getD 80 undef = .int .i64 (k : Int) := dep 14 _ _ (by kernel_rfl) rfl rfl _ rfl
                  have e14 : a.tmps[80]?.getD undef = .int .i64 (k : Int) := (Array.getD_eq_getD_getElem? ..).symm.trans d14
                  refine wp_yields (v := .pointer (some ⟨b, o + k * 5, none⟩)) (w' := w2) ?_ (fun u hu => Option.some.inj (Option.some.inj hu)) (phased_quiet hLi (by rfl) hph)
                  clear dep old ho hsz hph hnot hyes hLi
                  go_simp
                | 16, ho =>
                  obtain rfl := Option.some.inj ho
                  rw [if_pos (wanted_none rfl)]
                  have d15 : a.tmps.getD 81 undef = .pointer (some ⟨b, o + k * 5, none⟩) := dep 15 _ _ (by kernel_rfl) rfl rfl _ rfl
                  have e15 : a.tmps[81]?.getD undef = .pointer (some ⟨b, o + k * 5, none⟩) := (Array.getD_eq_getD_getElem? ..).symm.trans d15
                  refine wp_yields (v := .pointer (some ⟨b, o + k * 5 + 2, none⟩)) (w' := w2) ?_ (fun u hu => Option.some.inj (Option.some.inj hu)) (phased_quiet hLi (by rfl) hph)
                  clear dep old ho hsz hph hnot hyes hLi
                  go_simp
                | 17, ho =>
                  obtain rfl := Option.some.inj ho
                  rw [if_pos (wanted_none rfl)]
                  have d16 : a.tmps.getD 82 undef = .pointer (some ⟨b, o + k * 5 + 2, none⟩) := dep 16 _ _ (by kernel_rfl) rfl rfl _ rfl
                  have e16 : a.tmps[82]?.getD undef = .pointer (some ⟨b, o + k * 5 + 2, none⟩) := (Array.getD_eq_getD_getElem? ..).symm.trans d16
                  have hA : Below w.heap.size w w2 := phased_all (R := fun w2 => Below w.heap.size w w2) (fun q hq v w h => by simp only [List.mem_cons, List.not_mem_nil, or_false] at hq; rcases hq with rfl | rfl <;> exact h.2) (fun w h => h.2) hph
                  have hcc := (hA.cell (p := ⟨b, o + k * 5 + 2, none⟩) hbB).trans hcs
                  refine wp_yields (v := .int .i64 s) (w' := w2) ?_ (fun u hu => Option.some.inj (Option.some.inj hu)) (phased_quiet hLi (by rfl) hph)
                  clear dep old ho hsz hph hA hnot hyes hLi
                  go_simp
                | 18, ho =>
                  obtain rfl := Option.some.inj ho
                  rw [if_pos (wanted_none rfl)]
                  have o0 := old 0 (by kernel_rfl)
                  refine wp_yields (v := .slice (some ⟨b, o, none⟩) ca.length c) (w' := w2) ?_ (fun u hu => Option.some.inj (Option.some.inj hu)) (phased_quiet hLi (by rfl) hph)
                  clear dep old ho hsz hph hnot hyes hLi
                  go_simp
                | 19, ho =>
                  obtain rfl := Option.some.inj ho
                  rw [if_pos (wanted_none rfl)]
                  have o9 := old 9 (by kernel_rfl)
                  refine wp_yields (v := .int .i64 (k : Int)) (w' := w2) ?_ (fun u hu => Option.some.inj (Option.some.inj hu)) (phased_quiet hLi (by rfl) hph)
                  clear dep old ho hsz hph hnot hyes hLi
                  go_simp
                | 20, ho =>
                  obtain rfl := Option.some.inj ho
                  rw [if_pos (wanted_none rfl)]
                  have d18 : a.tmps.getD 84 undef = .slice (some ⟨b, o, none⟩) ca.length c := dep 18 _ _ (by kernel_rfl) rfl rfl _ rfl
                  have e18 : a.tmps[84]?.getD undef = .slice (some ⟨b, o, none⟩) ca.length c := (Array.getD_eq_getD_getElem? ..).symm.trans d18
                  have d19 : a.tmps.getD 85 undef = .int .i64 (k : Int) := dep 19 _ _ (by kernel_rfl) rfl rfl _ rfl
                  have e19 : a.tmps[85]?.getD undef = .int .i64 (k : Int) := (Array.getD_eq_getD_getElem? ..).symm.trans d19
                  refine wp_yields (v := .pointer (some ⟨b, o + k * 5, none⟩)) (w' := w2) ?_ (fun u hu => Option.some.inj (Option.some.inj hu)) (phased_quiet hLi (by rfl) hph)
                  clear dep old ho hsz hph hnot hyes hLi
                  go_simp
                | 21, ho =>
                  obtain rfl := Option.some.inj ho
                  rw [if_pos (wanted_none rfl)]
                  have d20 : a.tmps.getD 86 undef = .pointer (some ⟨b, o + k * 5, none⟩) := dep 20 _ _ (by kernel_rfl) rfl rfl _ rfl
                  have e20 : a.tmps[86]?.getD undef = .pointer (some ⟨b, o + k * 5, none⟩) := (Array.getD_eq_getD_getElem? ..).symm.trans d20
                  refine wp_yields (v := .pointer (some ⟨b, o + k * 5 + 3, none⟩)) (w' := w2) ?_ (fun u hu => Option.some.inj (Option.some.inj hu)) (phased_quiet hLi (by rfl) hph)
                  clear dep old ho hsz hph hnot hyes hLi
                  go_simp
                | 22, ho =>
                  obtain rfl := Option.some.inj ho
                  rw [if_pos (wanted_none rfl)]
                  have d21 : a.tmps.getD 87 undef = .pointer (some ⟨b, o + k * 5 + 3, none⟩) := dep 21 _ _ (by kernel_rfl) rfl rfl _ rfl
                  have e21 : a.tmps[87]?.getD undef = .pointer (some ⟨b, o + k * 5 + 3, none⟩) := (Array.getD_eq_getD_getElem? ..).symm.trans d21
                  have hA : Below w.heap.size w w2 := phased_all (R := fun w2 => Below w.heap.size w w2) (fun q hq v w h => by simp only [List.mem_cons, List.not_mem_nil, or_false] at hq; rcases hq with rfl | rfl <;> exact h.2) (fun w h => h.2) hph
                  have hcc := (hA.cell (p := ⟨b, o + k * 5 + 3, none⟩) hbB).trans hcd
                  refine wp_yields (v := .slice A2 n c2) (w' := w2) ?_ (fun u hu => Option.some.inj (Option.some.inj hu)) (phased_quiet hLi (by rfl) hph)
                  clear dep old ho hsz hph hA hnot hyes hLi
                  go_simp
                | 23, ho =>
                  obtain rfl := Option.some.inj ho
                  rw [if_pos (wanted_none rfl)]
                  have d12 : a.tmps.getD 78 undef = ptr e := dep 12 _ _ (by kernel_rfl) rfl rfl _ rfl
                  have e12 : a.tmps[78]?.getD undef = ptr e := (Array.getD_eq_getD_getElem? ..).symm.trans d12
                  have d17 : a.tmps.getD 83 undef = .int .i64 s := dep 17 _ _ (by kernel_rfl) rfl rfl _ rfl
                  have e17 : a.tmps[83]?.getD undef = .int .i64 s := (Array.getD_eq_getD_getElem? ..).symm.trans d17
                  have d22 : a.tmps.getD 88 undef = .slice A2 n c2 := dep 22 _ _ (by kernel_rfl) rfl rfl _ rfl
                  have e22 : a.tmps[88]?.getD undef = .slice A2 n c2 := (Array.getD_eq_getD_getElem? ..).symm.trans d22
                  have h11 := hyes 11 (by kernel_rfl)
                  unfold phased at hph
                  rw [if_neg (by rw [hLi]; decide)] at hph
                  unfold phased at hph
                  rw [if_pos h11] at hph
                  obtain ⟨_, hm, hb⟩ := hph
                  have hc2 := rg_w2 hm HSE.out 0 s HLN.out (HRW.out.below hb) hb.size
                  rw [HCE.out] at hc2
                  refine wp_enters (R := fun w' => Many w' (fun k => k < w.heap.size) [(d, D.wr 0 s l), (e, E.wr 0 s l)] ∧ Out (fun k => k < w.heap.size) w2 w') (f := 13) (args := #[ptr e, .int .i64 0, .int .i64 s, .slice A2 n c2]) ?_ hc2 (fun u hu => Option.some.inj (Option.some.inj hu)) ?_
                  · clear dep old ho hsz hnot hyes hLi hm hb h11 hc2
                    go_simp
                  · rintro w3 ⟨hm3, ho3⟩
                    unfold phased
                    rw [if_pos (by simp [also])]
                    exact ⟨by simp [also], hm3, hb.trans (ho3.below hb.size (fun _ h => h))⟩
                | 24, ho =>
                  obtain rfl := Option.some.inj ho
                  rw [if_pos (wanted_none rfl)]
                  have d11 : a.tmps.getD 77 undef = .int .i64 (D.wrCode 0 s l.length) := dep 11 _ _ (by kernel_rfl) rfl rfl _ rfl
                  have e11 : a.tmps[77]?.getD undef = .int .i64 (D.wrCode 0 s l.length) := (Array.getD_eq_getD_getElem? ..).symm.trans d11
                  refine wp_yields (v := .int .i64 (D.wrCode 0 s l.length)) (w' := w2) ?_ (fun u hu => Option.some.inj (Option.some.inj hu)) (phased_quiet hLi (by rfl) hph)
                  clear dep old ho hsz hph hnot hyes hLi
                  go_simp
                | 25, ho =>
                  obtain rfl := Option.some.inj ho
                  rw [if_pos (wanted_none rfl)]
                  have d23 : a.tmps.getD 89 undef = .int .i64 (D.wrCode 0 s l.length) := dep 23 _ _ (by kernel_rfl) rfl rfl _ rfl
                  have e23 : a.tmps[89]?.getD undef = .int .i64 (D.wrCode 0 s l.length) := (Array.getD_eq_getD_getElem? ..).symm.trans d23
                  refine wp_yields (v := .int .i64 (D.wrCode 0 s l.length)) (w' := w2) ?_ (fun u hu => Option.some.inj (Option.some.inj hu)) (phased_quiet hLi (by rfl) hph)
                  clear dep old ho hsz hph hnot hyes hLi
                  go_simp
                | i + 26, ho => exact absurd ho (by simp)
              · intro a w8 hph hsz hdf fin keep
                unfold phased at hph
                rw [if_pos rfl] at hph
                obtain ⟨_, hm8, hb8⟩ := hph
                obtain ⟨tm, df⟩ := a
                have hx : tm = #[tm.getD 0 undef, tm.getD 1 undef, tm.getD 2 undef, tm.getD 3 undef, tm.getD 4 undef, tm.getD 5 undef, tm.getD 6 undef, tm.getD 7 undef, tm.getD 8 undef, tm.getD 9 undef, tm.getD 10 undef, tm.getD 11 undef, tm.getD 12 undef, tm.getD 13 undef, tm.getD 14 undef, tm.getD 15 undef, tm.getD 16 undef, tm.getD 17 undef, tm.getD 18 undef, tm.getD 19 undef, tm.getD 20 undef, tm.getD 21 undef, tm.getD 22 undef, tm.getD 23 undef, tm.getD 24 undef, tm.getD 25 undef, tm.getD 26 undef, tm.getD 27 undef, tm.getD 28 undef, tm.getD 29 undef, tm.getD 30 undef, tm.getD 31 undef, tm.getD 32 undef, tm.getD 33 undef, tm.getD 34 undef, tm.getD 35 undef, tm.getD 36 undef, tm.getD 37 undef, tm.getD 38 undef, tm.getD 39 undef, tm.getD 40 undef, tm.getD 41 undef, tm.getD 42 undef, tm.getD 43 undef, tm.getD 44 undef, tm.getD 45 undef, tm.getD 46 undef, tm.getD 47 undef, tm.getD 48 undef, tm.getD 49 undef, tm.getD 50 undef, tm.getD 51 undef, tm.getD 52 undef, tm.getD 53 undef, tm.getD 54 undef, tm.getD 55 undef, tm.getD 56 undef, tm.getD 57 undef, tm.getD 58 undef, tm.getD 59 undef, tm.getD 60 undef, tm.getD 61 undef, tm.getD 62 undef, tm.getD 63 undef, tm.getD 64 undef, tm.getD 65 undef, tm.getD 66 undef, tm.getD 67 undef, tm.getD 68 undef, tm.getD 69 undef, tm.getD 70 undef, tm.getD 71 undef, tm.getD 72 undef, tm.getD 73 undef, tm.getD 74 undef, tm.getD 75 undef, tm.getD 76 undef, tm.getD 77 undef, tm.getD 78 undef, tm.getD 79 undef, tm.getD 80 undef, tm.getD 81 undef, tm.getD 82 undef, tm.getD 83 undef, tm.getD 84 undef, tm.getD 85 undef, tm.getD 86 undef, tm.getD 87 undef, tm.getD 88 undef, tm.getD 89 undef, tm.getD 90 undef, tm.getD 91 undef, tm.getD 92 undef, tm.getD 93 undef, tm.getD 94 undef, tm.getD 95 undef, tm.getD 96 undef, tm.getD 97 undef, tm.getD 98 undef, tm.getD 99 undef, tm.getD 100 undef, tm.getD 101 undef, tm.getD 102 undef, tm.getD 103 undef, tm.getD 104 undef, tm.getD 105 undef, tm.getD 106 undef, tm.getD 107 undef, tm.getD 108 undef, tm.getD 109 undef, tm.getD 110 undef, tm.getD 111 undef, tm.getD 112 undef, tm.getD 113 undef, tm.getD 114 undef, tm.getD 115 undef, tm.getD 116 undef, tm.getD 117 undef, tm.getD 118 undef, tm.getD 119 undef, tm.getD 120 undef, tm.getD 121 undef, tm.getD 122 undef, tm.getD 123 undef, tm.getD 124 undef, tm.getD 125 undef, tm.getD 126 undef, tm.getD 127 undef, tm.getD 128 undef, tm.getD 129 undef, tm.getD 130 undef, tm.getD 131 undef] := slots_of tm 132 hsz
                have kn10 : tm.getD 10 undef = .int .i64 (D.wrCode 0 s l.length) := fin 24 _ _ rfl rfl _ rfl
                rw [kn10] at hx
                clear kn10
                have kn11 : tm.getD 11 undef = .int .i64 (D.wrCode 0 s l.length) := fin 25 _ _ rfl rfl _ rfl
                rw [kn11] at hx
                clear kn11
                generalize tm.getD 66 undef = y66 at hx
                generalize tm.getD 67 undef = y67 at hx
                generalize tm.getD 68 undef = y68 at hx
                generalize tm.getD 69 undef = y69 at hx
                generalize tm.getD 70 undef = y70 at hx
                generalize tm.getD 71 undef = y71 at hx
                generalize tm.getD 72 undef = y72 at hx
                generalize tm.getD 73 undef = y73 at hx
                generalize tm.getD 74 undef = y74 at hx
                generalize tm.getD 75 undef = y75 at hx
                generalize tm.getD 76 undef = y76 at hx
                generalize tm.getD 77 undef = y77 at hx
                generalize tm.getD 78 undef = y78 at hx
                generalize tm.getD 79 undef = y79 at hx
                generalize tm.getD 80 undef = y80 at hx
                generalize tm.getD 81 undef = y81 at hx
                generalize tm.getD 82 undef = y82 at hx
                generalize tm.getD 83 undef = y83 at hx
                generalize tm.getD 84 undef = y84 at hx
                generalize tm.getD 85 undef = y85 at hx
                generalize tm.getD 86 undef = y86 at hx
                generalize tm.getD 87 undef = y87 at hx
                generalize tm.getD 88 undef = y88 at hx
                generalize tm.getD 89 undef = y89 at hx
                rw [show tm.getD 0 undef = _ from keep 0 (by kernel_rfl)] at hx
                rw [show tm.getD 1 undef = _ from keep 1 (by kernel_rfl)] at hx
                rw [show tm.getD 2 undef = _ from keep 2 (by kernel_rfl)] at hx
                rw [show tm.getD 3 undef = _ from keep 3 (by kernel_rfl)] at hx
                rw [show tm.getD 4 undef = _ from keep 4 (by kernel_rfl)] at hx
                rw [show tm.getD 5 undef = _ from keep 5 (by kernel_rfl)] at hx
                rw [show tm.getD 6 undef = _ from keep 6 (by kernel_rfl)] at hx
                rw [show tm.getD 7 undef = _ from keep 7 (by kernel_rfl)] at hx
                rw [show tm.getD 8 undef = _ from keep 8 (by kernel_rfl)] at hx
                rw [show tm.getD 9 undef = _ from keep 9 (by kernel_rfl)] at hx
                rw [show tm.getD 12 undef = _ from keep 12 (by kernel_rfl)] at hx
                rw [show tm.getD 13 undef = _ from keep 13 (by kernel_rfl)] at hx
                rw [show tm.getD 14 undef = _ from keep 14 (by kernel_rfl)] at hx
                rw [show tm.getD 15 undef = _ from keep 15 (by kernel_rfl)] at hx
                rw [show tm.getD 16 undef = _ from keep 16 (by kernel_rfl)] at hx
                rw [show tm.getD 17 undef = _ from keep 17 (by kernel_rfl)] at hx
                rw [show tm.getD 18 undef = _ from keep 18 (by kernel_rfl)] at hx
                rw [show tm.getD 19 undef = _ from keep 19 (by kernel_rfl)] at hx
                rw [show tm.getD 20 undef = _ from keep 20 (by kernel_rfl)] at hx
                rw [show tm.getD 21 undef = _ from keep 21 (by kernel_rfl)] at hx
                rw [show tm.getD 22 undef = _ from keep 22 (by kernel_rfl)] at hx
                rw [show tm.getD 23 undef = _ from keep 23 (by kernel_rfl)] at hx
                rw [show tm.getD 24 undef = _ from keep 24 (by kernel_rfl)] at hx
                rw [show tm.getD 25 undef = _ from keep 25 (by kernel_rfl)] at hx
                rw [show tm.getD 26 undef = _ from keep 26 (by kernel_rfl)] at hx
                rw [show tm.getD 27 undef = _ from keep 27 (by kernel_rfl)] at hx
                rw [show tm.getD 28 undef = _ from keep 28 (by kernel_rfl)] at hx
                rw [show tm.getD 29 undef = _ from keep 29 (by kernel_rfl)] at hx
                rw [show tm.getD 30 undef = _ from keep 30 (by kernel_rfl)] at hx
                rw [show tm.getD 31 undef = _ from keep 31 (by kernel_rfl)] at hx
                rw [show tm.getD 32 undef = _ from keep 32 (by kernel_rfl)] at hx
                rw [show tm.getD 33 undef = _ from keep 33 (by kernel_rfl)] at hx
                rw [show tm.getD 34 undef = _ from keep 34 (by kernel_rfl)] at hx
                rw [show tm.getD 35 undef = _ from keep 35 (by kernel_rfl)] at hx
                rw [show tm.getD 36 undef = _ from keep 36 (by kernel_rfl)] at hx
                rw [show tm.getD 37 undef = _ from keep 37 (by kernel_rfl)] at hx
                rw [show tm.getD 38 undef = _ from keep 38 (by kernel_rfl)] at hx
                rw [show tm.getD 39 undef = _ from keep 39 (by kernel_rfl)] at hx
                rw [show tm.getD 40 undef = _ from keep 40 (by kernel_rfl)] at hx
                rw [show tm.getD 41 undef = _ from keep 41 (by kernel_rfl)] at hx
                rw [show tm.getD 42 undef = _ from keep 42 (by kernel_rfl)] at hx
                rw [show tm.getD 43 undef = _ from keep 43 (by kernel_rfl)] at hx
                rw [show tm.getD 44 undef = _ from keep 44 (by kernel_rfl)] at hx
                rw [show tm.getD 45 undef = _ from keep 45 (by kernel_rfl)] at hx
                rw [show tm.getD 46 undef = _ from keep 46 (by kernel_rfl)] at hx
                rw [show tm.getD 47 undef = _ from keep 47 (by kernel_rfl)] at hx
                rw [show tm.getD 48 undef = _ from keep 48 (by kernel_rfl)] at hx
                rw [show tm.getD 49 undef = _ from keep 49 (by kernel_rfl)] at hx
                rw [show tm.getD 50 undef = _ from keep 50 (by kernel_rfl)] at hx
                rw [show tm.getD 51 undef = _ from keep 51 (by kernel_rfl)] at hx
                rw [show tm.getD 52 undef = _ from keep 52 (by kernel_rfl)] at hx
                rw [show tm.getD 53 undef = _ from keep 53 (by kernel_rfl)] at hx
                rw [show tm.getD 54 undef = _ from keep 54 (by kernel_rfl)] at hx
                rw [show tm.getD 55 undef = _ from keep 55 (by kernel_rfl)] at hx
                rw [show tm.getD 56 undef = _ from keep 56 (by kernel_rfl)] at hx
                rw [show tm.getD 57 undef = _ from keep 57 (by kernel_rfl)] at hx
                rw [show tm.getD 58 undef = _ from keep 58 (by kernel_rfl)] at hx
                rw [show tm.getD 59 undef = _ from keep 59 (by kernel_rfl)] at hx
                rw [show tm.getD 60 undef = _ from keep 60 (by kernel_rfl)] at hx
                rw [show tm.getD 61 undef = _ from keep 61 (by kernel_rfl)] at hx
                rw [show tm.getD 62 undef = _ from keep 62 (by kernel_rfl)] at hx
                rw [show tm.getD 63 undef = _ from keep 63 (by kernel_rfl)] at hx
                rw [show tm.getD 64 undef = _ from keep 64 (by kernel_rfl)] at hx
                rw [show tm.getD 65 undef = _ from keep 65 (by kernel_rfl)] at hx
                rw [show tm.getD 90 undef = _ from keep 90 (by kernel_rfl)] at hx
                rw [show tm.getD 91 undef = _ from keep 91 (by kernel_rfl)] at hx
                rw [show tm.getD 92 undef = _ from keep 92 (by kernel_rfl)] at hx
                rw [show tm.getD 93 undef = _ from keep 93 (by kernel_rfl)] at hx
                rw [show tm.getD 94 undef = _ from keep 94 (by kernel_rfl)] at hx
                rw [show tm.getD 95 undef = _ from keep 95 (by kernel_rfl)] at hx
                rw [show tm.getD 96 undef = _ from keep 96 (by kernel_rfl)] at hx
                rw [show tm.getD 97 undef = _ from keep 97 (by kernel_rfl)] at hx
                rw [show tm.getD 98 undef = _ from keep 98 (by kernel_rfl)] at hx
                rw [show tm.getD 99 undef = _ from keep 99 (by kernel_rfl)] at hx
                rw [show tm.getD 100 undef = _ from keep 100 (by kernel_rfl)] at hx
                rw [show tm.getD 101 undef = _ from keep 101 (by kernel_rfl)] at hx
                rw [show tm.getD 102 undef = _ from keep 102 (by kernel_rfl)] at hx
                rw [show tm.getD 103 undef = _ from keep 103 (by kernel_rfl)] at hx
                rw [show tm.getD 104 undef = _ from keep 104 (by kernel_rfl)] at hx
                rw [show tm.getD 105 undef = _ from keep 105 (by kernel_rfl)] at hx
                rw [show tm.getD 106 undef = _ from keep 106 (by kernel_rfl)] at hx
                rw [show tm.getD 107 undef = _ from keep 107 (by kernel_rfl)] at hx
                rw [show tm.getD 108 undef = _ from keep 108 (by kernel_rfl)] at hx
                rw [show tm.getD 109 undef = _ from keep 109 (by kernel_rfl)] at hx
                rw [show tm.getD 110 undef = _ from keep 110 (by kernel_rfl)] at hx
                rw [show tm.getD 111 undef = _ from keep 111 (by kernel_rfl)] at hx
                rw [show tm.getD 112 undef = _ from keep 112 (by kernel_rfl)] at hx
                rw [show tm.getD 113 undef = _ from keep 113 (by kernel_rfl)] at hx
                rw [show tm.getD 114 undef = _ from keep 114 (by kernel_rfl)] at hx
                rw [show tm.getD 115 undef = _ from keep 115 (by kernel_rfl)] at hx
                rw [show tm.getD 116 undef = _ from keep 116 (by kernel_rfl)] at hx
                rw [show tm.getD 117 undef = _ from keep 117 (by kernel_rfl)] at hx
                rw [show tm.getD 118 undef = _ from keep 118 (by kernel_rfl)] at hx
                rw [show tm.getD 119 undef = _ from keep 119 (by kernel_rfl)] at hx
                rw [show tm.getD 120 undef = _ from keep 120 (by kernel_rfl)] at hx
                rw [show tm.getD 121 undef = _ from keep 121 (by kernel_rfl)] at hx
                rw [show tm.getD 122 undef = _ from keep 122 (by kernel_rfl)] at hx
                rw [show tm.getD 123 undef = _ from keep 123 (by kernel_rfl)] at hx
                rw [show tm.getD 124 undef = _ from keep 124 (by kernel_rfl)] at hx
                rw [show tm.getD 125 undef = _ from keep 125 (by kernel_rfl)] at hx
                rw [show tm.getD 126 undef = _ from keep 126 (by kernel_rfl)] at hx
                rw [show tm.getD 127 undef = _ from keep 127 (by kernel_rfl)] at hx
                rw [show tm.getD 128 undef = _ from keep 128 (by kernel_rfl)] at hx
                rw [show tm.getD 129 undef = _ from keep 129 (by kernel_rfl)] at hx
                rw [show tm.getD 130 undef = _ from keep 130 (by kernel_rfl)] at hx
                rw [show tm.getD 131 undef = _ from keep 131 (by kernel_rfl)] at hx
                simp only [Array.getD_eq_getD_getElem?, List.getElem?_toArray, List.getElem?_cons_succ, List.getElem?_cons_zero, Option.getD_some] at hx
                dsimp only at hdf
                clear fin keep hsz
                subst hx hdf
                have hck8 := (hb8.cell (p := ⟨b, o + k * 5, none⟩) hbB).trans hck0
                have HM8 := hide hm8
                have HB8 := hide hb8
                clear hm8 hb8 hcs hcd hck0 hbB
                rcases and1 kd with h01 | h01
                · have hbits := h01
                  clear h01
                  go_wp2
                  go_roundw
                  case rel => exact ⟨k + 1, _, _, by omega, by go_num, HPW.out, (HSD0.out.wr 0 s l).more (by omega), HSE0.out.wr 0 s l, HM8.out, HB8.out⟩
                  case measure => simp [intOf]; omega
                · have hbits := h01
                  clear h01
                  go_wp2_with (first
                    | (go_at_call 15; (with_reducible refine (rg_b1 HM8.out 0).mono ?_); rintro e w9 ⟨rfl, hm, ho⟩; have HM9 := hide hm; have HB9 := hide (HB8.out.trans (ho.below HB8.out.size (fun _ h => h))); clear hm ho)
                    | (go_at_call 15; (with_reducible refine (rg_b2 HM9.out 0).mono ?_); rintro e w10 ⟨rfl, hm, ho⟩; rw [HPW.out.br0.2]; have HM10 := hide hm; have HB10 := hide (HB9.out.trans (ho.below HB9.out.size (fun _ h => h))); clear hm ho))
                  go_roundw
                  case rel => exact ⟨k + 1, _, _, by omega, by go_num, HPW.out.br0.1, ((HSD0.out.wr 0 s l).br 0).more (by omega), (HSE0.out.wr 0 s l).br 0, HM10.out, HB10.out⟩
                  case measure => simp [intOf]; omega
            · have hnx : decide ((k : Int) < (ca.length : Int)) = false := by simp; omega
              go_wp2
              go_roundw
              case rel => exact ⟨k + 1, _, _, by omega, by go_num, HP.out, HSD0.out.more (by omega), HSE0.out.more (by omega), HM.out, HB.out⟩
              case measure => simp [intOf]; omega
          · by_cases hai : k < ca.length
            · obtain ⟨b, o, cap, he, kd, r, s, A2, n, c2, l, mask, hck, hln, -, -, hrange, hrow, -, -, -⟩ := call_at HVA.out (Below.refl _ w) hai
              injection he with e1 e2 e3
              subst e1
              subst e3
              have hcs := hrange 2 _ rfl
              have hcd := hrange 3 _ rfl
              have hck0 : w.cell? ⟨b, o + k * 5, none⟩ = some (.int .i64 kd) := hrange 0 _ rfl
              have hbB := blk_of_range hck0
              have HRW := hide hrow
              have HLN := hide hln
              have hix : (k : Int) < (ca.length : Int) := by omega
              clear hrange hrow hln hck
              go_wp2_with (go_at_call 15; (with_reducible refine (rg_b1 HM.out 1).mono ?_); rintro e w7 ⟨rfl, hm, ho⟩; have HM7 := hide hm; have HB7 := hide (HB.out.trans (ho.below HB.out.size (fun _ h => h))); clear hm ho)
              have hp7 := HP.out.br1
              have hs7 := HSD0.out.br 1
              have hm7 := HM7.out
              have hb7 := HB7.out
              obtain ⟨D, hD⟩ : ∃ D2, D.br 1 = D2 := ⟨_, rfl⟩
              rw [hD] at hp7 hs7 hm7
              clear hD HP HSD0 HM HB
              have HP := hide hp7
              have HSD0 := hide hs7
              have HM := hide hm7
              have HB := hide hb7
              clear hp7 hs7 hm7 hb7
              have HSD := hide (HSD0.out.more (show 2 * k + 1 ≤ 1000000 by omega))
              have HSE := hide (HSE0.out.more (show k ≤ 1000000 by omega))
              have hpw := HP.out.wr0 s l
              have HPW := hide hpw.1
              have HCE := hide hpw.2
              clear hpw
              refine region_phases (ops := _) (valV [some (ptr d), some (.slice (some ⟨b, o, none⟩) ca.length c), some (.int .i64 (k : Int)), some (.pointer (some ⟨b, o + k * 5, none⟩)), some (.pointer (some ⟨b, o + k * 5 + 2, none⟩)), some (.int .i64 s), some (.slice (some ⟨b, o, none⟩) ca.length c), some (.int .i64 (k : Int)), some (.pointer (some ⟨b, o + k * 5, none⟩)), some (.pointer (some ⟨b, o + k * 5 + 3, none⟩)), some (.slice A2 n c2), some (.int .i64 (D.wrCode 0 s l.length)), some (ptr e), some (.slice (some ⟨b, o, none⟩) ca.length c), some (.int .i64 (k : Int)), some (.pointer (some ⟨b, o + k * 5, none⟩)), some (.pointer (some ⟨b, o + k * 5 + 2, none⟩)), some (.int .i64 s), some (.slice (some ⟨b, o, none⟩) ca.length c), some (.int .i64 (k : Int)), some (.pointer (some ⟨b, o + k * 5, none⟩)), some (.pointer (some ⟨b, o + k * 5 + 3, none⟩)), some (.slice A2 n c2), some (.int .i64 (D.wrCode 0 s l.length)), some (.int .i64 (D.wrCode 0 s l.length)), some (.int .i64 (D.wrCode 0 s l.length))]) (phased [⟨23, 23, fun _ w2 => Many w2 (fun k => k < w.heap.size) [(d, D.wr 0 s l), (e, E.wr 0 s l)] ∧ Below w.heap.size w w2⟩, ⟨11, 11, fun _ w2 => Many w2 (fun k => k < w.heap.size) [(d, D.wr 0 s l), (e, E)] ∧ Below w.heap.size w w2⟩] (fun w2 => Many w2 (fun k => k < w.heap.size) [(d, D), (e, E)] ∧ Below w.heap.size w w2)) (by kernel_rfl) (by kernel_rfl) (by kernel_rfl) (by kernel_rfl) (phased_ext (by kernel_rfl)) ?_ ?_ ?_
              · exact ⟨HM.out.drew, HB.out.drew⟩
              · intro i o ho L a w2 hph hsz hLi hnot hyes old dep
                match i, ho with
                | 0, ho =>
                  obtain rfl := Option.some.inj ho
                  rw [if_pos (wanted_none rfl)]
                  have o7 := old 7 (by kernel_rfl)
                  refine wp_yields (v := ptr d) (w' := w2) ?_ (fun u hu => Option.some.inj (Option.some.inj hu)) (phased_quiet hLi (by rfl) hph)
                  clear dep old ho hsz hph hnot hyes hLi
                  go_simp
                | 1, ho =>
                  obtain rfl := Option.some.inj ho
                  rw [if_pos (wanted_none rfl)]
                  have o0 := old 0 (by kernel_rfl)
                  refine wp_yields (v := .slice (some ⟨b, o, none⟩) ca.length c) (w' := w2) ?_ (fun u hu => Option.some.inj (Option.some.inj hu)) (phased_quiet hLi (by rfl) hph)
                  clear dep old ho hsz hph hnot hyes hLi
                  go_simp
                | 2, ho =>
                  obtain rfl := Option.some.inj ho
                  rw [if_pos (wanted_none rfl)]
                  have o9 := old 9 (by kernel_rfl)
                  refine wp_yields (v := .int .i64 (k : Int)) (w' := w2) ?_ (fun u hu => Option.some.inj (Option.some.inj hu)) (phased_quiet hLi (by rfl) hph)
                  clear dep old ho hsz hph hnot hyes hLi
                  go_simp
                | 3, ho =>
                  obtain rfl := Option.some.inj ho
                  rw [if_pos (wanted_none rfl)]
                  have d1 : a.tmps.getD 67 undef = .slice (some ⟨b, o, none⟩) ca.length c := dep 1 _ _ (by kernel_rfl) rfl rfl _ rfl
                  have e1 : a.tmps[67]?.getD undef = .slice (some ⟨b, o, none⟩) ca.length c := (Array.getD_eq_getD_getElem? ..).symm.trans d1
                  have d2 : a.tmps.getD 68 undef = .int .i64 (k : Int) := dep 2 _ _ (by kernel_rfl) rfl rfl _ rfl
                  have e2 : a.tmps[68]?.getD undef = .int .i64 (k : Int) := (Array.getD_eq_getD_getElem? ..).symm.trans d2
                  refine wp_yields (v := .pointer (some ⟨b, o + k * 5, none⟩)) (w' := w2) ?_ (fun u hu => Option.some.inj (Option.some.inj hu)) (phased_quiet hLi (by rfl) hph)
                  clear dep old ho hsz hph hnot hyes hLi
                  go_simp
                | 4, ho =>
                  obtain rfl := Option.some.inj ho
                  rw [if_pos (wanted_none rfl)]
                  have d3 : a.tmps.getD 69 undef = .pointer (some ⟨b, o + k * 5, none⟩) := dep 3 _ _ (by kernel_rfl) rfl rfl _ rfl
                  have e3 : a.tmps[69]?.getD undef = .pointer (some ⟨b, o + k * 5, none⟩) := (Array.getD_eq_getD_getElem? ..).symm.trans d3
                  refine wp_yields (v := .pointer (some ⟨b, o + k * 5 + 2, none⟩)) (w' := w2) ?_ (fun u hu => Option.some.inj (Option.some.inj hu)) (phased_quiet hLi (by rfl) hph)
                  clear dep old ho hsz hph hnot hyes hLi
                  go_simp
                | 5, ho =>
                  obtain rfl := Option.some.inj ho
                  rw [if_pos (wanted_none rfl)]
                  have d4 : a.tmps.getD 70 undef = .pointer (some ⟨b, o + k * 5 + 2, none⟩) := dep 4 _ _ (by kernel_rfl) rfl rfl _ rfl
                  have e4 : a.tmps[70]?.getD undef = .pointer (some ⟨b, o + k * 5 + 2, none⟩) := (Array.getD_eq_getD_getElem? ..).symm.trans d4
                  have hA : Below w.heap.size w w2 := phased_all (R := fun w2 => Below w.heap.size w w2) (fun q hq v w h => by simp only [List.mem_cons, List.not_mem_nil, or_false] at hq; rcases hq with rfl | rfl <;> exact h.2) (fun w h => h.2) hph
                  have hcc := (hA.cell (p := ⟨b, o + k * 5 + 2, none⟩) hbB).trans hcs
                  refine wp_yields (v := .int .i64 s) (w' := w2) ?_ (fun u hu => Option.some.inj (Option.some.inj hu)) (phased_quiet hLi (by rfl) hph)
                  clear dep old ho hsz hph hA hnot hyes hLi
                  go_simp
                | 6, ho =>
                  obtain rfl := Option.some.inj ho
                  rw [if_pos (wanted_none rfl)]
                  have o0 := old 0 (by kernel_rfl)
                  refine wp_yields (v := .slice (some ⟨b, o, none⟩) ca.length c) (w' := w2) ?_ (fun u hu => Option.some.inj (Option.some.inj hu)) (phased_quiet hLi (by rfl) hph)
                  clear dep old ho hsz hph hnot hyes hLi
                  go_simp
                | 7, ho =>
                  obtain rfl := Option.some.inj ho
                  rw [if_pos (wanted_none rfl)]
                  have o9 := old 9 (by kernel_rfl)
                  refine wp_yields (v := .int .i64 (k : Int)) (w' := w2) ?_ (fun u hu => Option.some.inj (Option.some.inj hu)) (phased_quiet hLi (by rfl) hph)
                  clear dep old ho hsz hph hnot hyes hLi
                  go_simp
                | 8, ho =>
                  obtain rfl := Option.some.inj ho
                  rw [if_pos (wanted_none rfl)]
                  have d6 : a.tmps.getD 72 undef = .slice (some ⟨b, o, none⟩) ca.length c := dep 6 _ _ (by kernel_rfl) rfl rfl _ rfl
                  have e6 : a.tmps[72]?.getD undef = .slice (some ⟨b, o, none⟩) ca.length c := (Array.getD_eq_getD_getElem? ..).symm.trans d6
                  have d7 : a.tmps.getD 73 undef = .int .i64 (k : Int) := dep 7 _ _ (by kernel_rfl) rfl rfl _ rfl
                  have e7 : a.tmps[73]?.getD undef = .int .i64 (k : Int) := (Array.getD_eq_getD_getElem? ..).symm.trans d7
                  refine wp_yields (v := .pointer (some ⟨b, o + k * 5, none⟩)) (w' := w2) ?_ (fun u hu => Option.some.inj (Option.some.inj hu)) (phased_quiet hLi (by rfl) hph)
                  clear dep old ho hsz hph hnot hyes hLi
                  go_simp
                | 9, ho =>
                  obtain rfl := Option.some.inj ho
                  rw [if_pos (wanted_none rfl)]
                  have d8 : a.tmps.getD 74 undef = .pointer (some ⟨b, o + k * 5, none⟩) := dep 8 _ _ (by kernel_rfl) rfl rfl _ rfl
                  have e8 : a.tmps[74]?.getD undef = .pointer (some ⟨b, o + k * 5, none⟩) := (Array.getD_eq_getD_getElem? ..).symm.trans d8
                  refine wp_yields (v := .pointer (some ⟨b, o + k * 5 + 3, none⟩)) (w' := w2) ?_ (fun u hu => Option.some.inj (Option.some.inj hu)) (phased_quiet hLi (by rfl) hph)
                  clear dep old ho hsz hph hnot hyes hLi
                  go_simp
                | 10, ho =>
                  obtain rfl := Option.some.inj ho
                  rw [if_pos (wanted_none rfl)]
                  have d9 : a.tmps.getD 75 undef = .pointer (some ⟨b, o + k * 5 + 3, none⟩) := dep 9 _ _ (by kernel_rfl) rfl rfl _ rfl
                  have e9 : a.tmps[75]?.getD undef = .pointer (some ⟨b, o + k * 5 + 3, none⟩) := (Array.getD_eq_getD_getElem? ..).symm.trans d9
                  have hA : Below w.heap.size w w2 := phased_all (R := fun w2 => Below w.heap.size w w2) (fun q hq v w h => by simp only [List.mem_cons, List.not_mem_nil, or_false] at hq; rcases hq with rfl | rfl <;> exact h.2) (fun w h => h.2) hph
                  have hcc := (hA.cell (p := ⟨b, o + k * 5 + 3, none⟩) hbB).trans hcd
                  refine wp_yields (v := .slice A2 n c2) (w' := w2) ?_ (fun u hu => Option.some.inj (Option.some.inj hu)) (phased_quiet hLi (by rfl) hph)
                  clear dep old ho hsz hph hA hnot hyes hLi
                  go_simp
                | 11, ho =>
                  obtain rfl := Option.some.inj ho
                  rw [if_pos (wanted_none rfl)]
                  have d0 : a.tmps.getD 66 undef = ptr d := dep 0 _ _ (by kernel_rfl) rfl rfl _ rfl
                  have e0 : a.tmps[66]?.getD undef = ptr d := (Array.getD_eq_getD_getElem? ..).symm.trans d0
                  have d5 : a.tmps.getD 71 undef = .int .i64 s := dep 5 _ _ (by kernel_rfl) rfl rfl _ rfl
                  have e5 : a.tmps[71]?.getD undef = .int .i64 s := (Array.getD_eq_getD_getElem? ..).symm.trans d5
                  have d10 : a.tmps.getD 76 undef = .slice A2 n c2 := dep 10 _ _ (by kernel_rfl) rfl rfl _ rfl
                  have e10 : a.tmps[76]?.getD undef = .slice A2 n c2 := (Array.getD_eq_getD_getElem? ..).symm.trans d10
                  have h23 := hnot 23 (by kernel_rfl)
                  unfold phased at hph
                  rw [if_neg (by rw [h23]; decide)] at hph
                  unfold phased at hph
                  rw [if_neg (by rw [hLi]; decide)] at hph
                  obtain ⟨hm, hb⟩ := hph
                  refine wp_enters (R := fun w' => Many w' (fun k => k < w.heap.size) [(d, D.wr 0 s l), (e, E)] ∧ Out (fun k => k < w.heap.size) w2 w') (f := 13) (args := #[ptr d, .int .i64 0, .int .i64 s, .slice A2 n c2]) ?_ (rg_w1 hm HSD.out 0 s HLN.out (HRW.out.below hb) hb.size) (fun u hu => Option.some.inj (Option.some.inj hu)) ?_
                  · clear dep old ho hsz hnot hyes hLi hm hb h23
                    go_simp
                  · rintro w3 ⟨hm3, ho3⟩
                    unfold phased
                    rw [if_neg (by simp [also, h23])]
                    unfold phased
                    rw [if_pos (by simp [also])]
                    exact ⟨by simp [also], hm3, hb.trans (ho3.below hb.size (fun _ h => h))⟩
                | 12, ho =>
                  obtain rfl := Option.some.inj ho
                  rw [if_pos (wanted_none rfl)]
                  have o8 := old 8 (by kernel_rfl)
                  refine wp_yields (v := ptr e) (w' := w2) ?_ (fun u hu => Option.some.inj (Option.some.inj hu)) (phased_quiet hLi (by rfl) hph)
                  clear dep old ho hsz hph hnot hyes hLi
                  go_simp
                | 13, ho =>
                  obtain rfl := Option.some.inj ho
                  rw [if_pos (wanted_none rfl)]
                  have o0 := old 0 (by kernel_rfl)
                  refine wp_yields (v := .slice (some ⟨b, o, none⟩) ca.length c) (w' := w2) ?_ (fun u hu => Option.some.inj (Option.some.inj hu)) (phased_quiet hLi (by rfl) hph)
                  clear dep old ho hsz hph hnot hyes hLi
                  go_simp
                | 14, ho =>
                  obtain rfl := Option.some.inj ho
                  rw [if_pos (wanted_none rfl)]
                  have o9 := old 9 (by kernel_rfl)
                  refine wp_yields (v := .int .i64 (k : Int)) (w' := w2) ?_ (fun u hu => Option.some.inj (Option.some.inj hu)) (phased_quiet hLi (by rfl) hph)
                  clear dep old ho hsz hph hnot hyes hLi
                  go_simp
                | 15, ho =>
                  obtain rfl := Option.some.inj ho
                  rw [if_pos (wanted_none rfl)]
                  have d13 : a.tmps.getD 79 undef = .slice (some ⟨b, o, none⟩) ca.length c := dep 13 _ _ (by kernel_rfl) rfl rfl _ rfl
                  have e13 : a.tmps[79]?.getD undef = .slice (some ⟨b, o, none⟩) ca.length c := (Array.getD_eq_getD_getElem? ..).symm.trans d13
                  have d14 : a.tmps.getD 80 undef = .int .i64 (k : Int) := dep 14 _ _ (by kernel_rfl) rfl rfl _ rfl
                  have e14 : a.tmps[80]?.getD undef = .int .i64 (k : Int) := (Array.getD_eq_getD_getElem? ..).symm.trans d14
                  refine wp_yields (v := .pointer (some ⟨b, o + k * 5, none⟩)) (w' := w2) ?_ (fun u hu => Option.some.inj (Option.some.inj hu)) (phased_quiet hLi (by rfl) hph)
                  clear dep old ho hsz hph hnot hyes hLi
                  go_simp
                | 16, ho =>
                  obtain rfl := Option.some.inj ho
                  rw [if_pos (wanted_none rfl)]
                  have d15 : a.tmps.getD 81 undef = .pointer (some ⟨b, o + k * 5, none⟩) := dep 15 _ _ (by kernel_rfl) rfl rfl _ rfl
                  have e15 : a.tmps[81]?.getD undef = .pointer (some ⟨b, o + k * 5, none⟩) := (Array.getD_eq_getD_getElem? ..).symm.trans d15
                  refine wp_yields (v := .pointer (some ⟨b, o + k * 5 + 2, none⟩)) (w' := w2) ?_ (fun u hu => Option.some.inj (Option.some.inj hu)) (phased_quiet hLi (by rfl) hph)
                  clear dep old ho hsz hph hnot hyes hLi
                  go_simp
                | 17, ho =>
                  obtain rfl := Option.some.inj ho
                  rw [if_pos (wanted_none rfl)]
                  have d16 : a.tmps.getD 82 undef = .pointer (some ⟨b, o + k * 5 + 2, none⟩) := dep 16 _ _ (by kernel_rfl) rfl rfl _ rfl
                  have e16 : a.tmps[82]?.getD undef = .pointer (some ⟨b, o + k * 5 + 2, none⟩) := (Array.getD_eq_getD_getElem? ..).symm.trans d16
                  have hA : Below w.heap.size w w2 := phased_all (R := fun w2 => Below w.heap.size w w2) (fun q hq v w h => by simp only [List.mem_cons, List.not_mem_nil, or_false] at hq; rcases hq with rfl | rfl <;> exact h.2) (fun w h => h.2) hph
                  have hcc := (hA.cell (p := ⟨b, o + k * 5 + 2, none⟩) hbB).trans hcs
                  refine wp_yields (v := .int .i64 s) (w' := w2) ?_ (fun u hu => Option.some.inj (Option.some.inj hu)) (phased_quiet hLi (by rfl) hph)
                  clear dep old ho hsz hph hA hnot hyes hLi
                  go_simp
                | 18, ho =>
                  obtain rfl := Option.some.inj ho
                  rw [if_pos (wanted_none rfl)]
                  have o0 := old 0 (by kernel_rfl)
                  refine wp_yields (v := .slice (some ⟨b, o, none⟩) ca.length c) (w' := w2) ?_ (fun u hu => Option.some.inj (Option.some.inj hu)) (phased_quiet hLi (by rfl) hph)
                  clear dep old ho hsz hph hnot hyes hLi
                  go_simp
                | 19, ho =>
                  obtain rfl := Option.some.inj ho
                  rw [if_pos (wanted_none rfl)]
                  have o9 := old 9 (by kernel_rfl)
                  refine wp_yields (v := .int .i64 (k : Int)) (w' := w2) ?_ (fun u hu => Option.some.inj (Option.some.inj hu)) (phased_quiet hLi (by rfl) hph)
                  clear dep old ho hsz hph hnot hyes hLi
                  go_simp
                | 20, ho =>
                  obtain rfl := Option.some.inj ho
                  rw [if_pos (wanted_none rfl)]
                  have d18 : a.tmps.getD 84 undef = .slice (some ⟨b, o, none⟩) ca.length c := dep 18 _ _ (by kernel_rfl) rfl rfl _ rfl
                  have e18 : a.tmps[84]?.getD undef = .slice (some ⟨b, o, none⟩) ca.length c := (Array.getD_eq_getD_getElem? ..).symm.trans d18
                  have d19 : a.tmps.getD 85 undef = .int .i64 (k : Int) := dep 19 _ _ (by kernel_rfl) rfl rfl _ rfl
                  have e19 : a.tmps[85]?.getD undef = .int .i64 (k : Int) := (Array.getD_eq_getD_getElem? ..).symm.trans d19
                  refine wp_yields (v := .pointer (some ⟨b, o + k * 5, none⟩)) (w' := w2) ?_ (fun u hu => Option.some.inj (Option.some.inj hu)) (phased_quiet hLi (by rfl) hph)
                  clear dep old ho hsz hph hnot hyes hLi
                  go_simp
                | 21, ho =>
                  obtain rfl := Option.some.inj ho
                  rw [if_pos (wanted_none rfl)]
                  have d20 : a.tmps.getD 86 undef = .pointer (some ⟨b, o + k * 5, none⟩) := dep 20 _ _ (by kernel_rfl) rfl rfl _ rfl
                  have e20 : a.tmps[86]?.getD undef = .pointer (some ⟨b, o + k * 5, none⟩) := (Array.getD_eq_getD_getElem? ..).symm.trans d20
                  refine wp_yields (v := .pointer (some ⟨b, o + k * 5 + 3, none⟩)) (w' := w2) ?_ (fun u hu => Option.some.inj (Option.some.inj hu)) (phased_quiet hLi (by rfl) hph)
                  clear dep old ho hsz hph hnot hyes hLi
                  go_simp
                | 22, ho =>
                  obtain rfl := Option.some.inj ho
                  rw [if_pos (wanted_none rfl)]
                  have d21 : a.tmps.getD 87 undef = .pointer (some ⟨b, o + k * 5 + 3, none⟩) := dep 21 _ _ (by kernel_rfl) rfl rfl _ rfl
                  have e21 : a.tmps[87]?.getD undef = .pointer (some ⟨b, o + k * 5 + 3, none⟩) := (Array.getD_eq_getD_getElem? ..).symm.trans d21
                  have hA : Below w.heap.size w w2 := phased_all (R := fun w2 => Below w.heap.size w w2) (fun q hq v w h => by simp only [List.mem_cons, List.not_mem_nil, or_false] at hq; rcases hq with rfl | rfl <;> exact h.2) (fun w h => h.2) hph
                  have hcc := (hA.cell (p := ⟨b, o + k * 5 + 3, none⟩) hbB).trans hcd
                  refine wp_yields (v := .slice A2 n c2) (w' := w2) ?_ (fun u hu => Option.some.inj (Option.some.inj hu)) (phased_quiet hLi (by rfl) hph)
                  clear dep old ho hsz hph hA hnot hyes hLi
                  go_simp
                | 23, ho =>
                  obtain rfl := Option.some.inj ho
                  rw [if_pos (wanted_none rfl)]
                  have d12 : a.tmps.getD 78 undef = ptr e := dep 12 _ _ (by kernel_rfl) rfl rfl _ rfl
                  have e12 : a.tmps[78]?.getD undef = ptr e := (Array.getD_eq_getD_getElem? ..).symm.trans d12
                  have d17 : a.tmps.getD 83 undef = .int .i64 s := dep 17 _ _ (by kernel_rfl) rfl rfl _ rfl
                  have e17 : a.tmps[83]?.getD undef = .int .i64 s := (Array.getD_eq_getD_getElem? ..).symm.trans d17
                  have d22 : a.tmps.getD 88 undef = .slice A2 n c2 := dep 22 _ _ (by kernel_rfl) rfl rfl _ rfl
                  have e22 : a.tmps[88]?.getD undef = .slice A2 n c2 := (Array.getD_eq_getD_getElem? ..).symm.trans d22
                  have h11 := hyes 11 (by kernel_rfl)
                  unfold phased at hph
                  rw [if_neg (by rw [hLi]; decide)] at hph
                  unfold phased at hph
                  rw [if_pos h11] at hph
                  obtain ⟨_, hm, hb⟩ := hph
                  have hc2 := rg_w2 hm HSE.out 0 s HLN.out (HRW.out.below hb) hb.size
                  rw [HCE.out] at hc2
                  refine wp_enters (R := fun w' => Many w' (fun k => k < w.heap.size) [(d, D.wr 0 s l), (e, E.wr 0 s l)] ∧ Out (fun k => k < w.heap.size) w2 w') (f := 13) (args := #[ptr e, .int .i64 0, .int .i64 s, .slice A2 n c2]) ?_ hc2 (fun u hu => Option.some.inj (Option.some.inj hu)) ?_
                  · clear dep old ho hsz hnot hyes hLi hm hb h11 hc2
                    go_simp
                  · rintro w3 ⟨hm3, ho3⟩
                    unfold phased
                    rw [if_pos (by simp [also])]
                    exact ⟨by simp [also], hm3, hb.trans (ho3.below hb.size (fun _ h => h))⟩
                | 24, ho =>
                  obtain rfl := Option.some.inj ho
                  rw [if_pos (wanted_none rfl)]
                  have d11 : a.tmps.getD 77 undef = .int .i64 (D.wrCode 0 s l.length) := dep 11 _ _ (by kernel_rfl) rfl rfl _ rfl
                  have e11 : a.tmps[77]?.getD undef = .int .i64 (D.wrCode 0 s l.length) := (Array.getD_eq_getD_getElem? ..).symm.trans d11
                  refine wp_yields (v := .int .i64 (D.wrCode 0 s l.length)) (w' := w2) ?_ (fun u hu => Option.some.inj (Option.some.inj hu)) (phased_quiet hLi (by rfl) hph)
                  clear dep old ho hsz hph hnot hyes hLi
                  go_simp
                | 25, ho =>
                  obtain rfl := Option.some.inj ho
                  rw [if_pos (wanted_none rfl)]
                  have d23 : a.tmps.getD 89 undef = .int .i64 (D.wrCode 0 s l.length) := dep 23 _ _ (by kernel_rfl) rfl rfl _ rfl
                  have e23 : a.tmps[89]?.getD undef = .int .i64 (D.wrCode 0 s l.length) := (Array.getD_eq_getD_getElem? ..).symm.trans d23
                  refine wp_yields (v := .int .i64 (D.wrCode 0 s l.length)) (w' := w2) ?_ (fun u hu => Option.some.inj (Option.some.inj hu)) (phased_quiet hLi (by rfl) hph)
                  clear dep old ho hsz hph hnot hyes hLi
                  go_simp
                | i + 26, ho => exact absurd ho (by simp)
              · intro a w8 hph hsz hdf fin keep
                unfold phased at hph
                rw [if_pos rfl] at hph
                obtain ⟨_, hm8, hb8⟩ := hph
                obtain ⟨tm, df⟩ := a
                have hx : tm = #[tm.getD 0 undef, tm.getD 1 undef, tm.getD 2 undef, tm.getD 3 undef, tm.getD 4 undef, tm.getD 5 undef, tm.getD 6 undef, tm.getD 7 undef, tm.getD 8 undef, tm.getD 9 undef, tm.getD 10 undef, tm.getD 11 undef, tm.getD 12 undef, tm.getD 13 undef, tm.getD 14 undef, tm.getD 15 undef, tm.getD 16 undef, tm.getD 17 undef, tm.getD 18 undef, tm.getD 19 undef, tm.getD 20 undef, tm.getD 21 undef, tm.getD 22 undef, tm.getD 23 undef, tm.getD 24 undef, tm.getD 25 undef, tm.getD 26 undef, tm.getD 27 undef, tm.getD 28 undef, tm.getD 29 undef, tm.getD 30 undef, tm.getD 31 undef, tm.getD 32 undef, tm.getD 33 undef, tm.getD 34 undef, tm.getD 35 undef, tm.getD 36 undef, tm.getD 37 undef, tm.getD 38 undef, tm.getD 39 undef, tm.getD 40 undef, tm.getD 41 undef, tm.getD 42 undef, tm.getD 43 undef, tm.getD 44 undef, tm.getD 45 undef, tm.getD 46 undef, tm.getD 47 undef, tm.getD 48 undef, tm.getD 49 undef, tm.getD 50 undef, tm.getD 51 undef, tm.getD 52 undef, tm.getD 53 undef, tm.getD 54 undef, tm.getD 55 undef, tm.getD 56 undef, tm.getD 57 undef, tm.getD 58 undef, tm.getD 59 undef, tm.getD 60 undef, tm.getD 61 undef, tm.getD 62 undef, tm.getD 63 undef, tm.getD 64 undef, tm.getD 65 undef, tm.getD 66 undef, tm.getD 67 undef, tm.getD 68 undef, tm.getD 69 undef, tm.getD 70 undef, tm.getD 71 undef, tm.getD 72 undef, tm.getD 73 undef, tm.getD 74 undef, tm.getD 75 undef, tm.getD 76 undef, tm.getD 77 undef, tm.getD 78 undef, tm.getD 79 undef, tm.getD 80 undef, tm.getD 81 undef, tm.getD 82 undef, tm.getD 83 undef, tm.getD 84 undef, tm.getD 85 undef, tm.getD 86 undef, tm.getD 87 undef, tm.getD 88 undef, tm.getD 89 undef, tm.getD 90 undef, tm.getD 91 undef, tm.getD 92 undef, tm.getD 93 undef, tm.getD 94 undef, tm.getD 95 undef, tm.getD 96 undef, tm.getD 97 undef, tm.getD 98 undef, tm.getD 99 undef, tm.getD 100 undef, tm.getD 101 undef, tm.getD 102 undef, tm.getD 103 undef, tm.getD 104 undef, tm.getD 105 undef, tm.getD 106 undef, tm.getD 107 undef, tm.getD 108 undef, tm.getD 109 undef, tm.getD 110 undef, tm.getD 111 undef, tm.getD 112 undef, tm.getD 113 undef, tm.getD 114 undef, tm.getD 115 undef, tm.getD 116 undef, tm.getD 117 undef, tm.getD 118 undef, tm.getD 119 undef, tm.getD 120 undef, tm.getD 121 undef, tm.getD 122 undef, tm.getD 123 undef, tm.getD 124 undef, tm.getD 125 undef, tm.getD 126 undef, tm.getD 127 undef, tm.getD 128 undef, tm.getD 129 undef, tm.getD 130 undef, tm.getD 131 undef] := slots_of tm 132 hsz
                have kn10 : tm.getD 10 undef = .int .i64 (D.wrCode 0 s l.length) := fin 24 _ _ rfl rfl _ rfl
                rw [kn10] at hx
                clear kn10
                have kn11 : tm.getD 11 undef = .int .i64 (D.wrCode 0 s l.length) := fin 25 _ _ rfl rfl _ rfl
                rw [kn11] at hx
                clear kn11
                generalize tm.getD 66 undef = y66 at hx
                generalize tm.getD 67 undef = y67 at hx
                generalize tm.getD 68 undef = y68 at hx
                generalize tm.getD 69 undef = y69 at hx
                generalize tm.getD 70 undef = y70 at hx
                generalize tm.getD 71 undef = y71 at hx
                generalize tm.getD 72 undef = y72 at hx
                generalize tm.getD 73 undef = y73 at hx
                generalize tm.getD 74 undef = y74 at hx
                generalize tm.getD 75 undef = y75 at hx
                generalize tm.getD 76 undef = y76 at hx
                generalize tm.getD 77 undef = y77 at hx
                generalize tm.getD 78 undef = y78 at hx
                generalize tm.getD 79 undef = y79 at hx
                generalize tm.getD 80 undef = y80 at hx
                generalize tm.getD 81 undef = y81 at hx
                generalize tm.getD 82 undef = y82 at hx
                generalize tm.getD 83 undef = y83 at hx
                generalize tm.getD 84 undef = y84 at hx
                generalize tm.getD 85 undef = y85 at hx
                generalize tm.getD 86 undef = y86 at hx
                generalize tm.getD 87 undef = y87 at hx
                generalize tm.getD 88 undef = y88 at hx
                generalize tm.getD 89 undef = y89 at hx
                rw [show tm.getD 0 undef = _ from keep 0 (by kernel_rfl)] at hx
                rw [show tm.getD 1 undef = _ from keep 1 (by kernel_rfl)] at hx
                rw [show tm.getD 2 undef = _ from keep 2 (by kernel_rfl)] at hx
                rw [show tm.getD 3 undef = _ from keep 3 (by kernel_rfl)] at hx
                rw [show tm.getD 4 undef = _ from keep 4 (by kernel_rfl)] at hx
                rw [show tm.getD 5 undef = _ from keep 5 (by kernel_rfl)] at hx
                rw [show tm.getD 6 undef = _ from keep 6 (by kernel_rfl)] at hx
                rw [show tm.getD 7 undef = _ from keep 7 (by kernel_rfl)] at hx
                rw [show tm.getD 8 undef = _ from keep 8 (by kernel_rfl)] at hx
                rw [show tm.getD 9 undef = _ from keep 9 (by kernel_rfl)] at hx
                rw [show tm.getD 12 undef = _ from keep 12 (by kernel_rfl)] at hx
                rw [show tm.getD 13 undef = _ from keep 13 (by kernel_rfl)] at hx
                rw [show tm.getD 14 undef = _ from keep 14 (by kernel_rfl)] at hx
                rw [show tm.getD 15 undef = _ from keep 15 (by kernel_rfl)] at hx
                rw [show tm.getD 16 undef = _ from keep 16 (by kernel_rfl)] at hx
                rw [show tm.getD 17 undef = _ from keep 17 (by kernel_rfl)] at hx
                rw [show tm.getD 18 undef = _ from keep 18 (by kernel_rfl)] at hx
                rw [show tm.getD 19 undef = _ from keep 19 (by kernel_rfl)] at hx
                rw [show tm.getD 20 undef = _ from keep 20 (by kernel_rfl)] at hx
                rw [show tm.getD 21 undef = _ from keep 21 (by kernel_rfl)] at hx
                rw [show tm.getD 22 undef = _ from keep 22 (by kernel_rfl)] at hx
                rw [show tm.getD 23 undef = _ from keep 23 (by kernel_rfl)] at hx
                rw [show tm.getD 24 undef = _ from keep 24 (by kernel_rfl)] at hx
                rw [show tm.getD 25 undef = _ from keep 25 (by kernel_rfl)] at hx
                rw [show tm.getD 26 undef = _ from keep 26 (by kernel_rfl)] at hx
                rw [show tm.getD 27 undef = _ from keep 27 (by kernel_rfl)] at hx
                rw [show tm.getD 28 undef = _ from keep 28 (by kernel_rfl)] at hx
                rw [show tm.getD 29 undef = _ from keep 29 (by kernel_rfl)] at hx
                rw [show tm.getD 30 undef = _ from keep 30 (by kernel_rfl)] at hx
                rw [show tm.getD 31 undef = _ from keep 31 (by kernel_rfl)] at hx
                rw [show tm.getD 32 undef = _ from keep 32 (by kernel_rfl)] at hx
                rw [show tm.getD 33 undef = _ from keep 33 (by kernel_rfl)] at hx
                rw [show tm.getD 34 undef = _ from keep 34 (by kernel_rfl)] at hx
                rw [show tm.getD 35 undef = _ from keep 35 (by kernel_rfl)] at hx
                rw [show tm.getD 36 undef = _ from keep 36 (by kernel_rfl)] at hx
                rw [show tm.getD 37 undef = _ from keep 37 (by kernel_rfl)] at hx
                rw [show tm.getD 38 undef = _ from keep 38 (by kernel_rfl)] at hx
                rw [show tm.getD 39 undef = _ from keep 39 (by kernel_rfl)] at hx
                rw [show tm.getD 40 undef = _ from keep 40 (by kernel_rfl)] at hx
                rw [show tm.getD 41 undef = _ from keep 41 (by kernel_rfl)] at hx
                rw [show tm.getD 42 undef = _ from keep 42 (by kernel_rfl)] at hx
                rw [show tm.getD 43 undef = _ from keep 43 (by kernel_rfl)] at hx
                rw [show tm.getD 44 undef = _ from keep 44 (by kernel_rfl)] at hx
                rw [show tm.getD 45 undef = _ from keep 45 (by kernel_rfl)] at hx
                rw [show tm.getD 46 undef = _ from keep 46 (by kernel_rfl)] at hx
                rw [show tm.getD 47 undef = _ from keep 47 (by kernel_rfl)] at hx
                rw [show tm.getD 48 undef = _ from keep 48 (by kernel_rfl)] at hx
                rw [show tm.getD 49 undef = _ from keep 49 (by kernel_rfl)] at hx
                rw [show tm.getD 50 undef = _ from keep 50 (by kernel_rfl)] at hx
                rw [show tm.getD 51 undef = _ from keep 51 (by kernel_rfl)] at hx
                rw [show tm.getD 52 undef = _ from keep 52 (by kernel_rfl)] at hx
                rw [show tm.getD 53 undef = _ from keep 53 (by kernel_rfl)] at hx
                rw [show tm.getD 54 undef = _ from keep 54 (by kernel_rfl)] at hx
                rw [show tm.getD 55 undef = _ from keep 55 (by kernel_rfl)] at hx
                rw [show tm.getD 56 undef = _ from keep 56 (by kernel_rfl)] at hx
                rw [show tm.getD 57 undef = _ from keep 57 (by kernel_rfl)] at hx
                rw [show tm.getD 58 undef = _ from keep 58 (by kernel_rfl)] at hx
                rw [show tm.getD 59 undef = _ from keep 59 (by kernel_rfl)] at hx
                rw [show tm.getD 60 undef = _ from keep 60 (by kernel_rfl)] at hx
                rw [show tm.getD 61 undef = _ from keep 61 (by kernel_rfl)] at hx
                rw [show tm.getD 62 undef = _ from keep 62 (by kernel_rfl)] at hx
                rw [show tm.getD 63 undef = _ from keep 63 (by kernel_rfl)] at hx
                rw [show tm.getD 64 undef = _ from keep 64 (by kernel_rfl)] at hx
                rw [show tm.getD 65 undef = _ from keep 65 (by kernel_rfl)] at hx
                rw [show tm.getD 90 undef = _ from keep 90 (by kernel_rfl)] at hx
                rw [show tm.getD 91 undef = _ from keep 91 (by kernel_rfl)] at hx
                rw [show tm.getD 92 undef = _ from keep 92 (by kernel_rfl)] at hx
                rw [show tm.getD 93 undef = _ from keep 93 (by kernel_rfl)] at hx
                rw [show tm.getD 94 undef = _ from keep 94 (by kernel_rfl)] at hx
                rw [show tm.getD 95 undef = _ from keep 95 (by kernel_rfl)] at hx
                rw [show tm.getD 96 undef = _ from keep 96 (by kernel_rfl)] at hx
                rw [show tm.getD 97 undef = _ from keep 97 (by kernel_rfl)] at hx
                rw [show tm.getD 98 undef = _ from keep 98 (by kernel_rfl)] at hx
                rw [show tm.getD 99 undef = _ from keep 99 (by kernel_rfl)] at hx
                rw [show tm.getD 100 undef = _ from keep 100 (by kernel_rfl)] at hx
                rw [show tm.getD 101 undef = _ from keep 101 (by kernel_rfl)] at hx
                rw [show tm.getD 102 undef = _ from keep 102 (by kernel_rfl)] at hx
                rw [show tm.getD 103 undef = _ from keep 103 (by kernel_rfl)] at hx
                rw [show tm.getD 104 undef = _ from keep 104 (by kernel_rfl)] at hx
                rw [show tm.getD 105 undef = _ from keep 105 (by kernel_rfl)] at hx
                rw [show tm.getD 106 undef = _ from keep 106 (by kernel_rfl)] at hx
                rw [show tm.getD 107 undef = _ from keep 107 (by kernel_rfl)] at hx
                rw [show tm.getD 108 undef = _ from keep 108 (by kernel_rfl)] at hx
                rw [show tm.getD 109 undef = _ from keep 109 (by kernel_rfl)] at hx
                rw [show tm.getD 110 undef = _ from keep 110 (by kernel_rfl)] at hx
                rw [show tm.getD 111 undef = _ from keep 111 (by kernel_rfl)] at hx
                rw [show tm.getD 112 undef = _ from keep 112 (by kernel_rfl)] at hx
                rw [show tm.getD 113 undef = _ from keep 113 (by kernel_rfl)] at hx
                rw [show tm.getD 114 undef = _ from keep 114 (by kernel_rfl)] at hx
                rw [show tm.getD 115 undef = _ from keep 115 (by kernel_rfl)] at hx
                rw [show tm.getD 116 undef = _ from keep 116 (by kernel_rfl)] at hx
                rw [show tm.getD 117 undef = _ from keep 117 (by kernel_rfl)] at hx
                rw [show tm.getD 118 undef = _ from keep 118 (by kernel_rfl)] at hx
                rw [show tm.getD 119 undef = _ from keep 119 (by kernel_rfl)] at hx
                rw [show tm.getD 120 undef = _ from keep 120 (by kernel_rfl)] at hx
                rw [show tm.getD 121 undef = _ from keep 121 (by kernel_rfl)] at hx
                rw [show tm.getD 122 undef = _ from keep 122 (by kernel_rfl)] at hx
                rw [show tm.getD 123 undef = _ from keep 123 (by kernel_rfl)] at hx
                rw [show tm.getD 124 undef = _ from keep 124 (by kernel_rfl)] at hx
                rw [show tm.getD 125 undef = _ from keep 125 (by kernel_rfl)] at hx
                rw [show tm.getD 126 undef = _ from keep 126 (by kernel_rfl)] at hx
                rw [show tm.getD 127 undef = _ from keep 127 (by kernel_rfl)] at hx
                rw [show tm.getD 128 undef = _ from keep 128 (by kernel_rfl)] at hx
                rw [show tm.getD 129 undef = _ from keep 129 (by kernel_rfl)] at hx
                rw [show tm.getD 130 undef = _ from keep 130 (by kernel_rfl)] at hx
                rw [show tm.getD 131 undef = _ from keep 131 (by kernel_rfl)] at hx
                simp only [Array.getD_eq_getD_getElem?, List.getElem?_toArray, List.getElem?_cons_succ, List.getElem?_cons_zero, Option.getD_some] at hx
                dsimp only at hdf
                clear fin keep hsz
                subst hx hdf
                have hck8 := (hb8.cell (p := ⟨b, o + k * 5, none⟩) hbB).trans hck0
                have HM8 := hide hm8
                have HB8 := hide hb8
                clear hm8 hb8 hcs hcd hck0 hbB
                rcases and1 kd with h01 | h01
                · have hbits := h01
                  clear h01
                  go_wp2
                  go_roundw
                  case rel => exact ⟨k + 1, _, _, by omega, by go_num, HPW.out, (HSD0.out.wr 0 s l).more (by omega), HSE0.out.wr 0 s l, HM8.out, HB8.out⟩
                  case measure => simp [intOf]; omega
                · have hbits := h01
                  clear h01
                  go_wp2_with (first
                    | (go_at_call 15; (with_reducible refine (rg_b1 HM8.out 0).mono ?_); rintro e w9 ⟨rfl, hm, ho⟩; have HM9 := hide hm; have HB9 := hide (HB8.out.trans (ho.below HB8.out.size (fun _ h => h))); clear hm ho)
                    | (go_at_call 15; (with_reducible refine (rg_b2 HM9.out 0).mono ?_); rintro e w10 ⟨rfl, hm, ho⟩; rw [HPW.out.br0.2]; have HM10 := hide hm; have HB10 := hide (HB9.out.trans (ho.below HB9.out.size (fun _ h => h))); clear hm ho))
                  go_roundw
                  case rel => exact ⟨k + 1, _, _, by omega, by go_num, HPW.out.br0.1, ((HSD0.out.wr 0 s l).br 0).more (by omega), (HSE0.out.wr 0 s l).br 0, HM10.out, HB10.out⟩
                  case measure => simp [intOf]; omega
            · have hnx : decide ((k : Int) < (ca.length : Int)) = false := by simp; omega
              go_wp2_with (go_at_call 15; (with_reducible refine (rg_b1 HM.out 1).mono ?_); rintro e w7 ⟨rfl, hm, ho⟩; have HM7 := hide hm; have HB7 := hide (HB.out.trans (ho.below HB.out.size (fun _ h => h))); clear hm ho)
              have hp7 := HP.out.br1
              have hs7 := HSD0.out.br 1
              have hm7 := HM7.out
              have hb7 := HB7.out
              obtain ⟨D, hD⟩ : ∃ D2, D.br 1 = D2 := ⟨_, rfl⟩
              rw [hD] at hp7 hs7 hm7
              clear hD HP HSD0 HM HB
              have HP := hide hp7
              have HSD0 := hide hs7
              have HM := hide hm7
              have HB := hide hb7
              clear hp7 hs7 hm7 hb7
              go_roundw
              case rel => exact ⟨k + 1, _, _, by omega, by go_num, HP.out, HSD0.out.more (by omega), HSE0.out.more (by omega), HM.out, HB.out⟩
              case measure => simp [intOf]; omega
      · have hnb : decide ((k : Int) < (cb.length : Int)) = false := by simp; omega
        by_cases hai : k < ca.length
        · obtain ⟨b, o, cap, he, kd, r, s, A2, n, c2, l, mask, hck, hln, -, -, hrange, hrow, -, -, -⟩ := call_at HVA.out (Below.refl _ w) hai
          injection he with e1 e2 e3
          subst e1
          subst e3
          have hcs := hrange 2 _ rfl
          have hcd := hrange 3 _ rfl
          have hck0 : w.cell? ⟨b, o + k * 5, none⟩ = some (.int .i64 kd) := hrange 0 _ rfl
          have hbB := blk_of_range hck0
          have HRW := hide hrow
          have HLN := hide hln
          have hix : (k : Int) < (ca.length : Int) := by omega
          clear hrange hrow hln hck
          go_wp2
          have HSD := hide (HSD0.out.more (show 2 * k ≤ 1000000 by omega))
          have HSE := hide (HSE0.out.more (show k ≤ 1000000 by omega))
          have hpw := HP.out.wr0 s l
          have HPW := hide hpw.1
          have HCE := hide hpw.2
          clear hpw
          refine region_phases (ops := _) (valV [some (ptr d), some (.slice (some ⟨b, o, none⟩) ca.length c), some (.int .i64 (k : Int)), some (.pointer (some ⟨b, o + k * 5, none⟩)), some (.pointer (some ⟨b, o + k * 5 + 2, none⟩)), some (.int .i64 s), some (.slice (some ⟨b, o, none⟩) ca.length c), some (.int .i64 (k : Int)), some (.pointer (some ⟨b, o + k * 5, none⟩)), some (.pointer (some ⟨b, o + k * 5 + 3, none⟩)), some (.slice A2 n c2), some (.int .i64 (D.wrCode 0 s l.length)), some (ptr e), some (.slice (some ⟨b, o, none⟩) ca.length c), some (.int .i64 (k : Int)), some (.pointer (some ⟨b, o + k * 5, none⟩)), some (.pointer (some ⟨b, o + k * 5 + 2, none⟩)), some (.int .i64 s), some (.slice (some ⟨b, o, none⟩) ca.length c), some (.int .i64 (k : Int)), some (.pointer (some ⟨b, o + k * 5, none⟩)), some (.pointer (some ⟨b, o + k * 5 + 3, none⟩)), some (.slice A2 n c2), some (.int .i64 (D.wrCode 0 s l.length)), some (.int .i64 (D.wrCode 0 s l.length)), some (.int .i64 (D.wrCode 0 s l.length))]) (phased [⟨23, 23, fun _ w2 => Many w2 (fun k => k < w.heap.size) [(d, D.wr 0 s l), (e, E.wr 0 s l)] ∧ Below w.heap.size w w2⟩, ⟨11, 11, fun _ w2 => Many w2 (fun k => k < w.heap.size) [(d, D.wr 0 s l), (e, E)] ∧ Below w.heap.size w w2⟩] (fun w2 => Many w2 (fun k => k < w.heap.size) [(d, D), (e, E)] ∧ Below w.heap.size w w2)) (by kernel_rfl) (by kernel_rfl) (by kernel_rfl) (by kernel_rfl) (phased_ext (by kernel_rfl)) ?_ ?_ ?_
          · exact ⟨HM.out.drew, HB.out.drew⟩
          · intro i o ho L a w2 hph hsz hLi hnot hyes old dep
            match i, ho with
            | 0, ho =>
              obtain rfl := Option.some.inj ho
              rw [if_pos (wanted_none rfl)]
              have o7 := old 7 (by kernel_rfl)
              refine wp_yields (v := ptr d) (w' := w2) ?_ (fun u hu => Option.some.inj (Option.some.inj hu)) (phased_quiet hLi (by rfl) hph)
              clear dep old ho hsz hph hnot hyes hLi
              go_simp
            | 1, ho =>
              obtain rfl := Option.some.inj ho
              rw [if_pos (wanted_none rfl)]
              have o0 := old 0 (by kernel_rfl)
              refine wp_yields (v := .slice (some ⟨b, o, none⟩) ca.length c) (w' := w2) ?_ (fun u hu => Option.some.inj (Option.some.inj hu)) (phased_quiet hLi (by rfl) hph)
              clear dep old ho hsz hph hnot hyes hLi
              go_simp
            | 2, ho =>
              obtain rfl := Option.some.inj ho
              rw [if_pos (wanted_none rfl)]
              have o9 := old 9 (by kernel_rfl)
              refine wp_yields (v := .int .i64 (k : Int)) (w' := w2) ?_ (fun u hu => Option.some.inj (Option.some.inj hu)) (phased_quiet hLi (by rfl) hph)
              clear dep old ho hsz hph hnot hyes hLi
              go_simp
            | 3, ho =>
              obtain rfl := Option.some.inj ho
              rw [if_pos (wanted_none rfl)]
              have d1 : a.tmps.getD 67 undef = .slice (some ⟨b, o, none⟩) ca.length c := dep 1 _ _ (by kernel_rfl) rfl rfl _ rfl
              have e1 : a.tmps[67]?.getD undef = .slice (some ⟨b, o, none⟩) ca.length c := (Array.getD_eq_getD_getElem? ..).symm.trans d1
              have d2 : a.tmps.getD 68 undef = .int .i64 (k : Int) := dep 2 _ _ (by kernel_rfl) rfl rfl _ rfl
              have e2 : a.tmps[68]?.getD undef = .int .i64 (k : Int) := (Array.getD_eq_getD_getElem? ..).symm.trans d2
              refine wp_yields (v := .pointer (some ⟨b, o + k * 5, none⟩)) (w' := w2) ?_ (fun u hu => Option.some.inj (Option.some.inj hu)) (phased_quiet hLi (by rfl) hph)
              clear dep old ho hsz hph hnot hyes hLi
              go_simp
            | 4, ho =>
              obtain rfl := Option.some.inj ho
              rw [if_pos (wanted_none rfl)]
              have d3 : a.tmps.getD 69 undef = .pointer (some ⟨b, o + k * 5, none⟩) := dep 3 _ _ (by kernel_rfl) rfl rfl _ rfl
              have e3 : a.tmps[69]?.getD undef = .pointer (some ⟨b, o + k * 5, none⟩) := (Array.getD_eq_getD_getElem? ..).symm.trans d3
              refine wp_yields (v := .pointer (some ⟨b, o + k * 5 + 2, none⟩)) (w' := w2) ?_ (fun u hu => Option.some.inj (Option.some.inj hu)) (phased_quiet hLi (by rfl) hph)
              clear dep old ho hsz hph hnot hyes hLi
              go_simp
            | 5, ho =>
              obtain rfl := Option.some.inj ho
              rw [if_pos (wanted_none rfl)]
              have d4 : a.tmps.getD 70 undef = .pointer (some ⟨b, o + k * 5 + 2, none⟩) := dep 4 _ _ (by kernel_rfl) rfl rfl _ rfl
              have e4 : a.tmps[70]?.getD undef = .pointer (some ⟨b, o + k * 5 + 2, none⟩) := (Array.getD_eq_getD_getElem? ..).symm.trans d4
              have hA : Below w.heap.size w w2 := phased_all (R := fun w2 => Below w.heap.size w w2) (fun q hq v w h => by simp only [List.mem_cons, List.not_mem_nil, or_false] at hq; rcases hq with rfl | rfl <;> exact h.2) (fun w h => h.2) hph
              have hcc := (hA.cell (p := ⟨b, o + k * 5 + 2, none⟩) hbB).trans hcs
              refine wp_yields (v := .int .i64 s) (w' := w2) ?_ (fun u hu => Option.some.inj (Option.some.inj hu)) (phased_quiet hLi (by rfl) hph)
              clear dep old ho hsz hph hA hnot hyes hLi
              go_simp
            | 6, ho =>
              obtain rfl := Option.some.inj ho
              rw [if_pos (wanted_none rfl)]
              have o0 := old 0 (by kernel_rfl)
              refine wp_yields (v := .slice (some ⟨b, o, none⟩) ca.length c) (w' := w2) ?_ (fun u hu => Option.some.inj (Option.some.inj hu)) (phased_quiet hLi (by rfl) hph)
              clear dep old ho hsz hph hnot hyes hLi
              go_simp
            | 7, ho =>
              obtain rfl := Option.some.inj ho
              rw [if_pos (wanted_none rfl)]
              have o9 := old 9 (by kernel_rfl)
              refine wp_yields (v := .int .i64 (k : Int)) (w' := w2) ?_ (fun u hu => Option.some.inj (Option.some.inj hu)) (phased_quiet hLi (by rfl) hph)
              clear dep old ho hsz hph hnot hyes hLi
              go_simp
            | 8, ho =>
              obtain rfl := Option.some.inj ho
              rw [if_pos (wanted_none rfl)]
              have d6 : a.tmps.getD 72 undef = .slice (some ⟨b, o, none⟩) ca.length c := dep 6 _ _ (by kernel_rfl) rfl rfl _ rfl
              have e6 : a.tmps[72]?.getD undef = .slice (some ⟨b, o, none⟩) ca.length c := (Array.getD_eq_getD_getElem? ..).symm.trans d6
              have d7 : a.tmps.getD 73 undef = .int .i64 (k : Int) := dep 7 _ _ (by kernel_rfl) rfl rfl _ rfl
              have e7 : a.tmps[73]?.getD undef = .int .i64 (k : Int) := (Array.getD_eq_getD_getElem? ..).symm.trans d7
              refine wp_yields (v := .pointer (some ⟨b, o + k * 5, none⟩)) (w' := w2) ?_ (fun u hu => Option.some.inj (Option.some.inj hu)) (phased_quiet hLi (by rfl) hph)
              clear dep old ho hsz hph hnot hyes hLi
              go_simp
            | 9, ho =>
              obtain rfl := Option.some.inj ho
              rw [if_pos (wanted_none rfl)]
              have d8 : a.tmps.getD 74 undef = .pointer (some ⟨b, o + k * 5, none⟩) := dep 8 _ _ (by kernel_rfl) rfl rfl _ rfl
              have e8 : a.tmps[74]?.getD undef = .pointer (some ⟨b, o + k * 5, none⟩) := (Array.getD_eq_getD_getElem? ..).symm.trans d8
              refine wp_yields (v := .pointer (some ⟨b, o + k * 5 + 3, none⟩)) (w' := w2) ?_ (fun u hu => Option.some.inj (Option.some.inj hu)) (phased_quiet hLi (by rfl) hph)
              clear dep old ho hsz hph hnot hyes hLi
              go_simp
            | 10, ho =>
              obtain rfl := Option.some.inj ho
              rw [if_pos (wanted_none rfl)]
              have d9 : a.tmps.getD 75 undef = .pointer (some ⟨b, o + k * 5 + 3, none⟩) := dep 9 _ _ (by kernel_rfl) rfl rfl _ rfl
              have e9 : a.tmps[75]?.getD undef = .pointer (some ⟨b, o + k * 5 + 3, none⟩) := (Array.getD_eq_getD_getElem? ..).symm.trans d9
              have hA : Below w.heap.size w w2 := phased_all (R := fun w2 => Below w.heap.size w w2) (fun q hq v w h => by simp only [List.mem_cons, List.not_mem_nil, or_false] at hq; rcases hq with rfl | rfl <;> exact h.2) (fun w h => h.2) hph
              have hcc := (hA.cell (p := ⟨b, o + k * 5 + 3, none⟩) hbB).trans hcd
              refine wp_yields (v := .slice A2 n c2) (w' := w2) ?_ (fun u hu => Option.some.inj (Option.some.inj hu)) (phased_quiet hLi (by rfl) hph)
              clear dep old ho hsz hph hA hnot hyes hLi
              go_simp
            | 11, ho =>
              obtain rfl := Option.some.inj ho
              rw [if_pos (wanted_none rfl)]
              have d0 : a.tmps.getD 66 undef = ptr d := dep 0 _ _ (by kernel_rfl) rfl rfl _ rfl
              have e0 : a.tmps[66]?.getD undef = ptr d := (Array.getD_eq_getD_getElem? ..).symm.trans d0
              have d5 : a.tmps.getD 71 undef = .int .i64 s := dep 5 _ _ (by kernel_rfl) rfl rfl _ rfl
              have e5 : a.tmps[71]?.getD undef = .int .i64 s := (Array.getD_eq_getD_getElem? ..).symm.trans d5
              have d10 : a.tmps.getD 76 undef = .slice A2 n c2 := dep 10 _ _ (by kernel_rfl) rfl rfl _ rfl
              have e10 : a.tmps[76]?.getD undef = .slice A2 n c2 := (Array.getD_eq_getD_getElem? ..).symm.trans d10
              have h23 := hnot 23 (by kernel_rfl)
              unfold phased at hph
              rw [if_neg (by rw [h23]; decide)] at hph
              unfold phased at hph
              rw [if_neg (by rw [hLi]; decide)] at hph
              obtain ⟨hm, hb⟩ := hph
              refine wp_enters (R := fun w' => Many w' (fun k => k < w.heap.size) [(d, D.wr 0 s l), (e, E)] ∧ Out (fun k => k < w.heap.size) w2 w') (f := 13) (args := #[ptr d, .int .i64 0, .int .i64 s, .slice A2 n c2]) ?_ (rg_w1 hm HSD.out 0 s HLN.out (HRW.out.below hb) hb.size) (fun u hu => Option.some.inj (Option.some.inj hu)) ?_
              · clear dep old ho hsz hnot hyes hLi hm hb h23
                go_simp
              · rintro w3 ⟨hm3, ho3⟩
                unfold phased
                rw [if_neg (by simp [also, h23])]
                unfold phased
                rw [if_pos (by simp [also])]
                exact ⟨by simp [also], hm3, hb.trans (ho3.below hb.size (fun _ h => h))⟩
            | 12, ho =>
              obtain rfl := Option.some.inj ho
              rw [if_pos (wanted_none rfl)]
              have o8 := old 8 (by kernel_rfl)
              refine wp_yields (v := ptr e) (w' := w2) ?_ (fun u hu => Option.some.inj (Option.some.inj hu)) (phased_quiet hLi (by rfl) hph)
              clear dep old ho hsz hph hnot hyes hLi
              go_simp
            | 13, ho =>
              obtain rfl := Option.some.inj ho
              rw [if_pos (wanted_none rfl)]
              have o0 := old 0 (by kernel_rfl)
              refine wp_yields (v := .slice (some ⟨b, o, none⟩) ca.length c) (w' := w2) ?_ (fun u hu => Option.some.inj (Option.some.inj hu)) (phased_quiet hLi (by rfl) hph)
              clear dep old ho hsz hph hnot hyes hLi
              go_simp
            | 14, ho =>
              obtain rfl := Option.some.inj ho
              rw [if_pos (wanted_none rfl)]
              have o9 := old 9 (by kernel_rfl)
              refine wp_yields (v := .int .i64 (k : Int)) (w' := w2) ?_ (fun u hu => Option.some.inj (Option.some.inj hu)) (phased_quiet hLi (by rfl) hph)
              clear dep old ho hsz hph hnot hyes hLi
              go_simp
            | 15, ho =>
              obtain rfl := Option.some.inj ho
              rw [if_pos (wanted_none rfl)]
              have d13 : a.tmps.getD 79 undef = .slice (some ⟨b, o, none⟩) ca.length c := dep 13 _ _ (by kernel_rfl) rfl rfl _ rfl
              have e13 : a.tmps[79]?.getD undef = .slice (some ⟨b, o, none⟩) ca.length c := (Array.getD_eq_getD_getElem? ..).symm.trans d13
              have d14 : a.tmps.getD 80 undef = .int .i64 (k : Int) := dep 14 _ _ (by kernel_rfl) rfl rfl _ rfl
              have e14 : a.tmps[80]?.getD undef = .int .i64 (k : Int) := (Array.getD_eq_getD_getElem? ..).symm.trans d14
              refine wp_yields (v := .pointer (some ⟨b, o + k * 5, none⟩)) (w' := w2) ?_ (fun u hu => Option.some.inj (Option.some.inj hu)) (phased_quiet hLi (by rfl) hph)
              clear dep old ho hsz hph hnot hyes hLi
              go_simp
            | 16, ho =>
              obtain rfl := Option.some.inj ho
              rw [if_pos (wanted_none rfl)]
              have d15 : a.tmps.getD 81 undef = .pointer (some ⟨b, o + k * 5, none⟩) := dep 15 _ _ (by kernel_rfl) rfl rfl _ rfl
              have e15 : a.tmps[81]?.getD undef = .pointer (some ⟨b, o + k * 5, none⟩) := (Array.getD_eq_getD_getElem? ..).symm.trans d15
              refine wp_yields (v := .pointer (some ⟨b, o + k * 5 + 2, none⟩)) (w' := w2) ?_ (fun u hu => Option.some.inj (Option.some.inj hu)) (phased_quiet hLi (by rfl) hph)
              clear dep old ho hsz hph hnot hyes hLi
              go_simp
            | 17, ho =>
              obtain rfl := Option.some.inj ho
              rw [if_pos (wanted_none rfl)]
              have d16 : a.tmps.getD 82 undef = .pointer (some ⟨b, o + k * 5 + 2, none⟩) := dep 16 _ _ (by kernel_rfl) rfl rfl _ rfl
              have e16 : a.tmps[82]?.getD undef = .pointer (some ⟨b, o + k * 5 + 2, none⟩) := (Array.getD_eq_getD_getElem? ..).symm.trans d16
              have hA : Below w.heap.size w w2 := phased_all (R := fun w2 => Below w.heap.size w w2) (fun q hq v w h => by simp only [List.mem_cons, List.not_mem_nil, or_false] at hq; rcases hq with rfl | rfl <;> exact h.2) (fun w h => h.2) hph
              have hcc := (hA.cell (p := ⟨b, o + k * 5 + 2, none⟩) hbB).trans hcs
              refine wp_yields (v := .int .i64 s) (w' := w2) ?_ (fun u hu => Option.some.inj (Option.some.inj hu)) (phased_quiet hLi (by rfl) hph)
              clear dep old ho hsz hph hA hnot hyes hLi
              go_simp
            | 18, ho =>
              obtain rfl := Option.some.inj ho
              rw [if_pos (wanted_none rfl)]
              have o0 := old 0 (by kernel_rfl)
              refine wp_yields (v := .slice (some ⟨b, o, none⟩) ca.length c) (w' := w2) ?_ (fun u hu => Option.some.inj (Option.some.inj hu)) (phased_quiet hLi (by rfl) hph)
              clear dep old ho hsz hph hnot hyes hLi
              go_simp
            | 19, ho =>
              obtain rfl := Option.some.inj ho
              rw [if_pos (wanted_none rfl)]
              have o9 := old 9 (by kernel_rfl)
              refine wp_yields (v := .int .i64 (k : Int)) (w' := w2) ?_ (fun u hu => Option.some.inj (Option.some.inj hu)) (phased_quiet hLi (by rfl) hph)
              clear dep old ho hsz hph hnot hyes hLi
              go_simp
            | 20, ho =>
              obtain rfl := Option.some.inj ho
              rw [if_pos (wanted_none rfl)]
              have d18 : a.tmps.getD 84 undef = .slice (some ⟨b, o, none⟩) ca.length c := dep 18 _ _ (by kernel_rfl) rfl rfl _ rfl
              have e18 : a.tmps[84]?.getD undef = .slice (some ⟨b, o, none⟩) ca.length c := (Array.getD_eq_getD_getElem? ..).symm.trans d18
              have d19 : a.tmps.getD 85 undef = .int .i64 (k : Int) := dep 19 _ _ (by kernel_rfl) rfl rfl _ rfl
              have e19 : a.tmps[85]?.getD undef = .int .i64 (k : Int) := (Array.getD_eq_getD_getElem? ..).symm.trans d19
              refine wp_yields (v := .pointer (some ⟨b, o + k * 5, none⟩)) (w' := w2) ?_ (fun u hu => Option.some.inj (Option.some.inj hu)) (phased_quiet hLi (by rfl) hph)
              clear dep old ho hsz hph hnot hyes hLi
              go_simp
            | 21, ho =>
              obtain rfl := Option.some.inj ho
              rw [if_pos (wanted_none rfl)]
              have d20 : a.tmps.getD 86 undef = .pointer (some ⟨b, o + k * 5, none⟩) := dep 20 _ _ (by kernel_rfl) rfl rfl _ rfl
              have e20 : a.tmps[86]?.getD undef = .pointer (some ⟨b, o + k * 5, none⟩) := (Array.getD_eq_getD_getElem? ..).symm.trans d20
              refine wp_yields (v := .pointer (some ⟨b, o + k * 5 + 3, none⟩)) (w' := w2) ?_ (fun u hu => Option.some.inj (Option.some.inj hu)) (phased_quiet hLi (by rfl) hph)
              clear dep old ho hsz hph hnot hyes hLi
              go_simp
            | 22, ho =>
              obtain rfl := Option.some.inj ho
              rw [if_pos (wanted_none rfl)]
              have d21 : a.tmps.getD 87 undef = .pointer (some ⟨b, o + k * 5 + 3, none⟩) := dep 21 _ _ (by kernel_rfl) rfl rfl _ rfl
              have e21 : a.tmps[87]?.getD undef = .pointer (some ⟨b, o + k * 5 + 3, none⟩) := (Array.getD_eq_getD_getElem? ..).symm.trans d21
              have hA : Below w.heap.size w w2 := phased_all (R := fun w2 => Below w.heap.size w w2) (fun q hq v w h => by simp only [List.mem_cons, List.not_mem_nil, or_false] at hq; rcases hq with rfl | rfl <;> exact h.2) (fun w h => h.2) hph
              have hcc := (hA.cell (p := ⟨b, o + k * 5 + 3, none⟩) hbB).trans hcd
              refine wp_yields (v := .slice A2 n c2) (w' := w2) ?_ (fun u hu => Option.some.inj (Option.some.inj hu)) (phased_quiet hLi (by rfl) hph)
              clear dep old ho hsz hph hA hnot hyes hLi
              go_simp
            | 23, ho =>
              obtain rfl := Option.some.inj ho
              rw [if_pos (wanted_none rfl)]
              have d12 : a.tmps.getD 78 undef = ptr e := dep 12 _ _ (by kernel_rfl) rfl rfl _ rfl
              have e12 : a.tmps[78]?.getD undef = ptr e := (Array.getD_eq_getD_getElem? ..).symm.trans d12
              have d17 : a.tmps.getD 83 undef = .int .i64 s := dep 17 _ _ (by kernel_rfl) rfl rfl _ rfl
              have e17 : a.tmps[83]?.getD undef = .int .i64 s := (Array.getD_eq_getD_getElem? ..).symm.trans d17
              have d22 : a.tmps.getD 88 undef = .slice A2 n c2 := dep 22 _ _ (by kernel_rfl) rfl rfl _ rfl
              have e22 : a.tmps[88]?.getD undef = .slice A2 n c2 := (Array.getD_eq_getD_getElem? ..).symm.trans d22
              have h11 := hyes 11 (by kernel_rfl)
              unfold phased at hph
              rw [if_neg (by rw [hLi]; decide)] at hph
              unfold phased at hph
              rw [if_pos h11] at hph
              obtain ⟨_, hm, hb⟩ := hph
              have hc2 := rg_w2 hm HSE.out 0 s HLN.out (HRW.out.below hb) hb.size
              rw [HCE.out] at hc2
              refine wp_enters (R := fun w' => Many w' (fun k => k < w.heap.size) [(d, D.wr 0 s l), (e, E.wr 0 s l)] ∧ Out (fun k => k < w.heap.size) w2 w') (f := 13) (args := #[ptr e, .int .i64 0, .int .i64 s, .slice A2 n c2]) ?_ hc2 (fun u hu => Option.some.inj (Option.some.inj hu)) ?_
              · clear dep old ho hsz hnot hyes hLi hm hb h11 hc2
                go_simp
              · rintro w3 ⟨hm3, ho3⟩
                unfold phased
                rw [if_pos (by simp [also])]
                exact ⟨by simp [also], hm3, hb.trans (ho3.below hb.size (fun _ h => h))⟩
            | 24, ho =>
              obtain rfl := Option.some.inj ho
              rw [if_pos (wanted_none rfl)]
              have d11 : a.tmps.getD 77 undef = .int .i64 (D.wrCode 0 s l.length) := dep 11 _ _ (by kernel_rfl) rfl rfl _ rfl
              have e11 : a.tmps[77]?.getD undef = .int .i64 (D.wrCode 0 s l.length) := (Array.getD_eq_getD_getElem? ..).symm.trans d11
              refine wp_yields (v := .int .i64 (D.wrCode 0 s l.length)) (w' := w2) ?_ (fun u hu => Option.some.inj (Option.some.inj hu)) (phased_quiet hLi (by rfl) hph)
              clear dep old ho hsz hph hnot hyes hLi
              go_simp
            | 25, ho =>
              obtain rfl := Option.some.inj ho
              rw [if_pos (wanted_none rfl)]
              have d23 : a.tmps.getD 89 undef = .int .i64 (D.wrCode 0 s l.length) := dep 23 _ _ (by kernel_rfl) rfl rfl _ rfl
              have e23 : a.tmps[89]?.getD undef = .int .i64 (D.wrCode 0 s l.length) := (Array.getD_eq_getD_getElem? ..).symm.trans d23
              refine wp_yields (v := .int .i64 (D.wrCode 0 s l.length)) (w' := w2) ?_ (fun u hu => Option.some.inj (Option.some.inj hu)) (phased_quiet hLi (by rfl) hph)
              clear dep old ho hsz hph hnot hyes hLi
              go_simp
            | i + 26, ho => exact absurd ho (by simp)
          · intro a w8 hph hsz hdf fin keep
            unfold phased at hph
            rw [if_pos rfl] at hph
            obtain ⟨_, hm8, hb8⟩ := hph
            obtain ⟨tm, df⟩ := a
            have hx : tm = #[tm.getD 0 undef, tm.getD 1 undef, tm.getD 2 undef, tm.getD 3 undef, tm.getD 4 undef, tm.getD 5 undef, tm.getD 6 undef, tm.getD 7 undef, tm.getD 8 undef, tm.getD 9 undef, tm.getD 10 undef, tm.getD 11 undef, tm.getD 12 undef, tm.getD 13 undef, tm.getD 14 undef, tm.getD 15 undef, tm.getD 16 undef, tm.getD 17 undef, tm.getD 18 undef, tm.getD 19 undef, tm.getD 20 undef, tm.getD 21 undef, tm.getD 22 undef, tm.getD 23 undef, tm.getD 24 undef, tm.getD 25 undef, tm.getD 26 undef, tm.getD 27 undef, tm.getD 28 undef, tm.getD 29 undef, tm.getD 30 undef, tm.getD 31 undef, tm.getD 32 undef, tm.getD 33 undef, tm.getD 34 undef, tm.getD 35 undef, tm.getD 36 undef, tm.getD 37 undef, tm.getD 38 undef, tm.getD 39 undef, tm.getD 40 undef, tm.getD 41 undef, tm.getD 42 undef, tm.getD 43 undef, tm.getD 44 undef, tm.getD 45 undef, tm.getD 46 undef, tm.getD 47 undef, tm.getD 48 undef, tm.getD 49 undef, tm.getD 50 undef, tm.getD 51 undef, tm.getD 52 undef, tm.getD 53 undef, tm.getD 54 undef, tm.getD 55 undef, tm.getD 56 undef, tm.getD 57 undef, tm.getD 58 undef, tm.getD 59 undef, tm.getD 60 undef, tm.getD 61 undef, tm.getD 62 undef, tm.getD 63 undef, tm.getD 64 undef, tm.getD 65 undef, tm.getD 66 undef, tm.getD 67 undef, tm.getD 68 undef, tm.getD 69 undef, tm.getD 70 undef, tm.getD 71 undef, tm.getD 72 undef, tm.getD 73 undef, tm.getD 74 undef, tm.getD 75 undef, tm.getD 76 undef, tm.getD 77 undef, tm.getD 78 undef, tm.getD 79 undef, tm.getD 80 undef, tm.getD 81 undef, tm.getD 82 undef, tm.getD 83 undef, tm.getD 84 undef, tm.getD 85 undef, tm.getD 86 undef, tm.getD 87 undef, tm.getD 88 undef, tm.getD 89 undef, tm.getD 90 undef, tm.getD 91 undef, tm.getD 92 undef, tm.getD 93 undef, tm.getD 94 undef, tm.getD 95 undef, tm.getD 96 undef, tm.getD 97 undef, tm.getD 98 undef, tm.getD 99 undef, tm.getD 100 undef, tm.getD 101 undef, tm.getD 102 undef, tm.getD 103 undef, tm.getD 104 undef, tm.getD 105 undef, tm.getD 106 undef, tm.getD 107 undef, tm.getD 108 undef, tm.getD 109 undef, tm.getD 110 undef, tm.getD 111 undef, tm.getD 112 undef, tm.getD 113 undef, tm.getD 114 undef, tm.getD 115 undef, tm.getD 116 undef, tm.getD 117 undef, tm.getD 118 undef, tm.getD 119 undef, tm.getD 120 undef, tm.getD 121 undef, tm.getD 122 undef, tm.getD 123 undef, tm.getD 124 undef, tm.getD 125 undef, tm.getD 126 undef, tm.getD 127 undef, tm.getD 128 undef, tm.getD 129 undef, tm.getD 130 undef, tm.getD 131 undef] := slots_of tm 132 hsz
            have kn10 : tm.getD 10 undef = .int .i64 (D.wrCode 0 s l.length) := fin 24 _ _ rfl rfl _ rfl
            rw [kn10] at hx
            clear kn10
            have kn11 : tm.getD 11 undef = .int .i64 (D.wrCode 0 s l.length) := fin 25 _ _ rfl rfl _ rfl
            rw [kn11] at hx
            clear kn11
            generalize tm.getD 66 undef = y66 at hx
            generalize tm.getD 67 undef = y67 at hx
            generalize tm.getD 68 undef = y68 at hx
            generalize tm.getD 69 undef = y69 at hx
            generalize tm.getD 70 undef = y70 at hx
            generalize tm.getD 71 undef = y71 at hx
            generalize tm.getD 72 undef = y72 at hx
            generalize tm.getD 73 undef = y73 at hx
            generalize tm.getD 74 undef = y74 at hx
            generalize tm.getD 75 undef = y75 at hx
            generalize tm.getD 76 undef = y76 at hx
            generalize tm.getD 77 undef = y77 at hx
            generalize tm.getD 78 undef = y78 at hx
            generalize tm.getD 79 undef = y79 at hx
            generalize tm.getD 80 undef = y80 at hx
            generalize tm.getD 81 undef = y81 at hx
            generalize tm.getD 82 undef = y82 at hx
            generalize tm.getD 83 undef = y83 at hx
            generalize tm.getD 84 undef = y84 at hx
            generalize tm.getD 85 undef = y85 at hx
            generalize tm.getD 86 undef = y86 at hx
            generalize tm.getD 87 undef = y87 at hx
            generalize tm.getD 88 undef = y88 at hx
            generalize tm.getD 89 undef = y89 at hx
            rw [show tm.getD 0 undef = _ from keep 0 (by kernel_rfl)] at hx
            rw [show tm.getD 1 undef = _ from keep 1 (by kernel_rfl)] at hx
            rw [show tm.getD 2 undef = _ from keep 2 (by kernel_rfl)] at hx
            rw [show tm.getD 3 undef = _ from keep 3 (by kernel_rfl)] at hx
            rw [show tm.getD 4 undef = _ from keep 4 (by kernel_rfl)] at hx
            rw [show tm.getD 5 undef = _ from keep 5 (by kernel_rfl)] at hx
            rw [show tm.getD 6 undef = _ from keep 6 (by kernel_rfl)] at hx
            rw [show tm.getD 7 undef = _ from keep 7 (by kernel_rfl)] at hx
            rw [show tm.getD 8 undef = _ from keep 8 (by kernel_rfl)] at hx
            rw [show tm.getD 9 undef = _ from keep 9 (by kernel_rfl)] at hx
            rw [show tm.getD 12 undef = _ from keep 12 (by kernel_rfl)] at hx
            rw [show tm.getD 13 undef = _ from keep 13 (by kernel_rfl)] at hx
            rw [show tm.getD 14 undef = _ from keep 14 (by kernel_rfl)] at hx
            rw [show tm.getD 15 undef = _ from keep 15 (by kernel_rfl)] at hx
            rw [show tm.getD 16 undef = _ from keep 16 (by kernel_rfl)] at hx
            rw [show tm.getD 17 undef = _ from keep 17 (by kernel_rfl)] at hx
            rw [show tm.getD 18 undef = _ from keep 18 (by kernel_rfl)] at hx
            rw [show tm.getD 19 undef = _ from keep 19 (by kernel_rfl)] at hx
            rw [show tm.getD 20 undef = _ from keep 20 (by kernel_rfl)] at hx
            rw [show tm.getD 21 undef = _ from keep 21 (by kernel_rfl)] at hx
            rw [show tm.getD 22 undef = _ from keep 22 (by kernel_rfl)] at hx
            rw [show tm.getD 23 undef = _ from keep 23 (by kernel_rfl)] at hx
            rw [show tm.getD 24 undef = _ from keep 24 (by kernel_rfl)] at hx
            rw [show tm.getD 25 undef = _ from keep 25 (by kernel_rfl)] at hx
            rw [show tm.getD 26 undef = _ from keep 26 (by kernel_rfl)] at hx
            rw [show tm.getD 27 undef = _ from keep 27 (by kernel_rfl)] at hx
            rw [show tm.getD 28 undef = _ from keep 28 (by kernel_rfl)] at hx
            rw [show tm.getD 29 undef = _ from keep 29 (by kernel_rfl)] at hx
            rw [show tm.getD 30 undef = _ from keep 30 (by kernel_rfl)] at hx
            rw [show tm.getD 31 undef = _ from keep 31 (by kernel_rfl)] at hx
            rw [show tm.getD 32 undef = _ from keep 32 (by kernel_rfl)] at hx
            rw [show tm.getD 33 undef = _ from keep 33 (by kernel_rfl)] at hx
            rw [show tm.getD 34 undef = _ from keep 34 (by kernel_rfl)] at hx
            rw [show tm.getD 35 undef = _ from keep 35 (by kernel_rfl)] at hx
            rw [show tm.getD 36 undef = _ from keep 36 (by kernel_rfl)] at hx
            rw [show tm.getD 37 undef = _ from keep 37 (by kernel_rfl)] at hx
            rw [show tm.getD 38 undef = _ from keep 38 (by kernel_rfl)] at hx
            rw [show tm.getD 39 undef = _ from keep 39 (by kernel_rfl)] at hx
            rw [show tm.getD 40 undef = _ from keep 40 (by kernel_rfl)] at hx
            rw [show tm.getD 41 undef = _ from keep 41 (by kernel_rfl)] at hx
            rw [show tm.getD 42 undef = _ from keep 42 (by kernel_rfl)] at hx
            rw [show tm.getD 43 undef = _ from keep 43 (by kernel_rfl)] at hx
            rw [show tm.getD 44 undef = _ from keep 44 (by kernel_rfl)] at hx
            rw [show tm.getD 45 undef = _ from keep 45 (by kernel_rfl)] at hx
            rw [show tm.getD 46 undef = _ from keep 46 (by kernel_rfl)] at hx
            rw [show tm.getD 47 undef = _ from keep 47 (by kernel_rfl)] at hx
            rw [show tm.getD 48 undef = _ from keep 48 (by kernel_rfl)] at hx
            rw [show tm.getD 49 undef = _ from keep 49 (by kernel_rfl)] at hx
            rw [show tm.getD 50 undef = _ from keep 50 (by kernel_rfl)] at hx
            rw [show tm.getD 51 undef = _ from keep 51 (by kernel_rfl)] at hx
            rw [show tm.getD 52 undef = _ from keep 52 (by kernel_rfl)] at hx
            rw [show tm.getD 53 undef = _ from keep 53 (by kernel_rfl)] at hx
            rw [show tm.getD 54 undef = _ from keep 54 (by kernel_rfl)] at hx
            rw [show tm.getD 55 undef = _ from keep 55 (by kernel_rfl)] at hx
            rw [show tm.getD 56 undef = _ from keep 56 (by kernel_rfl)] at hx
            rw [show tm.getD 57 undef = _ from keep 57 (by kernel_rfl)] at hx
            rw [show tm.getD 58 undef = _ from keep 58 (by kernel_rfl)] at hx
            rw [show tm.getD 59 undef = _ from keep 59 (by kernel_rfl)] at hx
            rw [show tm.getD 60 undef = _ from keep 60 (by kernel_rfl)] at hx
            rw [show tm.getD 61 undef = _ from keep 61 (by kernel_rfl)] at hx
            rw [show tm.getD 62 undef = _ from keep 62 (by kernel_rfl)] at hx
            rw [show tm.getD 63 undef = _ from keep 63 (by kernel_rfl)] at hx
            rw [show tm.getD 64 undef = _ from keep 64 (by kernel_rfl)] at hx
            rw [show tm.getD 65 undef = _ from keep 65 (by kernel_rfl)] at hx
            rw [show tm.getD 90 undef = _ from keep 90 (by kernel_rfl)] at hx
            rw [show tm.getD 91 undef = _ from keep 91 (by kernel_rfl)] at hx
            rw [show tm.getD 92 undef = _ from keep 92 (by kernel_rfl)] at hx
            rw [show tm.getD 93 undef = _ from keep 93 (by kernel_rfl)] at hx
            rw [show tm.getD 94 undef = _ from keep 94 (by kernel_rfl)] at hx
            rw [show tm.getD 95 undef = _ from keep 95 (by kernel_rfl)] at hx
            rw [show tm.getD 96 undef = _ from keep 96 (by kernel_rfl)] at hx
            rw [show tm.getD 97 undef = _ from keep 97 (by kernel_rfl)] at hx
            rw [show tm.getD 98 undef = _ from keep 98 (by kernel_rfl)] at hx
            rw [show tm.getD 99 undef = _ from keep 99 (by kernel_rfl)] at hx
            rw [show tm.getD 100 undef = _ from keep 100 (by kernel_rfl)] at hx
            rw [show tm.getD 101 undef = _ from keep 101 (by kernel_rfl)] at hx
            rw [show tm.getD 102 undef = _ from keep 102 (by kernel_rfl)] at hx
            rw [show tm.getD 103 undef = _ from keep 103 (by kernel_rfl)] at hx
            rw [show tm.getD 104 undef = _ from keep 104 (by kernel_rfl)] at hx
            rw [show tm.getD 105 undef = _ from keep 105 (by kernel_rfl)] at hx
            rw [show tm.getD 106 undef = _ from keep 106 (by kernel_rfl)] at hx
            rw [show tm.getD 107 undef = _ from keep 107 (by kernel_rfl)] at hx
            rw [show tm.getD 108 undef = _ from keep 108 (by kernel_rfl)] at hx
            rw [show tm.getD 109 undef = _ from keep 109 (by kernel_rfl)] at hx
            rw [show tm.getD 110 undef = _ from keep 110 (by kernel_rfl)] at hx
            rw [show tm.getD 111 undef = _ from keep 111 (by kernel_rfl)] at hx
            rw [show tm.getD 112 undef = _ from keep 112 (by kernel_rfl)] at hx
            rw [show tm.getD 113 undef = _ from keep 113 (by kernel_rfl)] at hx
            rw [show tm.getD 114 undef = _ from keep 114 (by kernel_rfl)] at hx
            rw [show tm.getD 115 undef = _ from keep 115 (by kernel_rfl)] at hx
            rw [show tm.getD 116 undef = _ from keep 116 (by kernel_rfl)] at hx
            rw [show tm.getD 117 undef = _ from keep 117 (by kernel_rfl)] at hx
            rw [show tm.getD 118 undef = _ from keep 118 (by kernel_rfl)] at hx
            rw [show tm.getD 119 undef = _ from keep 119 (by kernel_rfl)] at hx
            rw [show tm.getD 120 undef = _ from keep 120 (by kernel_rfl)] at hx
            rw [show tm.getD 121 undef = _ from keep 121 (by kernel_rfl)] at hx
            rw [show tm.getD 122 undef = _ from keep 122 (by kernel_rfl)] at hx
            rw [show tm.getD 123 undef = _ from keep 123 (by kernel_rfl)] at hx
            rw [show tm.getD 124 undef = _ from keep 124 (by kernel_rfl)] at hx
            rw [show tm.getD 125 undef = _ from keep 125 (by kernel_rfl)] at hx
            rw [show tm.getD 126 undef = _ from keep 126 (by kernel_rfl)] at hx
            rw [show tm.getD 127 undef = _ from keep 127 (by kernel_rfl)] at hx
            rw [show tm.getD 128 undef = _ from keep 128 (by kernel_rfl)] at hx
            rw [show tm.getD 129 undef = _ from keep 129 (by kernel_rfl)] at hx
            rw [show tm.getD 130 undef = _ from keep 130 (by kernel_rfl)] at hx
            rw [show tm.getD 131 undef = _ from keep 131 (by kernel_rfl)] at hx
            simp only [Array.getD_eq_getD_getElem?, List.getElem?_toArray, List.getElem?_cons_succ, List.getElem?_cons_zero, Option.getD_some] at hx
            dsimp only at hdf
            clear fin keep hsz
            subst hx hdf
            have hck8 := (hb8.cell (p := ⟨b, o + k * 5, none⟩) hbB).trans hck0
            have HM8 := hide hm8
            have HB8 := hide hb8
            clear hm8 hb8 hcs hcd hck0 hbB
            rcases and1 kd with h01 | h01
            · have hbits := h01
              clear h01
              go_wp2
              go_roundw
              case rel => exact ⟨k + 1, _, _, by omega, by go_num, HPW.out, (HSD0.out.wr 0 s l).more (by omega), HSE0.out.wr 0 s l, HM8.out, HB8.out⟩
              case measure => simp [intOf]; omega
            · have hbits := h01
              clear h01
              go_wp2_with (first
                | (go_at_call 15; (with_reducible refine (rg_b1 HM8.out 0).mono ?_); rintro e w9 ⟨rfl, hm, ho⟩; have HM9 := hide hm; have HB9 := hide (HB8.out.trans (ho.below HB8.out.size (fun _ h => h))); clear hm ho)
                | (go_at_call 15; (with_reducible refine (rg_b2 HM9.out 0).mono ?_); rintro e w10 ⟨rfl, hm, ho⟩; rw [HPW.out.br0.2]; have HM10 := hide hm; have HB10 := hide (HB9.out.trans (ho.below HB9.out.size (fun _ h => h))); clear hm ho))
              go_roundw
              case rel => exact ⟨k + 1, _, _, by omega, by go_num, HPW.out.br0.1, ((HSD0.out.wr 0 s l).br 0).more (by omega), (HSE0.out.wr 0 s l).br 0, HM10.out, HB10.out⟩
              case measure => simp [intOf]; omega
        · have hnx : decide ((k : Int) < (ca.length : Int)) = false := by simp; omega
          go_wp2
          go_roundw
          case rel => exact ⟨k + 1, _, _, by omega, by go_num, HP.out, HSD0.out.more (by omega), HSE0.out.more (by omega), HM.out, HB.out⟩
          case measure => simp [intOf]; omega
    · have hkN : TT = k := by omega
      subst hkN
      have hpc := hp.crash (bitOf mk)
      have HSD := hide (hsd.more (show 2 * TT ≤ 1000000 by omega))
      have HSE := hide (hse.more (show TT ≤ 1000000 by omega))
      have HMA := hide hm
      have HBA := hide hb
      have HPC := hide hpc
      clear hm hb hp hsd hse hpc
      go_wp2_with (first
        | (go_at_call 16; (with_reducible refine (rg_c1 HMA.out HSD.out mk).mono ?_); rintro e w11 ⟨rfl, hm, ho⟩; have HM11 := hide hm; have HB11 := hide (HBA.out.trans (ho.below HBA.out.size (fun k hk => hk))); clear hm ho)
        | (go_at_call 16; (with_reducible refine (rg_c2 HM11.out HSE.out mk).mono ?_); rintro e w12 ⟨rfl, hm, ho⟩; have HM12 := hide hm; have HB12 := hide (HB11.out.trans (ho.below HB11.out.size (fun k hk => hk))); clear hm ho))
      obtain ⟨D', hD'⟩ : ∃ D', D.crash (bitOf mk) = D' := ⟨_, rfl⟩
      obtain ⟨E', hE'⟩ : ∃ E', E.crash (bitOf mk) = E' := ⟨_, rfl⟩
      rw [hD', hE'] at HM12 HPC
      clear hD' hE'
      go_loopw [111] (fun i wr => ∃ k : Nat, k ≤ 8 ∧ i = .int .i64 k ∧ Many wr (fun k => k < w.heap.size) [(d, D'), (e, E')] ∧ Below w.heap.size w wr) (fun i _ => 8 - (intOf i).toNat)
      case atStart => exact ⟨0, Nat.zero_le _, rfl, HM12.out, HB12.out⟩
      case round =>
        obtain ⟨k, hk, rfl, hm, hb⟩ := hrel
        by_cases hlt : k < 8
        · have HM := hide hm
          have HB := hide hb
          have hk0 : (0 : Int) ≤ (k : Int) := by omega
          have hk1 : (k : Int) < 8 := by omega
          clear hm hb
          go_wp2_with (first
            | (go_at_call 18; (with_reducible refine (rg_r1 HM.out HPC.out hlt).mono ?_); rintro e w14 ⟨rfl, hp, hx, hm, hb⟩; have HPQ := hide hp; have HX14 := hide hx; have HM14 := hide hm; have HB14 := hide (HB.out.trans (hb.mono HB.out.size)); clear hp hx hm hb)
            | (go_at_call 18; (with_reducible refine (rg_r2 HM14.out HPC.out hlt).mono ?_); rintro e w15 ⟨rfl, hp, hx, hm, hb⟩; have hv1 := conv_blk 64 HPQ.out (blk_below HX14.out hb); have hv2 := conv_blk 64 hp hx; have HM15 := hide hm; have HB15 := hide (HB14.out.trans (hb.mono HB14.out.size)); clear hp hx hm hb))
          go_roundw
          case rel => exact ⟨k + 1, by omega, by go_num, HM15.out, HB15.out⟩
          case measure => simp [intOf]; omega
        · have hkN : 8 = k := by omega
          subst hkN
          have HB := hide hb
          clear hm hb
          go_wp2
          go_ret
          exact ⟨rfl, HB.out⟩
end Go.Proofs.Ytjlfepmdnphenaa
