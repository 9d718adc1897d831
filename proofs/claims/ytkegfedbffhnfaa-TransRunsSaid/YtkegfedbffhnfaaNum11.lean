/-
  TransNumbers' walk.
-/
import Derived.Test.YtkegfedbffhnfaaFit11
import Derived.BigQuiet
namespace Go.Proofs.Ytkegfedbffhnfaa
open Go.RowKit
set_option maxRecDepth 20000
set_option linter.unusedSimpArgs false
set_option linter.unusedVariables false

/-- Which are open, as Bools. -/
def opn (T : Tb) : Array Value := #[.bool (T 0).isSome, .bool (T 1).isSome, .bool (T 2).isSome, .bool (T 3).isSome]
theorem opn_at (T : Tb) {i : Nat} (h : i < 4) : (opn T)[i]? = some (.bool (T i).isSome) := by
  match i, h with
  | 0, _ => rfl
  | 1, _ => rfl
  | 2, _ => rfl
  | 3, _ => rfl
theorem opn_upd (T : Tb) (i : Nat) (o : Option (Nat × Tx)) : (opn T).setIfInBounds i (.bool o.isSome) = opn (updT T i o) := by
  match i with
  | 0 => rfl
  | 1 => rfl
  | 2 => rfl
  | 3 => rfl
  | i + 4 => simp [opn, updT]
theorem opn_yes (T : Tb) (i : Nat) (z : Nat × Tx) : (opn T).setIfInBounds i (.bool true) = opn (updT T i (some z)) := opn_upd T i (some z)
theorem opn_no (T : Tb) (i : Nat) : (opn T).setIfInBounds i (.bool false) = opn (updT T i none) := opn_upd T i none
theorem Below.drewsN (w : World) (n : Nat) : Below w.heap.size w (w.drewN n) := ⟨rfl, rfl, rfl, Nat.le_refl _, fun _ _ => rfl⟩
/-- The least one that is free of the highest d. -/
def wd (T : Tb) : Nat → Nat
  | 0 => 0
  | d + 1 => if (T (3 - d)).isNone then 3 - d else wd T d
theorem wd_least (T : Tb) : wd T 3 = leastT T := rfl
theorem wd_some {T : Tb} {j d : Nat} (h : j + d = 3) (hT : (T j).isSome = true) : wd T (d + 1) = wd T d := by
  have e : 3 - d = j := by omega
  show (if (T (3 - d)).isNone then _ else _) = _
  rw [e]
  cases hj : T j with
  | none => rw [hj] at hT; cases hT
  | some z => rfl
theorem wd_none {T : Tb} {j d : Nat} (h : j + d = 3) (hT : (T j).isSome = false) : wd T (d + 1) = j := by
  have e : 3 - d = j := by omega
  show (if (T (3 - d)).isNone then _ else _) = _
  rw [e]
  cases hj : T j with
  | none => rfl
  | some z => rw [hj] at hT; cases hT
theorem wd_le (T : Tb) : ∀ d, wd T d ≤ 3
  | 0 => Nat.zero_le _
  | d + 1 => by
    have := wd_le T d
    unfold wd
    split <;> omega
theorem and1 (x : Int) : bits .and .i64 x 1 = 0 ∨ bits .and .i64 x 1 = 1 := by
  obtain ⟨m, h1, h2⟩ := and_low x 1 (by omega)
  have h3 : bits .and .i64 x 1 = (m : Int) := h2
  rw [h3]
  omega
theorem num3 (x : Int) : ∃ m : Nat, 1 ≤ m ∧ m ≤ 3 ∧ wrap64 ((wrap64 (x.tmod 3 + 3)).tmod 3 + 1) = (m : Int) := by
  have h1 := Int.tmod_lt_of_pos x (show (0 : Int) < 3 by decide)
  have h2 := Int.lt_tmod_of_pos x (show (0 : Int) < 3 by decide)
  have e1 : wrap64 (x.tmod 3 + 3) = x.tmod 3 + 3 := by unfold wrap64; omega
  rw [e1]
  have h3 := Int.tmod_lt_of_pos (x.tmod 3 + 3) (show (0 : Int) < 3 by decide)
  have h4 := Int.tmod_nonneg (a := x.tmod 3 + 3) 3 (by omega)
  have e2 : wrap64 ((x.tmod 3 + 3).tmod 3 + 1) = (x.tmod 3 + 3).tmod 3 + 1 := by unfold wrap64; omega
  rw [e2]
  exact ⟨((x.tmod 3 + 3).tmod 3 + 1).toNat, by omega, by omega, by omega⟩
set_option maxHeartbeats 8000000 in
theorem numbers_walk (v : Value) (l : List Int) (w : World) (hv : IntRow w w.heap.size v l) : Calls Try.prog 8 #[v] w fun e w' => e = .returned (.bool true) ∧ Below w.heap.size w w' := by
  obtain ⟨⟨A0, cap, rfl, hlc, _⟩, _⟩ := id hv
  have HV := hide hv
  clear hv hlc
  by_cases hlen : l.length ≤ 60
  · have hl1 : ¬ (60 : Int) < (l.length : Int) := by omega
    have HFEW := hide hlen
    clear hlen
    go_enter Try.func8, Try.ntmps8
    go_wp2_with (go_at_call 9; (with_reducible refine (fit_any _).mono ?_); rintro e w0 ⟨rfl, hb⟩; have S0 := hide ((Ow.start w).below hb); clear hb)
    have S1 : Hid (Ow w (fun _ => False) ((w0.alloc (.cells #[.pointer none, .pointer none, .pointer none, .pointer none] 27)).alloc (.cells #[.bool false, .bool false, .bool false, .bool false] 57)) [Res.tt w0.heap.size noT, Res.blk (w0.heap.size + 1) 57 (opn noT)]) := hide (by
      have h := (S0.out.newtab layT 27).box 57 (opn noT)
      rw [World.size_alloc] at h
      exact h)
    generalize ((w0.alloc (.cells #[.pointer none, .pointer none, .pointer none, .pointer none] 27)).alloc (.cells #[.bool false, .bool false, .bool false, .bool false] 57)) = w1 at *
    generalize hob : w0.heap.size + 1 = ob at *
    generalize w0.heap.size = g at *
    clear hob S0
    go_loopw [20] (fun i wr => ∃ (j : Nat) (T : Tb), j ≤ l.length ∧ i = .int .i64 j ∧ Hid (Ow w (fun _ => False) wr [Res.tt g T, Res.blk ob 57 (opn T)])) (fun i _ => l.length - (intOf i).toNat)
    case atStart => exact ⟨0, noT, by omega, rfl, S1⟩
    case round =>
      clear S1
      obtain ⟨j, T, hj, rfl, hs⟩ := hrel
      by_cases hlt : j < l.length
      · obtain ⟨ev, hc⟩ : ∃ ev, l[j]? = some ev := ⟨_, List.getElem?_eq_getElem hlt⟩
        obtain ⟨_, b1, o1, rfl, i0, hok⟩ := int_cell HV.out hs.out.bel hc
        have q0 : (0 : Int) ≤ (j : Int) := by omega
        have q1 : (j : Int) < (l.length : Int) := by omega
        have HLT := hide hlt
        have HOK := hide hok
        clear hok hc hlt
        go_wp2
        go_loopw [7, 8] (fun u i wr2 => ∃ d m : Nat, d ≤ 3 ∧ m + d = 3 ∧ i = .int .i64 m ∧ u = .int .i64 (wd T d : Nat) ∧ Hid (wr = wr2)) (fun _ i _ => (intOf i).toNat)
        case atStart => exact ⟨0, 3, by omega, by omega, rfl, rfl, hide rfl⟩
        case round =>
          obtain ⟨d, m, hd, hmd, rfl, rfl, hww⟩ := hrel
          obtain rfl := hww.out
          clear hww
          by_cases hm : 0 < m
          · have m1 : (0 : Int) < (m : Int) := by omega
            have m2 : (0 : Int) ≤ (m : Int) := by omega
            have m4 : (m : Int) < 4 := by omega
            have c0 := (hs.out.blk (i := 1) rfl).cell m _ (opn_at T (by omega))
            have HM := hide hm
            have HMD := hide hmd
            obtain ⟨m', hm'⟩ : ∃ m', m = m' + 1 := ⟨m - 1, by omega⟩
            have HM' := hide hm'
            have em : (m : Int) - 1 = (m' : Int) := by omega
            clear hm hmd hd hm'
            cases hT : (T m).isSome
            · rw [hT] at c0
              have HE := hide (wd_none HMD.out hT)
              clear hT
              go_wp2
              go_roundw
              case rel => exact ⟨d + 1, m', by have := HMD.out; have := HM'.out; omega, by have := HMD.out; have := HM'.out; omega, rfl, by rw [HE.out], (by first | exact hide rfl | exact trivial)⟩
              case measure => simp [intOf]; have := HM'.out; omega
            · rw [hT] at c0
              have HE := hide (wd_some HMD.out hT)
              clear hT
              go_wp2
              go_roundw
              case rel => exact ⟨d + 1, m', by have := HMD.out; have := HM'.out; omega, by have := HMD.out; have := HM'.out; omega, rfl, by rw [HE.out], (by first | exact hide rfl | exact trivial)⟩
              case measure => simp [intOf]; have := HM'.out; omega
          · obtain rfl : m = 0 := by omega
            obtain rfl : d = 3 := by omega
            clear hm hmd hd
            rw [wd_least]
            by_cases hA : leastT T = 0
            · have HK0 := hide (ow_begin_full hs.out (i := 0) rfl hA)
              rw [hA]
              clear hA hs
              rcases and1 ev with hand1 | hand1
              · go_wp2_with (first
                    | (go_at_call 10; (with_reducible refine HK0.out.mono ?_); rintro e w2 ⟨rfl, hs⟩; clear HK0; have HS := hide hs; clear hs))
                have h0 : T 0 = none := (let ⟨S, h⟩ := Ow.tab (i := 0) HS.out rfl; h.zero)
                have hcz : cntT (T) 1 = 0 := cntT_none h0
                have HCZ := hide hcz
                clear h0 hcz
                go_wp2
                go_loopw [10, 11] (fun u i wr2 => ∃ q : Nat, 1 ≤ q ∧ q ≤ 4 ∧ i = .int .i64 q ∧ u = .int .i64 (cntT (T) q : Nat) ∧ Hid (Ow w (fun _ => False) wr2 [Res.tt g (T), Res.blk ob 57 (opn (T))])) (fun _ i _ => 4 - (intOf i).toNat)
                case atStart => exact ⟨1, by omega, by omega, rfl, by rw [HCZ.out]; rfl, HS⟩
                case round =>
                  clear HS
                  rename World => w8
                  obtain ⟨q, hq1, hq4, rfl, rfl, HS⟩ := hrel
                  by_cases hq : q < 4
                  · have c1 := (HS.out.blk (i := 1) rfl).cell q _ (opn_at (T) hq)
                    have HQ := hide hq
                    have HQ1 := hide hq1
                    have r0 : (0 : Int) ≤ (q : Int) := by omega
                    have r4 : (q : Int) < 4 := by omega
                    have rc : (cntT (T) q : Int) ≤ 4 := by have := cntT_le (T) q; omega
                    clear hq hq1 hq4
                    cases hT : (T) q with
                    | none =>
                      rw [hT] at c1
                      have c1 : w8.cell? ⟨ob, q, none⟩ = some (.bool false) := c1
                      have hG := ow_getq HS.out (i := 0) rfl (j := q) (v := .pointer none) (by rw [hT]; rfl)
                      have HN := hide (cntT_none hT)
                      clear hT
                      go_wp2
                      go_quiet (first | (go_at_call 12; refine Calls.quiet_of_same (hG _)))
                      go_wp2
                      go_roundw
                      case rel => exact ⟨q + 1, by omega, by have := HQ.out; omega, by go_num, by rw [HN.out], hide (HS.out.below (Below.drewsN _ _))⟩
                      case measure => simp [intOf]; have := HQ.out; omega
                    | some z =>
                      obtain ⟨x, t⟩ := z
                      rw [hT] at c1
                      have c1 : w8.cell? ⟨ob, q, none⟩ = some (.bool true) := c1
                      have hG := ow_getq HS.out (i := 0) rfl (j := q) (v := .pointer (some ⟨x, 0, none⟩)) (by rw [hT]; rfl)
                      have HN := hide (cntT_some hT)
                      clear hT
                      go_wp2
                      go_quiet (first | (go_at_call 12; refine Calls.quiet_of_same (hG _)))
                      go_wp2
                      go_roundw
                      case rel => exact ⟨q + 1, by omega, by have := HQ.out; omega, by go_num, by rw [HN.out]; rfl, hide (HS.out.below (Below.drewsN _ _))⟩
                      case measure => simp [intOf]; have := HQ.out; omega
                  · obtain rfl : q = 4 := by omega
                    clear hq hq1 hq4
                    go_wp2_with (go_at_call 19; (with_reducible refine (ow_open HS.out (i := 0) rfl rfl).mono ?_); rintro e w7 ⟨rfl, hs⟩; have HE := hide hs; clear hs)
                    go_roundw
                    case rel => exact ⟨j + 1, _, by have := HLT.out; omega, by go_num, HE⟩
                    case measure => simp [intOf]; have := HLT.out; omega
              · obtain ⟨n, hn1, hn3, hnum⟩ := num3 (ev / 2)
                have n0 : (0 : Int) ≤ (n : Int) := by omega
                have n4 : (n : Int) < 4 := by omega
                have HN4 : Hid (n < 4) := hide (by omega)
                clear hn1 hn3
                go_wp2_with (first
                    | (go_at_call 10; (with_reducible refine HK0.out.mono ?_); rintro e w2 ⟨rfl, hs⟩; clear HK0; have HS := hide hs; have HKE := hide (ow_endT HS.out (i := 0) rfl HN4.out); clear hs)
                    | (go_at_call 11; (with_reducible refine HKE.out.mono ?_); rintro e w3 ⟨rfl, hs⟩; clear HKE; have HSE := hide hs; have p0 := (hs.blk (i := 1) rfl).cell n _ (opn_at (T) HN4.out); have pf := (hs.blk (i := 1) rfl).frozen n; clear hs))
                have HS1 := hide (HSE.out.set_ (i := 1) rfl n (.bool false))
                have HS2 : Hid (Ow w (fun _ => False) (w3.setCell ⟨ob, n, none⟩ (.bool false)) [Res.tt g (updT T n none), Res.blk ob 57 (opn (updT T n none))]) := hide (by have h := HS1.out; rw [opn_no] at h; exact h)
                clear HS HS1 HSE p0 pf
                have HS := HS2
                clear HS2
                generalize (w3.setCell ⟨ob, n, none⟩ (.bool false)) = w4 at *
                generalize updT T n none = T5 at *
                have h0 : T5 0 = none := (let ⟨S, h⟩ := Ow.tab (i := 0) HS.out rfl; h.zero)
                have hcz : cntT (T5) 1 = 0 := cntT_none h0
                have HCZ := hide hcz
                clear h0 hcz
                go_wp2
                go_loopw [10, 11] (fun u i wr2 => ∃ q : Nat, 1 ≤ q ∧ q ≤ 4 ∧ i = .int .i64 q ∧ u = .int .i64 (cntT (T5) q : Nat) ∧ Hid (Ow w (fun _ => False) wr2 [Res.tt g (T5), Res.blk ob 57 (opn (T5))])) (fun _ i _ => 4 - (intOf i).toNat)
                case atStart => exact ⟨1, by omega, by omega, rfl, by rw [HCZ.out]; rfl, HS⟩
                case round =>
                  clear HS
                  rename World => w8
                  obtain ⟨q, hq1, hq4, rfl, rfl, HS⟩ := hrel
                  by_cases hq : q < 4
                  · have c1 := (HS.out.blk (i := 1) rfl).cell q _ (opn_at (T5) hq)
                    have HQ := hide hq
                    have HQ1 := hide hq1
                    have r0 : (0 : Int) ≤ (q : Int) := by omega
                    have r4 : (q : Int) < 4 := by omega
                    have rc : (cntT (T5) q : Int) ≤ 4 := by have := cntT_le (T5) q; omega
                    clear hq hq1 hq4
                    cases hT : (T5) q with
                    | none =>
                      rw [hT] at c1
                      have c1 : w8.cell? ⟨ob, q, none⟩ = some (.bool false) := c1
                      have hG := ow_getq HS.out (i := 0) rfl (j := q) (v := .pointer none) (by rw [hT]; rfl)
                      have HN := hide (cntT_none hT)
                      clear hT
                      go_wp2
                      go_quiet (first | (go_at_call 12; refine Calls.quiet_of_same (hG _)))
                      go_wp2
                      go_roundw
                      case rel => exact ⟨q + 1, by omega, by have := HQ.out; omega, by go_num, by rw [HN.out], hide (HS.out.below (Below.drewsN _ _))⟩
                      case measure => simp [intOf]; have := HQ.out; omega
                    | some z =>
                      obtain ⟨x, t⟩ := z
                      rw [hT] at c1
                      have c1 : w8.cell? ⟨ob, q, none⟩ = some (.bool true) := c1
                      have hG := ow_getq HS.out (i := 0) rfl (j := q) (v := .pointer (some ⟨x, 0, none⟩)) (by rw [hT]; rfl)
                      have HN := hide (cntT_some hT)
                      clear hT
                      go_wp2
                      go_quiet (first | (go_at_call 12; refine Calls.quiet_of_same (hG _)))
                      go_wp2
                      go_roundw
                      case rel => exact ⟨q + 1, by omega, by have := HQ.out; omega, by go_num, by rw [HN.out]; rfl, hide (HS.out.below (Below.drewsN _ _))⟩
                      case measure => simp [intOf]; have := HQ.out; omega
                  · obtain rfl : q = 4 := by omega
                    clear hq hq1 hq4
                    go_wp2_with (go_at_call 19; (with_reducible refine (ow_open HS.out (i := 0) rfl rfl).mono ?_); rintro e w7 ⟨rfl, hs⟩; have HE := hide hs; clear hs)
                    go_roundw
                    case rel => exact ⟨j + 1, _, by have := HLT.out; omega, by go_num, HE⟩
                    case measure => simp [intOf]; have := HLT.out; omega
            · obtain ⟨k, hk⟩ : ∃ k, leastT T = k := ⟨_, rfl⟩
              have hk1 : 0 < k := by omega
              have hk3 : k < 4 := by have := leastT_le T; omega
              have HK3 := hide hk3
              have kk0 : (0 : Int) < (k : Int) := by omega
              have kk1 : (0 : Int) ≤ (k : Int) := by omega
              have kk4 : (k : Int) < 4 := by omega
              have HK0 := hide (ow_begin_to hs.out (i := 0) rfl hk (by omega))
              rw [hk]
              clear hA hs hk hk1 hk3
              rcases and1 ev with hand1 | hand1
              · go_wp2_with (first
                    | (go_at_call 10; (with_reducible refine HK0.out.mono ?_); rintro e w2 ⟨rfl, x, hs⟩; clear HK0; have HSB := hide hs; have o0 := (hs.blk (i := 1) rfl).cell k _ (opn_at T HK3.out); have of := (hs.blk (i := 1) rfl).frozen k; clear hs))
                have HS1 := hide (HSB.out.set_ (i := 1) rfl k (.bool true))
                have HS2 : Hid (Ow w (fun _ => False) (w2.setCell ⟨ob, k, none⟩ (.bool true)) [Res.tt g (updT T k (some (x, tx0))), Res.blk ob 57 (opn (updT T k (some (x, tx0))))]) := hide (by have h := HS1.out; rw [opn_yes T k (x, tx0)] at h; exact h)
                clear HSB HS1 o0 of
                have HS := HS2
                clear HS2
                generalize (w2.setCell ⟨ob, k, none⟩ (.bool true)) = w5 at *
                generalize updT T k (some (x, tx0)) = T4 at *
                have h0 : T4 0 = none := (let ⟨S, h⟩ := Ow.tab (i := 0) HS.out rfl; h.zero)
                have hcz : cntT (T4) 1 = 0 := cntT_none h0
                have HCZ := hide hcz
                clear h0 hcz
                go_wp2
                go_loopw [10, 11] (fun u i wr2 => ∃ q : Nat, 1 ≤ q ∧ q ≤ 4 ∧ i = .int .i64 q ∧ u = .int .i64 (cntT (T4) q : Nat) ∧ Hid (Ow w (fun _ => False) wr2 [Res.tt g (T4), Res.blk ob 57 (opn (T4))])) (fun _ i _ => 4 - (intOf i).toNat)
                case atStart => exact ⟨1, by omega, by omega, rfl, by rw [HCZ.out]; rfl, HS⟩
                case round =>
                  clear HS
                  rename World => w8
                  obtain ⟨q, hq1, hq4, rfl, rfl, HS⟩ := hrel
                  by_cases hq : q < 4
                  · have c1 := (HS.out.blk (i := 1) rfl).cell q _ (opn_at (T4) hq)
                    have HQ := hide hq
                    have HQ1 := hide hq1
                    have r0 : (0 : Int) ≤ (q : Int) := by omega
                    have r4 : (q : Int) < 4 := by omega
                    have rc : (cntT (T4) q : Int) ≤ 4 := by have := cntT_le (T4) q; omega
                    clear hq hq1 hq4
                    cases hT : (T4) q with
                    | none =>
                      rw [hT] at c1
                      have c1 : w8.cell? ⟨ob, q, none⟩ = some (.bool false) := c1
                      have hG := ow_getq HS.out (i := 0) rfl (j := q) (v := .pointer none) (by rw [hT]; rfl)
                      have HN := hide (cntT_none hT)
                      clear hT
                      go_wp2
                      go_quiet (first | (go_at_call 12; refine Calls.quiet_of_same (hG _)))
                      go_wp2
                      go_roundw
                      case rel => exact ⟨q + 1, by omega, by have := HQ.out; omega, by go_num, by rw [HN.out], hide (HS.out.below (Below.drewsN _ _))⟩
                      case measure => simp [intOf]; have := HQ.out; omega
                    | some z =>
                      obtain ⟨x, t⟩ := z
                      rw [hT] at c1
                      have c1 : w8.cell? ⟨ob, q, none⟩ = some (.bool true) := c1
                      have hG := ow_getq HS.out (i := 0) rfl (j := q) (v := .pointer (some ⟨x, 0, none⟩)) (by rw [hT]; rfl)
                      have HN := hide (cntT_some hT)
                      clear hT
                      go_wp2
                      go_quiet (first | (go_at_call 12; refine Calls.quiet_of_same (hG _)))
                      go_wp2
                      go_roundw
                      case rel => exact ⟨q + 1, by omega, by have := HQ.out; omega, by go_num, by rw [HN.out]; rfl, hide (HS.out.below (Below.drewsN _ _))⟩
                      case measure => simp [intOf]; have := HQ.out; omega
                  · obtain rfl : q = 4 := by omega
                    clear hq hq1 hq4
                    go_wp2_with (go_at_call 19; (with_reducible refine (ow_open HS.out (i := 0) rfl rfl).mono ?_); rintro e w7 ⟨rfl, hs⟩; have HE := hide hs; clear hs)
                    go_roundw
                    case rel => exact ⟨j + 1, _, by have := HLT.out; omega, by go_num, HE⟩
                    case measure => simp [intOf]; have := HLT.out; omega
              · obtain ⟨n, hn1, hn3, hnum⟩ := num3 (ev / 2)
                have n0 : (0 : Int) ≤ (n : Int) := by omega
                have n4 : (n : Int) < 4 := by omega
                have HN4 : Hid (n < 4) := hide (by omega)
                clear hn1 hn3
                go_wp2_with (first
                    | (go_at_call 10; (with_reducible refine HK0.out.mono ?_); rintro e w2 ⟨rfl, x, hs⟩; clear HK0; have HSB := hide hs; have o0 := (hs.blk (i := 1) rfl).cell k _ (opn_at T HK3.out); have of := (hs.blk (i := 1) rfl).frozen k; clear hs; have HS1 := hide (HSB.out.set_ (i := 1) rfl k (.bool true)); have HKE := hide (ow_endT HS1.out (i := 0) rfl HN4.out))
                    | (go_at_call 11; (with_reducible refine HKE.out.mono ?_); rintro e w3 ⟨rfl, hs⟩; clear HKE; have HSE := hide hs; have p0 := (hs.blk (i := 1) rfl).cell n _ (by rw [opn_yes T k (x, tx0)]; exact opn_at _ HN4.out); have pf := (hs.blk (i := 1) rfl).frozen n; clear hs))
                have HS3 := hide (HSE.out.set_ (i := 1) rfl n (.bool false))
                have HS2 : Hid (Ow w (fun _ => False) (w3.setCell ⟨ob, n, none⟩ (.bool false)) [Res.tt g (updT (updT T k (some (x, tx0))) n none), Res.blk ob 57 (opn (updT (updT T k (some (x, tx0))) n none))]) := hide (by have h := HS3.out; rw [opn_yes T k (x, tx0), opn_no] at h; exact h)
                clear HSB HS1 HS3 HSE p0 pf o0 of
                have HS := HS2
                clear HS2
                generalize (w3.setCell ⟨ob, n, none⟩ (.bool false)) = w4 at *
                generalize updT (updT T k (some (x, tx0))) n none = T5 at *
                have h0 : T5 0 = none := (let ⟨S, h⟩ := Ow.tab (i := 0) HS.out rfl; h.zero)
                have hcz : cntT (T5) 1 = 0 := cntT_none h0
                have HCZ := hide hcz
                clear h0 hcz
                go_wp2
                go_loopw [10, 11] (fun u i wr2 => ∃ q : Nat, 1 ≤ q ∧ q ≤ 4 ∧ i = .int .i64 q ∧ u = .int .i64 (cntT (T5) q : Nat) ∧ Hid (Ow w (fun _ => False) wr2 [Res.tt g (T5), Res.blk ob 57 (opn (T5))])) (fun _ i _ => 4 - (intOf i).toNat)
                case atStart => exact ⟨1, by omega, by omega, rfl, by rw [HCZ.out]; rfl, HS⟩
                case round =>
                  clear HS
                  rename World => w8
                  obtain ⟨q, hq1, hq4, rfl, rfl, HS⟩ := hrel
                  by_cases hq : q < 4
                  · have c1 := (HS.out.blk (i := 1) rfl).cell q _ (opn_at (T5) hq)
                    have HQ := hide hq
                    have HQ1 := hide hq1
                    have r0 : (0 : Int) ≤ (q : Int) := by omega
                    have r4 : (q : Int) < 4 := by omega
                    have rc : (cntT (T5) q : Int) ≤ 4 := by have := cntT_le (T5) q; omega
                    clear hq hq1 hq4
                    cases hT : (T5) q with
                    | none =>
                      rw [hT] at c1
                      have c1 : w8.cell? ⟨ob, q, none⟩ = some (.bool false) := c1
                      have hG := ow_getq HS.out (i := 0) rfl (j := q) (v := .pointer none) (by rw [hT]; rfl)
                      have HN := hide (cntT_none hT)
                      clear hT
                      go_wp2
                      go_quiet (first | (go_at_call 12; refine Calls.quiet_of_same (hG _)))
                      go_wp2
                      go_roundw
                      case rel => exact ⟨q + 1, by omega, by have := HQ.out; omega, by go_num, by rw [HN.out], hide (HS.out.below (Below.drewsN _ _))⟩
                      case measure => simp [intOf]; have := HQ.out; omega
                    | some z =>
                      obtain ⟨x, t⟩ := z
                      rw [hT] at c1
                      have c1 : w8.cell? ⟨ob, q, none⟩ = some (.bool true) := c1
                      have hG := ow_getq HS.out (i := 0) rfl (j := q) (v := .pointer (some ⟨x, 0, none⟩)) (by rw [hT]; rfl)
                      have HN := hide (cntT_some hT)
                      clear hT
                      go_wp2
                      go_quiet (first | (go_at_call 12; refine Calls.quiet_of_same (hG _)))
                      go_wp2
                      go_roundw
                      case rel => exact ⟨q + 1, by omega, by have := HQ.out; omega, by go_num, by rw [HN.out]; rfl, hide (HS.out.below (Below.drewsN _ _))⟩
                      case measure => simp [intOf]; have := HQ.out; omega
                  · obtain rfl : q = 4 := by omega
                    clear hq hq1 hq4
                    go_wp2_with (go_at_call 19; (with_reducible refine (ow_open HS.out (i := 0) rfl rfl).mono ?_); rintro e w7 ⟨rfl, hs⟩; have HE := hide hs; clear hs)
                    go_roundw
                    case rel => exact ⟨j + 1, _, by have := HLT.out; omega, by go_num, HE⟩
                    case measure => simp [intOf]; have := HLT.out; omega
      · obtain rfl : j = l.length := by omega
        clear hlt hj
        go_wp2
        go_ret
        exact ⟨rfl, hs.out.bel⟩
  · have hl1 : (60 : Int) < (l.length : Int) := by omega
    clear hlen
    go_enter Try.func8, Try.ntmps8
    go_wp2_with (go_at_call 9; (with_reducible refine (fit_any _).mono ?_); rintro e w0 ⟨rfl, hb⟩; have S0 := hide ((Ow.start w).below hb); clear hb)
    go_ret
    exact ⟨rfl, S0.out.bel⟩
end Go.Proofs.Ytkegfedbffhnfaa
