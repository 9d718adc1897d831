/-
  Contracts of package pool: Touch, Clean, Flush, Dirty.
-/
import Derived.Test.YtkdcnddagebjpaaPo7
namespace Go.Proofs.Ytkdcnddagebjpaa
open Go.RowKit
set_option maxRecDepth 20000
set_option linter.unusedSimpArgs false
set_option linter.unusedVariables false

section
variable {w w' : World} {X Y : Nat → Prop} {dg : Nat} {d : Ds} {g : Nat} {l l1 : Ln} {kv : Value} {q : Nat} {P : Po} {gr : Rg} {k : Nat}
theorem touch_none (h : PAt w X dg d g l kv q P) {n m : Nat} (hf : P.find n = none) :
    Calls Try.prog 14 #[.pointer (some ⟨q, 0, none⟩), .int .i64 (n : Int), .int .u64 (m : Int)] w fun e w' => e = .returned (.tuple #[]) ∧ w = w' := by
  have hfi := find_po h n
  rw [hf] at hfi
  unfold fv at hfi
  clear h hf
  go_enter Try.func14, Try.ntmps14
  go_wp2_with (go_at_call 32; refine hfi.mono ?_; rintro e w2 ⟨rfl, rfl⟩)
  refine bodyPost_ret (results_none rfl _ _ _) rfl ?_
  exact ⟨rfl, rfl⟩
def Pg.marked (p : Pg) (m : Nat) : Pg := ⟨m, p.ten, p.num, p.s⟩
def Fm.touched (x : Fm) (m : Nat) : Fm := ⟨x.pb, x.num, x.req, true, if x.dirty = true then x.since else m, x.pg.marked m⟩
theorem touch_found (h : PAt w X dg d g l kv q P) {n m z b : Nat} (hf : P.find n = some z) (hb : (P.f z).pb = some b) :
    Calls Try.prog 14 #[.pointer (some ⟨q, 0, none⟩), .int .i64 (n : Int), .int .u64 (m : Int)] w fun e w' => e = .returned (.tuple #[]) ∧ PAt w' X dg d g l kv q (P.set z ((P.f z).touched m)) ∧ Out X w w' := by
  have hfi := find_po h n
  obtain ⟨hz, _, _⟩ := Po.find_some hf
  rw [hf] at hfi
  unfold fv at hfi
  obtain ⟨f0, f1, f2, f3, f4⟩ := h.cell hz
  have fz := h.frozen
  rw [hb] at f0
  unfold pv at f0
  obtain ⟨hpg, hxb, hbq⟩ := h.pg z b hz hb
  have m0 := hpg.markC
  have mz := hpg.frozen 0
  have hqb : ¬ q = b := fun e => hbq e.symm
  have hK := Kept.setCell w ⟨b, 0, none⟩ (.int .u64 (m : Int))
  have h1 := h.paged hz hb (w' := w.setCell ⟨b, 0, none⟩ (.int .u64 (m : Int))) hK (x := ⟨(P.f z).pb, (P.f z).num, (P.f z).req, (P.f z).dirty, (P.f z).since, (P.f z).pg.marked m⟩) rfl rfl (hpg.set_mark m)
  have O1 := hide (show Out X w (w.setCell ⟨b, 0, none⟩ (.int .u64 (m : Int))) from hK.mono (fun k e => .inl (by rw [e]; exact hxb)))
  have H1 := hide h1
  have HB := hide hb
  have HX := hide hxb
  clear h hf hb hpg f1 f2 hK h1 hxb
  cases hdy : (P.f z).dirty
  · rw [hdy] at f3
    have e : (P.f z).touched m = ⟨(P.f z).pb, (P.f z).num, (P.f z).req, true, m, (P.f z).pg.marked m⟩ := by unfold Fm.touched; rw [hdy]; rfl
    rw [e]
    have HD := hide hdy
    clear e hdy
    go_enter Try.func14, Try.ntmps14
    go_wp2_with (go_at_call 32; refine hfi.mono ?_; rintro e w2 ⟨rfl, rfl⟩)
    go_end0
    have H2 := H1.out.cellF hz (c := 3) (v := .bool true) (by omega) (x := ⟨(P.f z).pb, (P.f z).num, (P.f z).req, true, (P.f z).since, (P.f z).pg.marked m⟩) (by rw [Po.set_same]; rfl) (by rw [Po.set_same]) (by rw [Po.set_same])
    have H3 := H2.cellF hz (c := 4) (v := .int .u64 (m : Int)) (by omega) (x := ⟨(P.f z).pb, (P.f z).num, (P.f z).req, true, m, (P.f z).pg.marked m⟩) (by rw [Po.set_same]; rfl) (by rw [Po.set_same]) (by rw [Po.set_same])
    simp only [Po.set_set] at H3
    exact ⟨rfl, H3, O1.out.trans ((H1.out.outQ (kept_cell _ _ _ _)).trans (H2.outQ (kept_cell _ _ _ _)))⟩
  · rw [hdy] at f3
    have e : (P.f z).touched m = ⟨(P.f z).pb, (P.f z).num, (P.f z).req, (P.f z).dirty, (P.f z).since, (P.f z).pg.marked m⟩ := by unfold Fm.touched; rw [hdy]; rfl
    rw [e]
    clear e hdy
    go_enter Try.func14, Try.ntmps14
    go_wp2_with (go_at_call 32; refine hfi.mono ?_; rintro e w2 ⟨rfl, rfl⟩)
    go_end0
    exact ⟨rfl, H1.out, O1.out⟩
theorem flush_miss (h : PAt w X dg d g l kv q P) {n : Nat} (hf : P.find n = none) :
    Calls Try.prog 15 #[.pointer (some ⟨q, 0, none⟩), .int .i64 (n : Int)] w fun e w' => e = .returned (.int .i64 0) ∧ w = w' := by
  have hfi := find_po h n
  rw [hf] at hfi
  unfold fv at hfi
  clear h hf
  go_enter Try.func15, Try.ntmps15
  go_wp2_with (go_at_call 32; refine hfi.mono ?_; rintro e w2 ⟨rfl, rfl⟩)
  go_ret
  exact ⟨rfl, rfl⟩
theorem flush_found (h : PAt w X dg d g l kv q P) (hfl : l.Fit) (hlr : l.r = P.r) (hd : DIs d P.r gr k) (hk : k ≤ 700000) (hsz : 538 ≤ d.size) {n z b : Nat} (hf : P.find n = some z) (hb : (P.f z).pb = some b) (hx : (P.f z).Fit) :
    Calls Try.prog 15 #[.pointer (some ⟨q, 0, none⟩), .int .i64 (n : Int)] w (AnyRet w X dg d g l q P z gr (k + 310)) := by
  have hfi := find_po h n
  obtain ⟨hz, _, _⟩ := Po.find_some hf
  rw [hf] at hfi
  unfold fv at hfi
  have hsv := save_any h hfl hlr hd hk hsz hz hb hx
  clear h hf hb hd hx
  go_enter Try.func15, Try.ntmps15
  go_wp2_with (first
    | (go_at_call 32; refine hfi.mono ?_; rintro e w2 ⟨rfl, rfl⟩)
    | (go_at_call 38; refine hsv.mono ?_; rintro e w3 ⟨v, rfl, rfl, hw⟩))
  go_ret
  exact ⟨_, rfl, rfl, hw⟩
/-- Is it not at hand, or not dirty? -/
def Po.cleanB (P : Po) (n : Nat) : Bool := match P.find n with | none => true | some z => !(P.f z).dirty
theorem clean_any (h : PAt w X dg d g l kv q P) (n : Nat) :
    Calls Try.prog 21 #[.pointer (some ⟨q, 0, none⟩), .int .i64 (n : Int)] w fun e w' => e = .returned (.bool (P.cleanB n)) ∧ w = w' := by
  have hfi := find_po h n
  unfold Po.cleanB
  cases hf : P.find n with
  | none =>
    rw [hf] at hfi
    unfold fv at hfi
    clear h hf
    go_enter Try.func21, Try.ntmps21
    go_wp2_with (go_at_call 32; refine hfi.mono ?_; rintro e w2 ⟨rfl, rfl⟩)
    go_ret
    exact ⟨rfl, rfl⟩
  | some z =>
    rw [hf] at hfi
    unfold fv at hfi
    obtain ⟨hz, _, _⟩ := Po.find_some hf
    have f3 := (h.cell hz).2.2.2.1
    clear h hf
    go_enter Try.func21, Try.ntmps21
    go_wp2_with (go_at_call 32; refine hfi.mono ?_; rintro e w2 ⟨rfl, rfl⟩)
    go_ret
    exact ⟨rfl, rfl⟩
/-- Since when a page is dirty. -/
def Po.sinceOf (P : Po) (n : Nat) : Nat := match P.find n with | none => 0 | some z => (P.f z).since
def Po.sinces (P : Po) (k : Nat) : List Nat := (List.range 6).map fun n => if n < k then P.sinceOf n else 0
theorem Po.sinces_length (P : Po) (k : Nat) : (P.sinces k).length = 6 := by simp [Po.sinces]
theorem Po.sinces_zero (P : Po) : P.sinces 0 = z6 := by
  unfold Po.sinces z6
  rfl
theorem Po.sinces_set (P : Po) {k : Nat} (hk : k < 6) : (P.sinces k).set k (P.sinceOf k) = P.sinces (k + 1) := by
  apply List.ext_getElem?
  intro i
  unfold Po.sinces
  rw [List.getElem?_set]
  simp only [List.length_map, List.length_range, List.getElem?_map]
  by_cases e : k = i
  · subst e
    rw [if_pos rfl, if_pos hk, List.getElem?_range hk]
    simp
  · rw [if_neg e]
    by_cases hi : i < 6
    · rw [List.getElem?_range hi]
      simp only [Option.map_some]
      congr 1
      by_cases h1 : i < k
      · rw [if_pos h1, if_pos (by omega)]
      · rw [if_neg h1, if_neg (by omega)]
    · rw [List.getElem?_eq_none (by simpa using hi)]
      rfl
theorem u64s_set (l : List Nat) (j x : Nat) : (u64s l).toArray.setIfInBounds j (.int .u64 (x : Int)) = (u64s (l.set j x)).toArray := by
  unfold u64s
  rw [List.setIfInBounds_toArray, List.map_set]
theorem dirty_any (h : PAt w X dg d g l kv q P) :
    Calls Try.prog 26 #[.pointer (some ⟨q, 0, none⟩)] w fun e w' => ∃ b, e = .returned (.slice (some ⟨b, 0, none⟩) 6 6) ∧ w.heap.size ≤ b ∧ Blk w' b 23 (u64s (P.sinces 6)).toArray ∧ Below w.heap.size w w' := by
  have H0 := hide h
  have hmk := run_make6
  clear h
  go_enter Try.func26, Try.ntmps26
  go_wp2
  go_loopw [4, 5, 9] (fun u5 u6 u wr => ∃ (j : Nat), j ≤ 6 ∧ u = .int .i64 j ∧ Hid (Blk wr w.heap.size 23 (u64s (P.sinces j)).toArray) ∧ Hid (Below w.heap.size w wr)) (fun _ _ u _ => 6 - (intOf u).toNat)
  case atStart =>
    refine ⟨0, by omega, rfl, ?_, ?_⟩
    · rw [P.sinces_zero]
      exact hide (Blk.new_ w _ _ rfl)
    · exact hide ((Below.refl _ w).alloc (Nat.le_refl _) _)
  case round =>
    obtain ⟨j, hj, rfl, hbk, hb⟩ := hrel
    by_cases hlt : j < 6
    · have hlt' : (j : Int) < 6 := by omega
      have H1 := hide (H0.out.below hb.out)
      have hfi := find_po H1.out j
      have hset := P.sinces_set hlt
      have hsl := P.sinces_length j
      cases hf : P.find j with
      | none =>
        rw [hf] at hfi
        unfold fv at hfi
        have hs : P.sinces (j + 1) = P.sinces j := by
          rw [← hset]
          have e0 : P.sinceOf j = 0 := by unfold Po.sinceOf; rw [hf]
          rw [e0]
          apply List.ext_getElem?
          intro i
          rw [List.getElem?_set]
          split
          · rename_i e
            subst e
            rw [if_pos (by rw [hsl]; exact hlt)]
            unfold Po.sinces
            rw [List.getElem?_map, List.getElem?_range hlt]
            simp
          · rfl
        have HS := hide hs
        clear hf hset hsl hs
        go_wp2_with (go_at_call 32; refine hfi.mono ?_; rintro e w2 ⟨rfl, rfl⟩)
        go_roundw
        case rel => exact ⟨j + 1, by omega, by go_num, by rw [HS.out]; exact hbk, hb⟩
        case measure => simp [intOf]; omega
      | some z =>
        rw [hf] at hfi
        unfold fv at hfi
        obtain ⟨hz, _, _⟩ := Po.find_some hf
        have f4 := (H1.out.cell hz).2.2.2.2
        have e0 : P.sinceOf j = (P.f z).since := by unfold Po.sinceOf; rw [hf]
        rw [e0] at hset
        have HS := hide hset
        have hj6 : j < (u64s (P.sinces j)).toArray.size := by simp [u64s, hsl, hlt]
        have hcell : ∃ u, wr.cell? ⟨w.heap.size, j, none⟩ = some u := ⟨_, hbk.out.cell j _ (Array.getElem?_eq_getElem hj6)⟩
        obtain ⟨u0, hu0⟩ := hcell
        have hfz := hbk.out.frozen j
        have hne : ¬ q = w.heap.size := by have := H0.out.blk.lt; omega
        clear hf hset hsl e0 hj6
        go_wp2_with (go_at_call 32; refine hfi.mono ?_; rintro e w2 ⟨rfl, rfl⟩)
        go_roundw
        case rel =>
          refine ⟨j + 1, by omega, by go_num, ?_, hide (below_set hb.out (Nat.le_refl _) _)⟩
          have := hbk.out.set_ j (.int .u64 ((P.f z).since : Int))
          rw [u64s_set, HS.out] at this
          exact hide this
        case measure => simp [intOf]; omega
    · obtain rfl : j = 6 := by omega
      go_wp2
      go_ret
      exact ⟨w.heap.size, rfl, Nat.le_refl _, hbk.out, hb.out⟩
end
end Go.Proofs.Ytkdcnddagebjpaa
