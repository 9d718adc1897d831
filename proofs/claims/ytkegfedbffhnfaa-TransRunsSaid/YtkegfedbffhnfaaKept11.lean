/-
  TransKept's walk.
-/
import Derived.Test.YtkegfedbffhnfaaApart11
namespace Go.Proofs.Ytkegfedbffhnfaa
open Go.RowKit
set_option maxRecDepth 20000
set_option linter.unusedSimpArgs false
set_option linter.unusedVariables false

abbrev ibK : KeyShape Int := intK 3 Try.underlying3
def boolV (b : Bool) : Value := .bool b
theorem mapIB : Try.prog.underlying 50 = some (.map ibK.k 4) := Try.underlying50
theorem zero_bool (w : World) : (zeroValue 4).run Try.prog w = .ok (boolV false) w := by kernel_rfl
/-- A set of ints as a map says it. -/
def setF (xs : List Int) : Int → Option Bool := fun s => if s ∈ xs then some true else none
theorem setF_put (xs : List Int) (x : Int) : (fun t => if t = x then some true else setF xs t) = setF (xs ++ [x]) := by
  funext t
  unfold setF
  by_cases e : t = x
  · simp [e]
  · simp [e]
theorem setF_nil : setF [] = fun _ => none := by
  funext t
  simp [setF]
theorem setF_yes {xs : List Int} {s : Int} {b : Bool} (h : setF xs s = some b) : s ∈ xs := by
  unfold setF at h
  split at h
  · assumption
  · cases h
theorem setF_true {xs : List Int} {s : Int} {b : Bool} (h : setF xs s = some b) : b = true := by
  unfold setF at h
  split at h
  · exact (Option.some.inj h).symm
  · cases h
/-- One loaded. -/
def nT (m x : Nat) (t : Tx) : Tb := updT noT m (some (x, t))
theorem nT_at (m x : Nat) (t : Tx) : nT m x t m = some (x, t) := updT_at
theorem nT_few {m x k : Nat} {t : Tx} (h : t.l.length ≤ k) : ∀ i y u, nT m x t i = some (y, u) → u.l.length ≤ k := by
  intro i y u e
  unfold nT updT at e
  split at e
  · injection e with e
    injection e with e1 e2
    subst e2
    exact h
  · cases e
theorem nT_cnt {m x : Nat} {t : Tx} (h1 : 0 < m) (h4 : m < 4) : cntT (nT m x t) 4 = 1 := by
  rcases (by omega : m = 1 ∨ m = 2 ∨ m = 3) with rfl | rfl | rfl <;> simp [cntT, nT, updT]
theorem nT_sum {m x : Nat} {t : Tx} (h1 : 0 < m) (h4 : m < 4) : sumT (nT m x t) 4 = t.l.length := by
  rcases (by omega : m = 1 ∨ m = 2 ∨ m = 3) with rfl | rfl | rfl <;> simp [sumT, nT, updT, lenO]
theorem nT_kept {m x : Nat} {t : Tx} {p : Int} (h1 : 0 < m) (h4 : m < 4) : keptT (nT m x t) p 4 = keepL p t.l := by
  rcases (by omega : m = 1 ∨ m = 2 ∨ m = 3) with rfl | rfl | rfl <;> simp [keptT, nT, updT, keepO]
theorem keep_wf {p : Int} {l : List Ch} (h : ∀ c ∈ l, c.Ok) : ∀ s ∈ keepL p l, (Lit.int .i64 s).wf = true := by
  intro s hs
  unfold keepL at hs
  obtain ⟨c, hc, rfl⟩ := List.mem_map.1 hs
  exact (h c (List.mem_filter.1 hc).1).slot
set_option maxHeartbeats 16000000 in
theorem kept_walk (v : Value) (l : List Ch) (n0 p : Int) (w : World) (hv : ChRow w w.heap.size v l) (_hn : (Lit.int .i64 n0).wf = true) (_hp : (Lit.int .i64 p).wf = true) : Calls Try.prog 4 #[v, .int .i64 n0, .int .i64 p] w fun e w' => e = .returned (.bool true) ∧ Below w.heap.size w w' := by
  have HWF := hide (keep_wf (p := p) hv.2)
  have HOKS := hide hv.2
  obtain ⟨⟨A0, cap, rfl, hlc, _⟩, _⟩ := id hv
  have HV := hide hv
  clear hv hlc
  by_cases hlen : l.length ≤ 100
  · have hl1 : ¬ (100 : Int) < (l.length : Int) := by omega
    have hl2 : (l.length : Int) ≤ 100 := by omega
    have HFEW := hide hlen
    have hmm := @run_makeMap Try.prog
    obtain ⟨q3, hq3, hand⟩ := and3 n0
    clear hlen
    go_enter Try.func4, Try.ntmps4
    go_wp2_with (go_at_call 9; (with_reducible refine (fit_any _).mono ?_); rintro e w0 ⟨rfl, hb⟩; have S0 := hide ((Ow.start w).below hb); clear hb)
    go_loopw [24] (fun i wr => ∃ j : Nat, j ≤ l.length ∧ i = .int .i64 j ∧ Hid (Ow w (fun _ => False) wr [])) (fun i _ => l.length - (intOf i).toNat)
    case atStart => exact ⟨0, by omega, rfl, S0⟩
    case round =>
      clear S0
      obtain ⟨j, hj, rfl, hs⟩ := hrel
      by_cases hlt : j < l.length
      · obtain ⟨⟨pg, sl, bf⟩, hc⟩ : ∃ c, l[j]? = some c := ⟨_, List.getElem?_eq_getElem hlt⟩
        obtain ⟨_, b1, o1, rfl, ⟨i0, i1, i2⟩, hok⟩ := change_cells HV.out hs.out.bel hc
        dsimp only at i0 i1 i2
        have q0 : (0 : Int) ≤ (j : Int) := by omega
        have q1 : (j : Int) < (l.length : Int) := by omega
        have HLT := hide hlt
        have SB := hide (hs.out.box 31 #[.int .i64 pg, .int .i64 sl, .string bf])
        obtain ⟨b0, b2, b3, _⟩ := (SB.out.blk (i := 0) rfl).three
        clear hok hc hlt
        by_cases hbig : bf.size ≤ 100
        · have hbi : ¬ (100 : Int) < (bf.size : Int) := by omega
          clear hbig
          go_wp2
          go_roundw
          case rel => exact ⟨j + 1, by have := HLT.out; omega, by go_num, hide (SB.out.take 0)⟩
          case measure => simp [intOf]; have := HLT.out; omega
        · have hbi : (100 : Int) < (bf.size : Int) := by omega
          clear hbig
          go_wp2
          go_ret
          exact ⟨rfl, SB.out.bel⟩
      · obtain rfl : l.length = j := by omega
        clear hlt hj
        have hq9 : ¬ (l.length : Int) < (l.length : Int) := by omega
        have S1 := hide (hs.out.newtab layT 27)
        clear hs
        by_cases hq : q3 = 3
        · subst hq
          have hand : bits .and .i64 n0 3 = 3 := hand
          clear hq3
          have HKL := hide (load_no (w := wr.alloc (.cells #[.pointer none, .pointer none, .pointer none, .pointer none] 27)) (v := .pointer (some ⟨wr.heap.size, 0, none⟩)) (u := .slice A0 l.length cap) (n := 4) (by decide))
          have HKO := hide (ow_open S1.out (i := 0) rfl (c := 0) rfl)
          go_wp2_with (first
            | (go_at_call 18; (with_reducible refine HKL.out.mono ?_); rintro e w1 ⟨rfl, rfl⟩; clear HKL)
            | (go_at_call 19; (with_reducible refine HKO.out.mono ?_); rintro e w2 ⟨rfl, hs⟩; clear HKO; have HG := hide (ow_geti hs (i := 0) rfl 4 (v := .pointer none) rfl); have HE := hide hs; clear hs)
            | (go_at_call 12; (with_reducible refine HG.out.mono ?_); rintro e w3 ⟨rfl, rfl⟩; clear HG))
          go_ret
          exact ⟨rfl, HE.out.bel⟩
        · obtain ⟨m, hqm, hm1, hm4⟩ : ∃ m : Nat, (q3 : Int) + 1 = (m : Int) ∧ 0 < m ∧ m < 4 := ⟨q3 + 1, by omega, by omega, by omega⟩
          have HM1 := hide hm1
          have HM4 := hide hm4
          have hmi : ¬ (m : Int) = 4 := by omega
          have hq5 : (q3 : Int) ≤ 10 := by omega
          obtain ⟨_, hsr, hsn⟩ := chrow_src (HV.out.below S1.out.bel)
          have HKL := hide (ow_load S1.out (i := 0) rfl hm1 hm4 (c := cap) hsr hsn (by have := HFEW.out; omega))
          clear hq hq3 hm1 hm4 hsr hsn
          go_wp2_with (first
            | (go_at_call 18; (with_reducible refine HKL.out.mono ?_); rintro e w1 ⟨rfl, x, hs⟩; clear HKL; have S2 := hide (hs.newmap ibK boolV); clear hs))
          have S3 : Hid (Ow w (fun _ => False) (w1.alloc (.map #[] 0)) [Res.tt wr.heap.size (nT m x ⟨l, l.length, []⟩), Res.map ibK boolV w1.heap.size 0 (setF (keepL p (l.take 0))) 0]) := hide (by
            rw [List.take_zero, show keepL p [] = [] from rfl, setF_nil]
            exact S2.out)
          clear S2 S1
          generalize wr.heap.size = g at *
          generalize hw2 : w1.alloc (.map #[] 0) = w2 at *
          generalize w1.heap.size = wb at *
          clear hw2
          go_loopw [50] (fun i wr => ∃ j : Nat, j ≤ l.length ∧ i = .int .i64 j ∧ Hid (∃ c, Ow w (fun _ => False) wr [Res.tt g (nT m x ⟨l, l.length, []⟩), Res.map ibK boolV wb j (setF (keepL p (l.take j))) c])) (fun i _ => l.length - (intOf i).toNat)
          case atStart => exact ⟨0, by omega, rfl, hide ⟨0, S3.out⟩⟩
          case round =>
            clear S3
            rename World => w8
            obtain ⟨j, hj, rfl, hs0⟩ := hrel
            obtain ⟨c, hs1⟩ := hs0.out
            have hs := hide hs1
            clear hs0 hs1
            by_cases hlt : j < l.length
            · obtain ⟨⟨pg, sl, bf⟩, hc⟩ : ∃ c, l[j]? = some c := ⟨_, List.getElem?_eq_getElem hlt⟩
              obtain ⟨_, b1, o1, rfl, ⟨i0, i1, i2⟩, hok⟩ := change_cells HV.out hs.out.bel hc
              dsimp only at i0 i1 i2
              have q0 : (0 : Int) ≤ (j : Int) := by omega
              have q1 : (j : Int) < (l.length : Int) := by omega
              have HLT := hide hlt
              have HC := hide hc
              have SB := hide (hs.out.box 31 #[.int .i64 pg, .int .i64 sl, .string bf])
              obtain ⟨b0, b2, b3, _⟩ := (SB.out.blk (i := 2) rfl).three
              have hsl := hok.slot
              have HMO : Hid (Ow w (fun _ => False) (w8.alloc (.cells #[.int .i64 pg, .int .i64 sl, .string bf] 31)) [Res.tt g (nT m x ⟨l, l.length, []⟩), Res.map ibK boolV wb (j + 1) (setF (keepL p (l.take j))) c]) := hide (by
                have h := SB.out.take 2
                obtain ⟨S, h4, h6⟩ := Ow.split (i := 1) h rfl
                exact h6 _ (Res.map ibK boolV wb (j + 1) (setF (keepL p (l.take j))) c) (Kept.refl _ _) ⟨.inl h4.1, h4.2.more (by omega)⟩)
              clear hok hc hlt
              by_cases hpg : pg = p
              · subst hpg
                by_cases hbf : bf = ⟨#[]⟩
                · subst hbf
                  have HKB := hide (keepB_no2 (p := pg) (c := ⟨pg, sl, ⟨#[]⟩⟩) rfl)
                  clear hsl
                  go_wp2
                  go_roundw
                  case rel => exact ⟨j + 1, by have := HLT.out; omega, by go_num, hide (by rw [keepL_no HC.out HKB.out]; exact ⟨c, HMO.out⟩)⟩
                  case measure => simp [intOf]; have := HLT.out; omega
                · have HKB := hide (keepB_yes (p := pg) (c := ⟨pg, sl, bf⟩) rfl hbf)
                  have hbe := isEmpty_ne hbf
                  obtain ⟨w4, hr, hm3, ht3⟩ := (SB.out.map (i := 1) rfl).store mapIB (by unfold maxLen; have := HLT.out; have := HFEW.out; omega) sl hsl true
                  have hr2 : (Instr.mapUpdate 50 (.map (some wb)) (.int .i64 sl) (.bool true)).run Try.prog (w8.alloc (.cells #[.int .i64 pg, .int .i64 sl, .string bf] 31)) = .ok () w4 := hr
                  rw [setF_put] at hm3
                  have HE := hide ((SB.out.mapped (i := 1) rfl hm3 ht3).take 2)
                  clear hr hm3 ht3 hsl
                  go_wp2
                  go_roundw
                  case rel => exact ⟨j + 1, by have := HLT.out; omega, by go_num, hide (by rw [keepL_yes HC.out HKB.out]; exact ⟨_, HE.out⟩)⟩
                  case measure => simp [intOf]; have := HLT.out; omega
              · have HKB := hide (keepB_no1 (p := p) (c := ⟨pg, sl, bf⟩) hpg)
                clear hsl
                go_wp2
                go_roundw
                case rel => exact ⟨j + 1, by have := HLT.out; omega, by go_num, hide (by rw [keepL_no HC.out HKB.out]; exact ⟨c, HMO.out⟩)⟩
                case measure => simp [intOf]; have := HLT.out; omega
            · obtain rfl : l.length = j := by omega
              clear hlt hj
              have hs9 := hs.out
              rw [List.take_length] at hs9
              have S4 := hide (hs9.newmap ibK boolV)
              clear hs hs9
              have HKK := hide (ow_kept S4.out (i := 0) rfl (nT_few (k := 1000) (by show l.length ≤ 1000; have := HFEW.out; omega)) p (nT_kept HM1.out HM4.out))
              go_wp2_with (go_at_call 20; (with_reducible refine HKK.out.mono ?_); rintro e w5 ⟨v5, rfl, hs⟩; clear HKK; obtain ⟨Al, cl, el⟩ := (hs.krow (i := 3) rfl).form; subst el; have S5 := hide hs; clear hs)
              have S6 : Hid (Ow w (fun _ => False) w5 [Res.tt g (nT m x ⟨l, l.length, []⟩), Res.map ibK boolV wb l.length (setF (keepL p l)) c, Res.map ibK boolV w8.heap.size 0 (setF ((keepL p l).take 0)) 0, Res.row intsK (.slice Al (keepL p l).length cl) (keepL p l)]) := hide (by
                rw [List.take_zero, setF_nil]
                exact S5.out)
              have HXL := hide (keepL_length p l)
              clear S5 S4
              generalize keepL p l = xs at *
              generalize w8.heap.size = gb at *
              have hx2 : (xs.length : Int) ≤ 100 := by have := HXL.out; have := HFEW.out; omega
              go_loopw [71] (fun i wr => ∃ j : Nat, j ≤ xs.length ∧ i = .int .i64 j ∧ Hid (∃ c2, Ow w (fun _ => False) wr [Res.tt g (nT m x ⟨l, l.length, []⟩), Res.map ibK boolV wb l.length (setF xs) c, Res.map ibK boolV gb j (setF (xs.take j)) c2, Res.row intsK (.slice Al xs.length cl) xs])) (fun i _ => xs.length - (intOf i).toNat)
              case atStart => exact ⟨0, by omega, rfl, hide ⟨0, S6.out⟩⟩
              case round =>
                clear S6
                rename World => w9
                obtain ⟨j, hj, rfl, hs0⟩ := hrel
                obtain ⟨c2, hs1⟩ := hs0.out
                have hs := hide hs1
                clear hs0 hs1
                by_cases hlt : j < xs.length
                · obtain ⟨s, hc⟩ : ∃ s, xs[j]? = some s := ⟨_, List.getElem?_eq_getElem hlt⟩
                  have hwf := HWF.out s (List.mem_of_getElem? hc)
                  have hrw := hs.out.krow (i := 3) rfl
                  obtain ⟨gl, cg, eg, _⟩ := hrw.block (by omega)
                  injection eg with eg1 eg2 eg3
                  subst eg1 eg3
                  have e0 : w9.cell? ⟨gl, j * 1 + 0, none⟩ = some (.int .i64 s) := hrw.cells hc 0 _ rfl
                  rw [Nat.mul_one, Nat.add_zero] at e0
                  have q0 : (0 : Int) ≤ (j : Int) := by omega
                  have q1 : (j : Int) < (xs.length : Int) := by omega
                  have HLT := hide hlt
                  have HTK : Hid (xs.take (j + 1) = xs.take j ++ [s]) := hide (by rw [List.take_add_one, hc]; rfl)
                  obtain ⟨w4, hr, hm3, ht3⟩ := (hs.out.map (i := 2) rfl).store mapIB (by unfold maxLen; have := HXL.out; have := HFEW.out; omega) s hwf true
                  have hr2 : (Instr.mapUpdate 50 (.map (some gb)) (.int .i64 s) (.bool true)).run Try.prog w9 = .ok () w4 := hr
                  rw [setF_put, ← HTK.out] at hm3
                  have HE := hide (hs.out.mapped (i := 2) rfl hm3 ht3)
                  clear hr hm3 ht3 hwf hrw hc hlt eg2 hs
                  go_wp2
                  go_roundw
                  case rel => exact ⟨j + 1, by have := HLT.out; omega, by go_num, hide ⟨_, HE.out⟩⟩
                  case measure => simp [intOf]; have := HLT.out; omega
                · obtain rfl : xs.length = j := by omega
                  clear hlt hj
                  have hs9 := hs.out
                  rw [List.take_length] at hs9
                  have hcc : c2 = c := (hs9.map (i := 2) rfl).fin.uniq (hs9.map (i := 1) rfl).fin (fun x => rfl)
                  subst hcc
                  have HS9 := hide hs9
                  clear hs hs9
                  go_wp2_with (at_range; refine wpList_range_G w9 rfl _ 50 rfl 4 mapIB gb xs.length (setF xs) c2 rfl (HS9.out.map (i := 2) rfl) ?_; intro w0 hrg hb0 hs0; have HS0 := hide (HS9.out.ranged (i := 2) rfl hrg hb0); clear hrg hb0 hs0)
                  go_frame
                  generalize w9.heap.size = r at *
                  clear HS9
                  go_loopw [80] (fun v wr => ∃ (left : Int → Bool) (cnt : Nat), Hid (Ow w (fun _ => False) wr [Res.tt g (nT m x ⟨l, l.length, []⟩), Res.map ibK boolV wb l.length (setF xs) c2, Res.range ibK boolV gb r xs.length (setF xs) c2 left cnt, Res.row intsK (.slice Al xs.length cl) xs])) (fun _ wr => wr.rangeLeft gb r)
                  case atStart => exact ⟨_, _, HS0⟩
                  case round =>
                    clear HS0
                    rename World => w1
                    obtain ⟨left, cnt, hs⟩ := hrel
                    go_wp2_with (at_next; refine wpList_next_G w1 rfl _ rfl gb r xs.length (setF xs) c2 left cnt rfl (hs.out.range (i := 2) rfl) ?_ ?_)
                    · intro _ _
                      have hln1 := fun ty => (hs.out.range (i := 2) rfl).owns.len mapIB ty
                      have hln2 := fun ty => (hs.out.map (i := 1) rfl).len mapIB ty
                      have HKO := hide (ow_open hs.out (i := 0) rfl (nT_cnt HM1.out HM4.out))
                      clear hs
                      have HLL : Hid ((⟨l, l.length, []⟩ : Tx).l.length = l.length) := hide rfl
                      by_cases h8 : 8 ≤ l.length
                      · have h8i : (8 : Int) ≤ (l.length : Int) := by omega
                        go_wp2_with (first
                          | (go_at_call 19; (with_reducible refine HKO.out.mono ?_); rintro e w11 ⟨rfl, hs⟩; clear HKO; have S7 := hide hs; have HG := hide (ow_getn hs (i := 0) rfl (j := m) (v := .pointer (some ⟨x, 0, none⟩)) (by rw [nT_at]; rfl)); have HLN := hide (ow_len hs (i := 0) rfl (nT_at m x _) HLL.out); have HFU := hide (ow_full hs (i := 0) rfl (nT_at m x _) (b := true) (by show decide (8 ≤ l.length) = true; simp [h8])); have HCH := hide (ow_changes hs (i := 0) rfl (nT_few (k := 100000) (by show l.length ≤ 100000; have := HFEW.out; omega)) (nT_sum HM1.out HM4.out)); clear hs)
                          | (go_at_call 12; (with_reducible refine HG.out.mono ?_); rintro e w12 ⟨rfl, rfl⟩)
                          | (go_at_call 21; (with_reducible refine HLN.out.mono ?_); rintro e w13 ⟨rfl, rfl⟩; clear HLN)
                          | (go_at_call 22; (with_reducible refine HFU.out.mono ?_); rintro e w14 ⟨rfl, rfl⟩; clear HFU)
                          | (go_at_call 23; (with_reducible refine HCH.out.mono ?_); rintro e w15 ⟨rfl, hs⟩; clear HCH; have HE := hide hs; clear hs))
                        go_ret
                        exact ⟨rfl, HE.out.bel⟩
                      · have h8i : ¬ (8 : Int) ≤ (l.length : Int) := by omega
                        go_wp2_with (first
                          | (go_at_call 19; (with_reducible refine HKO.out.mono ?_); rintro e w11 ⟨rfl, hs⟩; clear HKO; have S7 := hide hs; have HG := hide (ow_getn hs (i := 0) rfl (j := m) (v := .pointer (some ⟨x, 0, none⟩)) (by rw [nT_at]; rfl)); have HLN := hide (ow_len hs (i := 0) rfl (nT_at m x _) HLL.out); have HFU := hide (ow_full hs (i := 0) rfl (nT_at m x _) (b := false) (by show decide (8 ≤ l.length) = false; simp [h8])); have HCH := hide (ow_changes hs (i := 0) rfl (nT_few (k := 100000) (by show l.length ≤ 100000; have := HFEW.out; omega)) (nT_sum HM1.out HM4.out)); clear hs)
                          | (go_at_call 12; (with_reducible refine HG.out.mono ?_); rintro e w12 ⟨rfl, rfl⟩)
                          | (go_at_call 21; (with_reducible refine HLN.out.mono ?_); rintro e w13 ⟨rfl, rfl⟩; clear HLN)
                          | (go_at_call 22; (with_reducible refine HFU.out.mono ?_); rintro e w14 ⟨rfl, rfl⟩; clear HFU)
                          | (go_at_call 23; (with_reducible refine HCH.out.mono ?_); rintro e w15 ⟨rfl, hs⟩; clear HCH; have HE := hide hs; clear hs))
                        go_ret
                        exact ⟨by show Ending.returned (Value.bool (!decide ((8 : Int) ≤ (l.length : Int)))) = _; rw [decide_eq_false (show ¬ (8 : Int) ≤ (l.length : Int) by omega)]; rfl, HE.out.bel⟩
                    · intro s
                      refine ⟨fun w3 cnt1 hok hfk => absurd (setF_true hfk) (by decide), ?_⟩
                      intro w3 cnt1 hok hfk hlx hrg1 hlt1 hk1 hsz1 hen
                      have ev : ibK.val s = .int .i64 s := rfl
                      have eb : boolV true = .bool true := rfl
                      rw [ev, eb] at hen ⊢
                      clear ev eb
                      have hin := setF_yes hfk
                      have HLT := hide hlt1
                      have HRG := hide ((hs.out.range (i := 2) rfl).left_eq)
                      have hs2 := hs.out.stepped (i := 2) rfl hrg1 hk1
                      have hlk := (hs2.map (i := 1) rfl).look mapIB zero_bool s hok
                      have hlk : (Instr.lookup 50 (.map (some wb)) (.int .i64 s) false).run Try.prog w3 = .ok (.bool true) w3 := by
                        have e : setF xs s = some true := by unfold setF; rw [if_pos hin]
                        rw [e] at hlk
                        exact hlk
                      have HE := hide hs2
                      clear hs hlt1 hok hfk hlx hrg1 hk1 hsz1 hin hs2
                      go_wp2
                      go_roundw
                      case rel => exact ⟨_, cnt1, HE⟩
                      case measure =>
                        rw [(HE.out.range (i := 2) rfl).left_eq, HRG.out]
                        have := HLT.out
                        omega
  · have hl1 : (100 : Int) < (l.length : Int) := by omega
    clear hlen
    go_enter Try.func4, Try.ntmps4
    go_wp2_with (go_at_call 9; (with_reducible refine (fit_any _).mono ?_); rintro e w0 ⟨rfl, hb⟩; have S0 := hide ((Ow.start w).below hb); clear hb)
    go_ret
    exact ⟨rfl, S0.out.bel⟩
end Go.Proofs.Ytkegfedbffhnfaa
