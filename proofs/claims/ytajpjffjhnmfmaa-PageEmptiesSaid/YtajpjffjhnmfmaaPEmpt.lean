/-
  The walk of PageEmpties.
-/
import Derived.Test.YtajpjffjhnmfmaaFill
import Derived.Test.YtajpjffjhnmfmaaRange
import Derived.Test.YtajpjffjhnmfmaaPgEq
import Derived.Test.YtajpjffjhnmfmaaCellS
import Derived.Test.YtajpjffjhnmfmaaToward
import Derived.WalkMore
import Derived.Deep.LoopGhost
namespace Go.Proofs.Ytajpjffjhnmfmaa
open Go.RowKit Go.Shelf

set_option linter.unusedSimpArgs false
set_option linter.unusedVariables false
attribute [local go_sem] Oper.semAt_some

theorem PgB.empt {w : World} {g m : Nat} (h : PgB w g (⟨m, 3, 1, fun _ => ⟨#[]⟩⟩ : Pg)) : w.cell? ⟨g, 0, none⟩ = some (.int .u64 (m : Int)) ∧ w.cell? ⟨g, 1, none⟩ = some (.int .i64 3) ∧ w.cell? ⟨g, 2, none⟩ = some (.int .i64 1) ∧
    w.cell? ⟨g, 3, none⟩ = some (.string ⟨#[]⟩) ∧ w.cell? ⟨g, 4, none⟩ = some (.string ⟨#[]⟩) ∧ w.cell? ⟨g, 5, none⟩ = some (.string ⟨#[]⟩) ∧ w.cell? ⟨g, 6, none⟩ = some (.string ⟨#[]⟩) ∧ w.cell? ⟨g, 7, none⟩ = some (.string ⟨#[]⟩) := h.all
theorem empt_enc {g : Nat} (m : Nat) (w : World) (hg : g < w.heap.size) :
    Calls Try.prog 14 #[.agg #[.int .u64 (m : Int), .int .i64 3, .int .i64 1, .string ⟨#[]⟩, .string ⟨#[]⟩, .string ⟨#[]⟩, .string ⟨#[]⟩, .string ⟨#[]⟩]] w fun e w' => ∃ v, e = .returned v ∧ (Word.away (· = g) 256 (⟨m, 3, 1, fun _ => ⟨#[]⟩⟩ : Pg).encL).p w' v ∧ Below w.heap.size w w' := by
  refine (encode_mtn m 3 1 (fun _ => ⟨#[]⟩) w (fun _ _ => okB_empty) (by omega) (by omega)).mono ?_
  rintro e w' ⟨A, c, rfl, hm, hb⟩
  exact ⟨_, rfl, ⟨A, c, rfl, hm.away hg⟩, hb⟩
theorem empt_free {G : World → World → Prop} {w : World} {g m : Nat} (h : PgB w g (⟨m, 3, 1, fun _ => ⟨#[]⟩⟩ : Pg)) : Calls Try.prog 21 #[.pointer (some ⟨g, 0, none⟩), .slice none 0 0] w fun e w' => ∃ v, e = .returned v ∧ (Word.is G (.int .i64 0)).p w' v ∧ Below w.heap.size w w' := by
  refine (free_0 h).mono ?_
  rintro e w' ⟨rfl, rfl⟩
  refine ⟨_, rfl, ?_, Below.refl _ _⟩
  show Value.int .i64 (Pg.freeI (⟨m, 3, 1, fun _ => ⟨#[]⟩⟩ : Pg) []) = _
  rw [free_here (⟨m, 3, 1, fun _ => ⟨#[]⟩⟩ : Pg) [] 0 (by omega) (fun j hj => absurd hj (by omega)) (by simp [Pg.freeB])]
  rfl
theorem empt_page {w : World} {g m : Nat} {s : Nat → ByteArray} (h : PgB w g ⟨m, 3, 1, s⟩) (hs : ∀ x, x < 5 → s x = ⟨#[]⟩) : PgB w g (⟨m, 3, 1, fun _ => ⟨#[]⟩⟩ : Pg) := by
  have e : (⟨m, 3, 1, s⟩ : Pg).cells = (⟨m, 3, 1, fun _ => ⟨#[]⟩⟩ : Pg).cells := by
    simp [Pg.cells, hs 0 (by omega), hs 1 (by omega), hs 2 (by omega), hs 3 (by omega), hs 4 (by omega)]
  unfold PgB at *
  rwa [e] at h
theorem empt_slot {w : World} {g : Nat} {p : Pg} (h : PgB w g p) (j : Nat) (hj : j < 5) (hs : p.s j = ⟨#[]⟩) : Calls Try.prog 16 #[.pointer (some ⟨g, 0, none⟩), .int .i64 (j : Int)] w fun e w' => e = .returned (.string ⟨#[]⟩) ∧ w = w' := by
  have := slot_in h j hj
  rwa [hs] at this
theorem empt_here (p : Pg) (i : Nat) : (p.set i ⟨#[]⟩).s i = ⟨#[]⟩ := by simp [Pg.set]
theorem empt_more {m i : Nat} {s : Nat → ByteArray} (h : ∀ x, x < i → s x = ⟨#[]⟩) : ∀ x, x < i + 1 → (Pg.set ⟨m, 3, 1, s⟩ i ⟨#[]⟩).s x = ⟨#[]⟩ := by
  intro x hx
  simp only [Pg.set]
  split
  · rfl
  · exact h x (by omega)
set_option maxRecDepth 20000 in
set_option maxHeartbeats 8000000 in
theorem empt_long (v : Value) (rs : List RowD) (m : Nat) (w : World) (hm : m < 18446744073709551616) (hv : RowRow w w.heap.size v rs) (hl : lightsB rs = false) :
    Calls Try.prog 10 #[v, .int .u64 (m : Int)] w fun e w' => e = .returned (.bool true) ∧ Below w.heap.size w w' := by
  have V0 := hide ((RIn.start hv).below ((Below.refl _ _).alloc (Nat.le_refl _) (.cells #[.bool false] 4)))
  have B0 : Hid (Blk (w.alloc (.cells #[.bool false] 4)) w.heap.size 4 #[.bool false]) := hide (heap_new w _)
  have HV := hide hv
  clear hv
  refine (callsIn_wide (n := 3)).1 ?_
  refine callsIn_of_wp_marks Try.func10 rfl trivial ?_ rfl
  refine wpIn_wide.2 ?_
  simp only [Try.ntmps10, List.size_toArray, List.length_cons, List.length_nil, Nat.reduceAdd, Nat.reduceSub, Array.replicate_succ, Array.replicate_zero, List.push_toArray, List.append_toArray, List.nil_append, List.cons_append]
  go_wp2_with (first
    | (go_at_call 11; (with_reducible refine (fit_any _).mono ?_); rintro e w1 ⟨rfl, hb1⟩; have V1 := hide (V0.out.below hb1); have B1 := hide (B0.out.below hb1); clear hb1)
    | (go_at_call 12; (with_reducible refine (light_told false _ rs _ V1.out.row hl).mono ?_); rintro e w2 ⟨rfl, hb2⟩; have V2 := hide (V1.out.below hb2); have B2 := hide (B1.out.below hb2); have cB := B2.out.cell 0 _ rfl; have fB := B2.out.frozen 0; clear hb2))
  exact ⟨.bool true, by simp [results, Try.results10, go_sem, cB, fB], rfl, (V2.out.bel.setCell (p := ⟨w.heap.size, 0, none⟩) (Nat.le_refl _) _)⟩
set_option maxRecDepth 20000 in
set_option maxHeartbeats 8000000 in
theorem empt_light (v : Value) (rs : List RowD) (m : Nat) (w : World) (hm : m < 18446744073709551616) (hv : RowRow w w.heap.size v rs) (hl : lightsB rs = true) :
    Calls Try.prog 10 #[v, .int .u64 (m : Int)] w fun e w' => e = .returned (.bool true) ∧ Below w.heap.size w w' := by
  have V0 := hide ((RIn.start hv).below ((Below.refl _ _).alloc (Nat.le_refl _) (.cells #[.bool false] 4)))
  have B0 : Hid (Blk (w.alloc (.cells #[.bool false] 4)) w.heap.size 4 #[.bool false]) := hide (heap_new w _)
  have HV := hide hv
  clear hv
  refine (callsIn_wide (n := 3)).1 ?_
  refine callsIn_of_wp_marks Try.func10 rfl trivial ?_ rfl
  refine wpIn_wide.2 ?_
  simp only [Try.ntmps10, List.size_toArray, List.length_cons, List.length_nil, Nat.reduceAdd, Nat.reduceSub, Array.replicate_succ, Array.replicate_zero, List.push_toArray, List.append_toArray, List.nil_append, List.cons_append]
  obtain ⟨A0, cc, hvv, _⟩ := id HV.out
  subst hvv
  go_wp2_with (first
    | (go_at_call 11; (with_reducible refine (fit_any _).mono ?_); rintro e w1 ⟨rfl, hb1⟩; have V1 := hide (V0.out.below hb1); have B1 := hide (B0.out.below hb1); clear hb1)
    | (go_at_call 12; (with_reducible refine (light_told true _ rs _ V1.out.row hl).mono ?_); rintro e w2 ⟨rfl, hb2⟩; have V2 := hide (V1.out.below hb2); have B2 := hide (B1.out.below hb2); have cB := B2.out.cell 0 _ rfl; have fB := B2.out.frozen 0; clear hb2))
  have P3 : Hid (PgB ((w2.alloc (.cells #[.int .u64 (m : Int), .int .i64 3, .int .i64 1, .string ⟨#[]⟩, .string ⟨#[]⟩, .string ⟨#[]⟩, .string ⟨#[]⟩, .string ⟨#[]⟩] 35)).alloc (.cells #[.int .u64 (m : Int), .int .i64 3, .int .i64 1, .string ⟨#[]⟩, .string ⟨#[]⟩, .string ⟨#[]⟩, .string ⟨#[]⟩, .string ⟨#[]⟩] 35)) w2.heap.size (⟨m, 3, 1, fun _ => ⟨#[]⟩⟩ : Pg)) := hide (Blk.alloc (heap_new w2 _) _)
  have Q3 : Hid (PgB ((w2.alloc (.cells #[.int .u64 (m : Int), .int .i64 3, .int .i64 1, .string ⟨#[]⟩, .string ⟨#[]⟩, .string ⟨#[]⟩, .string ⟨#[]⟩, .string ⟨#[]⟩] 35)).alloc (.cells #[.int .u64 (m : Int), .int .i64 3, .int .i64 1, .string ⟨#[]⟩, .string ⟨#[]⟩, .string ⟨#[]⟩, .string ⟨#[]⟩, .string ⟨#[]⟩] 35)) (w2.heap.size + 1) (⟨m, 3, 1, fun _ => ⟨#[]⟩⟩ : Pg)) := hide (heap_at _ _ (by simp))
  have B3 := hide (Blk.alloc (Blk.alloc B2.out (.cells #[.int .u64 (m : Int), .int .i64 3, .int .i64 1, .string ⟨#[]⟩, .string ⟨#[]⟩, .string ⟨#[]⟩, .string ⟨#[]⟩, .string ⟨#[]⟩] 35)) (.cells #[.int .u64 (m : Int), .int .i64 3, .int .i64 1, .string ⟨#[]⟩, .string ⟨#[]⟩, .string ⟨#[]⟩, .string ⟨#[]⟩, .string ⟨#[]⟩] 35))
  have W3 := hide ((V2.out.bel.alloc V2.out.bel.size (.cells #[.int .u64 (m : Int), .int .i64 3, .int .i64 1, .string ⟨#[]⟩, .string ⟨#[]⟩, .string ⟨#[]⟩, .string ⟨#[]⟩, .string ⟨#[]⟩] 35)).alloc (by have := V2.out.bel.size; simp; omega) (.cells #[.int .u64 (m : Int), .int .i64 3, .int .i64 1, .string ⟨#[]⟩, .string ⟨#[]⟩, .string ⟨#[]⟩, .string ⟨#[]⟩, .string ⟨#[]⟩] 35))
  have hlt := B2.out.lt
  have HNP := hide (show w2.heap.size ≠ w.heap.size by omega)
  have HNQ := hide (show w2.heap.size + 1 ≠ w.heap.size by omega)
  have HPQ := hide (show w2.heap.size ≠ w2.heap.size + 1 by omega)
  have HWP := hide (show w.heap.size ≤ w2.heap.size by omega)
  have HWQ := hide (show w.heap.size ≤ w2.heap.size + 1 by omega)
  clear hlt cB fB
  generalize ((w2.alloc (.cells #[.int .u64 (m : Int), .int .i64 3, .int .i64 1, .string ⟨#[]⟩, .string ⟨#[]⟩, .string ⟨#[]⟩, .string ⟨#[]⟩, .string ⟨#[]⟩] 35)).alloc (.cells #[.int .u64 (m : Int), .int .i64 3, .int .i64 1, .string ⟨#[]⟩, .string ⟨#[]⟩, .string ⟨#[]⟩, .string ⟨#[]⟩, .string ⟨#[]⟩] 35)) = w3 at *
  generalize hgq : w2.heap.size + 1 = gq at *
  generalize w2.heap.size = gp at *
  clear hgq
  go_loopg [20] rs.length (fun q i wr => ∃ (j : Nat) (s : Nat → ByteArray), j + q = rs.length ∧ i = .int .i64 j ∧ Hid (PgB wr gq ⟨m, 3, 1, s⟩) ∧ Hid (PgB wr gp (⟨m, 3, 1, fun _ => ⟨#[]⟩⟩ : Pg)) ∧ Hid (Blk wr w.heap.size 4 #[.bool false]) ∧ Hid (Below w.heap.size w wr))
  case atStart => exact ⟨0, _, by omega, rfl, Q3, P3, B3, W3⟩
  case round =>
    obtain ⟨j, s, hj, rfl, hq, hp, hbk, hbe⟩ := hrel
    cases gk with
    | zero =>
      obtain rfl : j = rs.length := by omega
      go_wp2
      go_loopg [37] 5 (fun q i wr2 => ∃ (j : Nat) (s : Nat → ByteArray), j + q = 5 ∧ i = .int .i64 j ∧ Hid (PgB wr2 gq ⟨m, 3, 1, s⟩) ∧ Hid (∀ x, x < j → s x = ⟨#[]⟩) ∧ Hid (PgB wr2 gp (⟨m, 3, 1, fun _ => ⟨#[]⟩⟩ : Pg)) ∧ Hid (Blk wr2 w.heap.size 4 #[.bool false]) ∧ Hid (Below w.heap.size w wr2))
      case atStart => exact ⟨0, s, by omega, rfl, hq, hide (fun x hx => absurd hx (by omega)), hp, hbk, hbe⟩
      case round =>
        obtain ⟨i, s2, hi, rfl, hq, hse, hp, hbk, hbe⟩ := hrel
        cases gk with
        | zero =>
          obtain rfl : i = 5 := by omega
          have hq0 := hide (empt_page hq.out hse.out)
          clear hse hq
          go_wp2
          have hlp := hide hp.out.lt
          have hlq := hide hq0.out.lt
          have hlb := hide hbk.out.lt
          refine wpIn_wide.1 (range_rows (gp := gq) (p := (⟨m, 3, 1, fun _ => ⟨#[]⟩⟩ : Pg)) (n := 3) (by omega) rfl rfl (fun _ _ => okB_empty)
            (fun _ A => PgB A gq (⟨m, 3, 1, fun _ => ⟨#[]⟩⟩ : Pg) ∧ PgB A gp (⟨m, 3, 1, fun _ => ⟨#[]⟩⟩ : Pg) ∧ Blk A w.heap.size 4 #[.bool false] ∧ Below w.heap.size w A ∧ wr.heap.size ≤ A.heap.size) (fun _ _ _ => False)
            (fun k A B h hc => ⟨hc.blk h.1 (by have := hlq.out; omega) (by have := hlq.out; omega), hc.blk h.2.1 (by have := hlp.out; omega) (by have := hlp.out; omega), hc.blk h.2.2.1 (by have := hlb.out; omega) (by have := hlb.out; omega), h.2.2.2.1.trans ((hc.below h.2.2.2.2).mono hbe.out.size), Nat.le_trans h.2.2.2.2 hc.2.2.2.1⟩)
            (fun _ _ _ _ h _ => h) (fun k A h => h.1) (fun k A _ _ h => h) ⟨hq0.out, hp.out, hbk.out, hbe.out, Nat.le_refl _⟩ (fun k A _ hs _ _ => absurd rfl hs) ?_ (fun _ _ _ h _ => h.elim))
          rintro wA ⟨xq, xp, xb, xw, xs⟩ hK
          have PA := hide xp
          have QA := hide xq
          have BA := hide xb
          have HG4 := hide xb.lt
          have WA := hide xw
          have HK := hide hK
          have HXS := hide xs
          have HLE : Hid ((⟨m, 3, 1, fun _ => ⟨#[]⟩⟩ : Pg).encL.length = 256) := hide (Pg.encL_length (fun j hj => by show (⟨#[]⟩ : ByteArray).size ≤ 40; decide))
          clear xq xp xb xw hK xs hq0 hp hbk hbe hlp hlq
          go_wp2
          refine region_turns (G := Turns (· = w.heap.size)) [Word.is _ (.agg #[.int .u64 (m : Int), .int .i64 3, .int .i64 1, .string ⟨#[]⟩, .string ⟨#[]⟩, .string ⟨#[]⟩, .string ⟨#[]⟩, .string ⟨#[]⟩]), Word.is _ (.agg #[.int .u64 (m : Int), .int .i64 3, .int .i64 1, .string ⟨#[]⟩, .string ⟨#[]⟩, .string ⟨#[]⟩, .string ⟨#[]⟩, .string ⟨#[]⟩]), Word.is _ (.bool true), Word.is _ (.bool true), Word.is _ (.int .i64 0), Word.is _ (.bool true), Word.is _ (.bool true), Word.is _ (.bool true), Word.is _ (.agg #[.int .u64 (m : Int), .int .i64 3, .int .i64 1, .string ⟨#[]⟩, .string ⟨#[]⟩, .string ⟨#[]⟩, .string ⟨#[]⟩, .string ⟨#[]⟩]), Word.away _ 256 ((⟨m, 3, 1, fun _ => ⟨#[]⟩⟩ : Pg).encL), Word.is _ (.string ⟨((⟨m, 3, 1, fun _ => ⟨#[]⟩⟩ : Pg).encL).toArray⟩), Word.is _ (.agg #[.int .u64 (m : Int), .int .i64 3, .int .i64 1, .string ⟨#[]⟩, .string ⟨#[]⟩, .string ⟨#[]⟩, .string ⟨#[]⟩, .string ⟨#[]⟩]), Word.away _ 256 ((⟨m, 3, 1, fun _ => ⟨#[]⟩⟩ : Pg).encL), Word.is _ (.string ⟨((⟨m, 3, 1, fun _ => ⟨#[]⟩⟩ : Pg).encL).toArray⟩), Word.is _ (.bool true), Word.is _ (.bool true), Word.any _] (cellS w.heap.size 4 (.bool false) (.bool true) 16) (Turns.refl _) Turns.trans (Turns.drew _) (by kernel_rfl) (by kernel_rfl) (by kernel_rfl) (by kernel_rfl) (fun L L' w h hS => cellS.ext (h 16 (by decide)) hS) (cellS.start BA.out) ?_ ?_
          · intro i o hoo L a w2 hb hS hLi hnot hyes hsz old dep
            match i, hoo with
            | 0, hoo =>
              obtain rfl := Option.some.inj hoo
              have o5 : a.tmps.getD 5 undef = _ := old 5 (by kernel_rfl)
              rw [if_pos (wanted_none rfl)]
              obtain ⟨g0, g1, g2, g3, g4, g5, g6, g7⟩ := PgB.empt (w := w2) (g := gp) (m := m) (hb.blk (show Blk wA gp 35 (⟨m, 3, 1, fun _ => ⟨#[]⟩⟩ : Pg).cells from PA.out) HNP.out)
              refine turn_same (Turns.refl _) (v := .agg #[.int .u64 (m : Int), .int .i64 3, .int .i64 1, .string ⟨#[]⟩, .string ⟨#[]⟩, .string ⟨#[]⟩, .string ⟨#[]⟩, .string ⟨#[]⟩]) ?_ rfl (cellS.other (by decide) hS)
              clear old dep hoo hsz hb hS hLi hnot hyes
              go_simp
            | 1, hoo =>
              obtain rfl := Option.some.inj hoo
              have o6 : a.tmps.getD 6 undef = _ := old 6 (by kernel_rfl)
              rw [if_pos (wanted_none rfl)]
              obtain ⟨g0, g1, g2, g3, g4, g5, g6, g7⟩ := PgB.empt (w := w2) (g := gq) (m := m) (hb.blk (show Blk wA gq 35 (⟨m, 3, 1, fun _ => ⟨#[]⟩⟩ : Pg).cells from QA.out) HNQ.out)
              refine turn_same (Turns.refl _) (v := .agg #[.int .u64 (m : Int), .int .i64 3, .int .i64 1, .string ⟨#[]⟩, .string ⟨#[]⟩, .string ⟨#[]⟩, .string ⟨#[]⟩, .string ⟨#[]⟩]) ?_ rfl (cellS.other (by decide) hS)
              clear old dep hoo hsz hb hS hLi hnot hyes
              go_simp
            | 2, hoo =>
              obtain rfl := Option.some.inj hoo
              have d0 : a.tmps.getD 52 undef = .agg #[.int .u64 (m : Int), .int .i64 3, .int .i64 1, .string ⟨#[]⟩, .string ⟨#[]⟩, .string ⟨#[]⟩, .string ⟨#[]⟩, .string ⟨#[]⟩] := dep 0 _ _ (by kernel_rfl) rfl rfl
              have e0 : a.tmps[52]?.getD undef = _ := (Array.getD_eq_getD_getElem? ..).symm.trans d0
              have d1 : a.tmps.getD 53 undef = .agg #[.int .u64 (m : Int), .int .i64 3, .int .i64 1, .string ⟨#[]⟩, .string ⟨#[]⟩, .string ⟨#[]⟩, .string ⟨#[]⟩, .string ⟨#[]⟩] := dep 1 _ _ (by kernel_rfl) rfl rfl
              have e1 : a.tmps[53]?.getD undef = _ := (Array.getD_eq_getD_getElem? ..).symm.trans d1
              rw [if_pos (wanted_none rfl)]
              exact turn_same (Turns.refl _) (v := .bool true) (exec_eq_page rfl d0 d1) rfl (cellS.other (by decide) hS)
            | 3, hoo =>
              obtain rfl := Option.some.inj hoo
              have d2 : a.tmps.getD 54 undef = .bool true := dep 2 _ _ (by kernel_rfl) rfl rfl
              have e2 : a.tmps[54]?.getD undef = _ := (Array.getD_eq_getD_getElem? ..).symm.trans d2
              rw [if_pos (wanted_none rfl)]
              refine turn_same (Turns.refl _) (v := .bool true) ?_ rfl (cellS.other (by decide) hS)
              clear old dep hoo hsz hb hS hLi hnot hyes
              go_simp
            | 4, hoo =>
              obtain rfl := Option.some.inj hoo
              have o6 : a.tmps.getD 6 undef = _ := old 6 (by kernel_rfl)
              have d3 : a.tmps.getD 55 undef = .bool true := dep 3 _ _ (by kernel_rfl) rfl rfl
              have e3 : a.tmps[55]?.getD undef = _ := (Array.getD_eq_getD_getElem? ..).symm.trans d3
              rw [if_pos (wanted_some rfl rfl rfl (by rw [hsz]; exact of_decide_eq_true rfl) d3)]
              refine turn_enters (f := 21) (args := #[.pointer (some ⟨gq, 0, none⟩), .slice none 0 0]) ?_ (cellS.call (by decide) hS (empt_free (hb.blk QA.out HNQ.out)))
              clear old dep hoo hsz hb hS hLi hnot hyes
              go_simp
            | 5, hoo =>
              obtain rfl := Option.some.inj hoo
              have d4 : a.tmps.getD 56 undef = .int .i64 0 := dep 4 _ _ (by kernel_rfl) rfl rfl
              have e4 : a.tmps[56]?.getD undef = _ := (Array.getD_eq_getD_getElem? ..).symm.trans d4
              have d3 : a.tmps.getD 55 undef = .bool true := dep 3 _ _ (by kernel_rfl) rfl rfl
              have e3 : a.tmps[55]?.getD undef = _ := (Array.getD_eq_getD_getElem? ..).symm.trans d3
              rw [if_pos (wanted_some rfl rfl rfl (by rw [hsz]; exact of_decide_eq_true rfl) d3)]
              refine turn_same (Turns.refl _) (v := .bool true) ?_ rfl (cellS.other (by decide) hS)
              clear old dep hoo hsz hb hS hLi hnot hyes
              go_simp
            | 6, hoo =>
              obtain rfl := Option.some.inj hoo
              have d3 : a.tmps.getD 55 undef = .bool true := dep 3 _ _ (by kernel_rfl) rfl rfl
              have e3 : a.tmps[55]?.getD undef = _ := (Array.getD_eq_getD_getElem? ..).symm.trans d3
              have d5 : a.tmps.getD 57 undef = .bool true := dep 5 _ _ (by kernel_rfl) rfl rfl
              have e5 : a.tmps[57]?.getD undef = _ := (Array.getD_eq_getD_getElem? ..).symm.trans d5
              rw [if_pos (wanted_none rfl)]
              refine turn_same (Turns.refl _) (v := .bool true) ?_ rfl (cellS.other (by decide) hS)
              clear old dep hoo hsz hb hS hLi hnot hyes
              go_simp
            | 7, hoo =>
              obtain rfl := Option.some.inj hoo
              have d6 : a.tmps.getD 58 undef = .bool true := dep 6 _ _ (by kernel_rfl) rfl rfl
              have e6 : a.tmps[58]?.getD undef = _ := (Array.getD_eq_getD_getElem? ..).symm.trans d6
              rw [if_pos (wanted_none rfl)]
              refine turn_same (Turns.refl _) (v := .bool true) ?_ rfl (cellS.other (by decide) hS)
              clear old dep hoo hsz hb hS hLi hnot hyes
              go_simp
            | 8, hoo =>
              obtain rfl := Option.some.inj hoo
              have o5 : a.tmps.getD 5 undef = _ := old 5 (by kernel_rfl)
              have d7 : a.tmps.getD 59 undef = .bool true := dep 7 _ _ (by kernel_rfl) rfl rfl
              have e7 : a.tmps[59]?.getD undef = _ := (Array.getD_eq_getD_getElem? ..).symm.trans d7
              rw [if_pos (wanted_some rfl rfl rfl (by rw [hsz]; exact of_decide_eq_true rfl) d7)]
              obtain ⟨g0, g1, g2, g3, g4, g5, g6, g7⟩ := PgB.empt (w := w2) (g := gp) (m := m) (hb.blk (show Blk wA gp 35 (⟨m, 3, 1, fun _ => ⟨#[]⟩⟩ : Pg).cells from PA.out) HNP.out)
              refine turn_same (Turns.refl _) (v := .agg #[.int .u64 (m : Int), .int .i64 3, .int .i64 1, .string ⟨#[]⟩, .string ⟨#[]⟩, .string ⟨#[]⟩, .string ⟨#[]⟩, .string ⟨#[]⟩]) ?_ rfl (cellS.other (by decide) hS)
              clear old dep hoo hsz hb hS hLi hnot hyes
              go_simp
            | 9, hoo =>
              obtain rfl := Option.some.inj hoo
              have d8 : a.tmps.getD 60 undef = .agg #[.int .u64 (m : Int), .int .i64 3, .int .i64 1, .string ⟨#[]⟩, .string ⟨#[]⟩, .string ⟨#[]⟩, .string ⟨#[]⟩, .string ⟨#[]⟩] := dep 8 _ _ (by kernel_rfl) rfl rfl
              have e8 : a.tmps[60]?.getD undef = _ := (Array.getD_eq_getD_getElem? ..).symm.trans d8
              have d7 : a.tmps.getD 59 undef = .bool true := dep 7 _ _ (by kernel_rfl) rfl rfl
              have e7 : a.tmps[59]?.getD undef = _ := (Array.getD_eq_getD_getElem? ..).symm.trans d7
              rw [if_pos (wanted_some rfl rfl rfl (by rw [hsz]; exact of_decide_eq_true rfl) d7)]
              refine turn_enters (f := 14) (args := #[.agg #[.int .u64 (m : Int), .int .i64 3, .int .i64 1, .string ⟨#[]⟩, .string ⟨#[]⟩, .string ⟨#[]⟩, .string ⟨#[]⟩, .string ⟨#[]⟩]]) ?_ (cellS.call (by decide) hS (empt_enc m w2 (Nat.lt_of_lt_of_le HG4.out hb.size)))
              clear old dep hoo hsz hb hS hLi hnot hyes
              go_simp
            | 10, hoo =>
              obtain rfl := Option.some.inj hoo
              obtain ⟨A9, C9, d9, r9⟩ : ∃ A c, a.tmps.getD 61 undef = .slice A 256 c ∧ Away (· = w.heap.size) w2 (.slice A 256 c) (u8s ((⟨m, 3, 1, fun _ => ⟨#[]⟩⟩ : Pg).encL)) := dep 9 _ _ (by kernel_rfl) rfl rfl
              have e9 : a.tmps[61]?.getD undef = _ := (Array.getD_eq_getD_getElem? ..).symm.trans d9
              have d7 : a.tmps.getD 59 undef = .bool true := dep 7 _ _ (by kernel_rfl) rfl rfl
              have e7 : a.tmps[59]?.getD undef = _ := (Array.getD_eq_getD_getElem? ..).symm.trans d7
              rw [if_pos (wanted_some rfl rfl rfl (by rw [hsz]; exact of_decide_eq_true rfl) d7)]
              have hcv := conv_rdn HLE.out r9.rd
              refine turn_same (Turns.refl _) (v := .string ⟨((⟨m, 3, 1, fun _ => ⟨#[]⟩⟩ : Pg).encL).toArray⟩) ?_ rfl (cellS.other (by decide) hS)
              clear old dep hoo hsz hb hS hLi hnot hyes r9
              go_simp
            | 11, hoo =>
              obtain rfl := Option.some.inj hoo
              have o6 : a.tmps.getD 6 undef = _ := old 6 (by kernel_rfl)
              have d7 : a.tmps.getD 59 undef = .bool true := dep 7 _ _ (by kernel_rfl) rfl rfl
              have e7 : a.tmps[59]?.getD undef = _ := (Array.getD_eq_getD_getElem? ..).symm.trans d7
              rw [if_pos (wanted_some rfl rfl rfl (by rw [hsz]; exact of_decide_eq_true rfl) d7)]
              obtain ⟨g0, g1, g2, g3, g4, g5, g6, g7⟩ := PgB.empt (w := w2) (g := gq) (m := m) (hb.blk (show Blk wA gq 35 (⟨m, 3, 1, fun _ => ⟨#[]⟩⟩ : Pg).cells from QA.out) HNQ.out)
              refine turn_same (Turns.refl _) (v := .agg #[.int .u64 (m : Int), .int .i64 3, .int .i64 1, .string ⟨#[]⟩, .string ⟨#[]⟩, .string ⟨#[]⟩, .string ⟨#[]⟩, .string ⟨#[]⟩]) ?_ rfl (cellS.other (by decide) hS)
              clear old dep hoo hsz hb hS hLi hnot hyes
              go_simp
            | 12, hoo =>
              obtain rfl := Option.some.inj hoo
              have d11 : a.tmps.getD 63 undef = .agg #[.int .u64 (m : Int), .int .i64 3, .int .i64 1, .string ⟨#[]⟩, .string ⟨#[]⟩, .string ⟨#[]⟩, .string ⟨#[]⟩, .string ⟨#[]⟩] := dep 11 _ _ (by kernel_rfl) rfl rfl
              have e11 : a.tmps[63]?.getD undef = _ := (Array.getD_eq_getD_getElem? ..).symm.trans d11
              have d7 : a.tmps.getD 59 undef = .bool true := dep 7 _ _ (by kernel_rfl) rfl rfl
              have e7 : a.tmps[59]?.getD undef = _ := (Array.getD_eq_getD_getElem? ..).symm.trans d7
              rw [if_pos (wanted_some rfl rfl rfl (by rw [hsz]; exact of_decide_eq_true rfl) d7)]
              refine turn_enters (f := 14) (args := #[.agg #[.int .u64 (m : Int), .int .i64 3, .int .i64 1, .string ⟨#[]⟩, .string ⟨#[]⟩, .string ⟨#[]⟩, .string ⟨#[]⟩, .string ⟨#[]⟩]]) ?_ (cellS.call (by decide) hS (empt_enc m w2 (Nat.lt_of_lt_of_le HG4.out hb.size)))
              clear old dep hoo hsz hb hS hLi hnot hyes
              go_simp
            | 13, hoo =>
              obtain rfl := Option.some.inj hoo
              obtain ⟨A12, C12, d12, r12⟩ : ∃ A c, a.tmps.getD 64 undef = .slice A 256 c ∧ Away (· = w.heap.size) w2 (.slice A 256 c) (u8s ((⟨m, 3, 1, fun _ => ⟨#[]⟩⟩ : Pg).encL)) := dep 12 _ _ (by kernel_rfl) rfl rfl
              have e12 : a.tmps[64]?.getD undef = _ := (Array.getD_eq_getD_getElem? ..).symm.trans d12
              have d7 : a.tmps.getD 59 undef = .bool true := dep 7 _ _ (by kernel_rfl) rfl rfl
              have e7 : a.tmps[59]?.getD undef = _ := (Array.getD_eq_getD_getElem? ..).symm.trans d7
              rw [if_pos (wanted_some rfl rfl rfl (by rw [hsz]; exact of_decide_eq_true rfl) d7)]
              have hcv := conv_rdn HLE.out r12.rd
              refine turn_same (Turns.refl _) (v := .string ⟨((⟨m, 3, 1, fun _ => ⟨#[]⟩⟩ : Pg).encL).toArray⟩) ?_ rfl (cellS.other (by decide) hS)
              clear old dep hoo hsz hb hS hLi hnot hyes r12
              go_simp
            | 14, hoo =>
              obtain rfl := Option.some.inj hoo
              have d10 : a.tmps.getD 62 undef = .string ⟨((⟨m, 3, 1, fun _ => ⟨#[]⟩⟩ : Pg).encL).toArray⟩ := dep 10 _ _ (by kernel_rfl) rfl rfl
              have e10 : a.tmps[62]?.getD undef = _ := (Array.getD_eq_getD_getElem? ..).symm.trans d10
              have d13 : a.tmps.getD 65 undef = .string ⟨((⟨m, 3, 1, fun _ => ⟨#[]⟩⟩ : Pg).encL).toArray⟩ := dep 13 _ _ (by kernel_rfl) rfl rfl
              have e13 : a.tmps[65]?.getD undef = _ := (Array.getD_eq_getD_getElem? ..).symm.trans d13
              have d7 : a.tmps.getD 59 undef = .bool true := dep 7 _ _ (by kernel_rfl) rfl rfl
              have e7 : a.tmps[59]?.getD undef = _ := (Array.getD_eq_getD_getElem? ..).symm.trans d7
              rw [if_pos (wanted_some rfl rfl rfl (by rw [hsz]; exact of_decide_eq_true rfl) d7)]
              refine turn_same (Turns.refl _) (v := .bool true) ?_ rfl (cellS.other (by decide) hS)
              clear old dep hoo hsz hb hS hLi hnot hyes
              go_simp
            | 15, hoo =>
              obtain rfl := Option.some.inj hoo
              have d7 : a.tmps.getD 59 undef = .bool true := dep 7 _ _ (by kernel_rfl) rfl rfl
              have e7 : a.tmps[59]?.getD undef = _ := (Array.getD_eq_getD_getElem? ..).symm.trans d7
              have d14 : a.tmps.getD 66 undef = .bool true := dep 14 _ _ (by kernel_rfl) rfl rfl
              have e14 : a.tmps[66]?.getD undef = _ := (Array.getD_eq_getD_getElem? ..).symm.trans d14
              rw [if_pos (wanted_none rfl)]
              refine turn_same (Turns.refl _) (v := .bool true) ?_ rfl (cellS.other (by decide) hS)
              clear old dep hoo hsz hb hS hLi hnot hyes
              go_simp
            | 16, hoo =>
              obtain rfl := Option.some.inj hoo
              have o4 : a.tmps.getD 4 undef = _ := old 4 (by kernel_rfl)
              have d15 : a.tmps.getD 67 undef = .bool true := dep 15 _ _ (by kernel_rfl) rfl rfl
              have e15 : a.tmps[67]?.getD undef = _ := (Array.getD_eq_getD_getElem? ..).symm.trans d15
              rw [if_pos (wanted_none rfl)]
              obtain ⟨hc0, hf0⟩ := cellS.at_ hLi hS
              refine turn_skips (w' := w2.setCell ⟨w.heap.size, 0, none⟩ (.bool true)) ?_ trivial (cellS.done hLi hS) (Turns.own w2 _ _ _)
              clear old dep hoo hsz hb hS hLi hnot hyes
              go_simp
            | i + 17, hoo => exact absurd hoo (by simp)
          · intro a w9 hb hS hsz hdf fin keep
            obtain ⟨tm, df⟩ := a
            have hx := frame_of [52, 53, 54, 55, 56, 57, 58, 59, 60, 61, 62, 63, 64, 65, 66, 67] (by kernel_rfl) hsz keep
            dsimp only at hdf hx
            simp only [List.foldl_cons, List.foldl_nil] at hx
            subst hdf
            clear hsz keep
            have kn : tm.getD 52 undef = .agg #[.int .u64 (m : Int), .int .i64 3, .int .i64 1, .string ⟨#[]⟩, .string ⟨#[]⟩, .string ⟨#[]⟩, .string ⟨#[]⟩, .string ⟨#[]⟩] := fin 0 _ _ rfl rfl
            rw [kn] at hx
            clear kn
            have kn : tm.getD 53 undef = .agg #[.int .u64 (m : Int), .int .i64 3, .int .i64 1, .string ⟨#[]⟩, .string ⟨#[]⟩, .string ⟨#[]⟩, .string ⟨#[]⟩, .string ⟨#[]⟩] := fin 1 _ _ rfl rfl
            rw [kn] at hx
            clear kn
            have kn : tm.getD 54 undef = .bool true := fin 2 _ _ rfl rfl
            rw [kn] at hx
            clear kn
            have kn : tm.getD 55 undef = .bool true := fin 3 _ _ rfl rfl
            rw [kn] at hx
            clear kn
            have kn : tm.getD 56 undef = .int .i64 0 := fin 4 _ _ rfl rfl
            rw [kn] at hx
            clear kn
            have kn : tm.getD 57 undef = .bool true := fin 5 _ _ rfl rfl
            rw [kn] at hx
            clear kn
            have kn : tm.getD 58 undef = .bool true := fin 6 _ _ rfl rfl
            rw [kn] at hx
            clear kn
            have kn : tm.getD 59 undef = .bool true := fin 7 _ _ rfl rfl
            rw [kn] at hx
            clear kn
            have kn : tm.getD 60 undef = .agg #[.int .u64 (m : Int), .int .i64 3, .int .i64 1, .string ⟨#[]⟩, .string ⟨#[]⟩, .string ⟨#[]⟩, .string ⟨#[]⟩, .string ⟨#[]⟩] := fin 8 _ _ rfl rfl
            rw [kn] at hx
            clear kn
            generalize tm.getD 61 undef = y61 at hx
            have kn : tm.getD 62 undef = .string ⟨((⟨m, 3, 1, fun _ => ⟨#[]⟩⟩ : Pg).encL).toArray⟩ := fin 10 _ _ rfl rfl
            rw [kn] at hx
            clear kn
            have kn : tm.getD 63 undef = .agg #[.int .u64 (m : Int), .int .i64 3, .int .i64 1, .string ⟨#[]⟩, .string ⟨#[]⟩, .string ⟨#[]⟩, .string ⟨#[]⟩, .string ⟨#[]⟩] := fin 11 _ _ rfl rfl
            rw [kn] at hx
            clear kn
            generalize tm.getD 64 undef = y64 at hx
            have kn : tm.getD 65 undef = .string ⟨((⟨m, 3, 1, fun _ => ⟨#[]⟩⟩ : Pg).encL).toArray⟩ := fin 13 _ _ rfl rfl
            rw [kn] at hx
            clear kn
            have kn : tm.getD 66 undef = .bool true := fin 14 _ _ rfl rfl
            rw [kn] at hx
            clear kn
            have kn : tm.getD 67 undef = .bool true := fin 15 _ _ rfl rfl
            rw [kn] at hx
            clear kn
            clear fin
            simp only [List.setIfInBounds_toArray, List.set_cons_succ, List.set_cons_zero] at hx
            subst hx
            have BB := hS.last
            have hK2 := (hb.block (Array.getElem?_eq_some_iff.1 HK.out).1 (by have := hlb.out; omega)).trans HK.out
            have hW2 := WA.out.trans (hb.below (Nat.le_of_lt HG4.out) (by rintro x rfl; exact Nat.le_refl _))
            have cc := Calm.put wr.heap.size wr.heap.size w9 (.deferred none) (.inl rfl)
            have BZ := (cc.blk BB (by have := hlb.out; omega) (by have := hlb.out; omega)).cell 0 _ rfl
            go_wp2
            refine ⟨by simp, .inl ⟨_, _, rfl, run_takeDeferred hK2, ?_⟩⟩
            refine ⟨.bool true, ?_, rfl, hW2.trans ((cc.below (Nat.le_trans HXS.out hb.size)).mono (Nat.le_of_lt hlb.out))⟩
            simp [results, Try.results10, go_sem, BZ]
      
        | succ q =>
          have h5 : i < 5 := by omega
          have h5i : (i : Int) < 5 := by omega
          have H5 := hide h5
          clear h5
          go_wp2_with (first
            | (go_at_call 19; refine (set_empty hq.out i H5.out).mono ?_; rintro e w5 ⟨rfl, hps, hgs⟩; have hq5 := hide hps; have hp5 := hide (hp.out.grown hgs (fun e => by injection e with e; exact HPQ.out e.symm)); have hb5 := hide (Blk.grown hbk.out hgs (fun e => by injection e with e; exact HNQ.out e)); have hw5 := hide (hbe.out.grown hgs hbe.out.size (fun x hx => by injection hx with hx; have := HWQ.out; omega)); clear hps hgs)
            | (go_at_call 16; refine (empt_slot hq5.out i H5.out (empt_here _ i)).mono ?_; rintro e w6 ⟨rfl, rfl⟩))
          go_roundg q
          case rel => exact ⟨i + 1, _, by have := H5.out; omega, by go_num, hq5, hide (empt_more hse.out), hp5, hb5, hw5⟩
          case measure => omega
  
    | succ q =>
      have hjl : j < rs.length := by omega
      obtain ⟨b, o, rfl, d0, d1, d2⟩ := (HV.out.below hbe.out).at_ hjl
      have hjc : (j : Int) < (rs.length : Int) := by omega
      have H30 := lights_30 hl
      generalize rs[j] = z at *
      obtain ⟨zt, zk, zv⟩ := z
      dsimp only at *
      have hq1 := hide (hq.out.alloc (.cells #[.int .i64 zt, .string zk, .string zv] 46))
      have hp1 := hide (hp.out.alloc (.cells #[.int .i64 zt, .string zk, .string zv] 46))
      have hb1 := hide (Blk.alloc hbk.out (.cells #[.int .i64 zt, .string zk, .string zv] 46))
      have hw1 := hide (hbe.out.alloc hbe.out.size (.cells #[.int .i64 zt, .string zk, .string zv] 46))
      by_cases h5 : j < 5
      · have h5i : (j : Int) < 5 := by omega
        have R0 : Blk (wr.alloc (.cells #[.int .i64 zt, .string zk, .string zv] 46)) wr.heap.size 46 #[.int .i64 zt, .string zk, .string zv] := heap_new wr _
        cases hr : rightB zt zk zv
        · go_wp2_with (go_at_call 17; refine (right_no _ _ _ _ hr).mono ?_; rintro e w1' ⟨rfl, hbr⟩; have hq2 := hide (hq1.out.below hbr); have hp2 := hide (hp1.out.below hbr); have hb2 := hide (hb1.out.below hbr); have hw2 := hide (hw1.out.trans (hbr.mono hw1.out.size)))
          go_roundg q
          case rel => exact ⟨j + 1, s, by omega, by go_num, hq2, hp2, hb2, hw2⟩
          case measure => omega
        · obtain ⟨r1, _, _, _⟩ := rightB_iff.1 hr
          obtain ⟨tn, rfl⟩ : ∃ tn : Nat, zt = (tn : Int) := ⟨zt.toNat, by omega⟩
          obtain ⟨eo, en⟩ := encB_ok hr
          have HR := hide hr
          have hE := fun W => rowenc_str W HR.out
          generalize encB tn zk zv = E at *
          have EO := hide eo
          have EN := hide en
          have H5 := hide h5
          clear eo en hr r1
          go_wp2_with (first
            | (go_at_call 17; refine (right_yes _ _ _ _ HR.out).mono ?_; rintro e w1' ⟨rfl, hbr⟩; have hq2 := hide (hq1.out.below hbr); have hp2 := hide (hp1.out.below hbr); have hb2 := hide (hb1.out.below hbr); have hw2 := hide (hw1.out.trans (hbr.mono hw1.out.size)); obtain ⟨x0, x1, x2⟩ := (R0.below hbr).three; clear hbr)
            | (go_at_call 18; refine (hE _).mono ?_; rintro e w2' ⟨A2, c2', rfl, hbE, hcv⟩; have hq3 := hide (hq2.out.below hbE); have hp3 := hide (hp2.out.below hbE); have hb3 := hide (hb2.out.below hbE); have hw3 := hide (hw2.out.trans (hbE.mono hw2.out.size)); clear hbE)
            | (go_at_call 19; refine (set_row hq3.out j H5.out E EN.out EO.out).mono ?_; rintro e w3' ⟨rfl, hps, hgs⟩; have hq4 := hide hps; have hp4 := hide (hp3.out.grown hgs (fun e => by injection e with e; exact HPQ.out e.symm)); have hb4 := hide (Blk.grown hb3.out hgs (fun e => by injection e with e; exact HNQ.out e)); have hw4 := hide (hw3.out.grown hgs hw3.out.size (fun x hx => by injection hx with hx; have := HWQ.out; omega)); clear hps hgs))
          go_roundg q
          case rel => exact ⟨j + 1, _, by omega, by go_num, hq4, hp4, hb4, hw4⟩
          case measure => omega
      · have h5i : ¬ (j : Int) < 5 := by omega
        go_wp2
        go_roundg q
        case rel => exact ⟨j + 1, s, by omega, by go_num, hq1, hp1, hb1, hw1⟩
        case measure => omega
theorem empt_walk (v : Value) (rs : List RowD) (x : Int) (w : World) (hv : RowRow w w.heap.size v rs) (hx : (Lit.int .u64 x).wf = true) :
    Calls Try.prog 10 #[v, .int .u64 x] w fun e w' => e = .returned (.bool true) ∧ Below w.heap.size w w' := by
  obtain ⟨m, rfl, hm⟩ := wf_u64 hx
  cases hl : lightsB rs
  · exact empt_long v rs m w hm hv hl
  · exact empt_light v rs m w hm hv hl
end Go.Proofs.Ytajpjffjhnmfmaa
