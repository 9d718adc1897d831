/-
  RestartNone's walk.
-/
import Derived.Test.YtoifghofkjomnaaMute12
import Derived.BigQuiet
import Derived.Deep.CutBlock
namespace Go.Proofs.Ytoifghofkjomnaa
open Go.RowKit
set_option maxRecDepth 20000
set_option linter.unusedSimpArgs false
set_option linter.unusedVariables false

set_option maxHeartbeats 16000000 in
theorem none_walk (HAN : AnSaid) (v : Value) (l : List SeedD) (w : World) (hv : SeedRow w w.heap.size v l) : Calls Try.prog 8 #[v] w fun e w' => e = .returned (.bool true) ∧ Below w.heap.size w w' := by
  have HAN2 := hide HAN
  clear HAN
  have HV := hide hv
  clear hv
  cases hlb : lightB l with
  | false =>
    go_enter Try.func8, Try.ntmps8
    go_wp2_with (first
      | (go_at_call 9; (with_reducible refine (fit_any HAN2.out _).mono ?_); rintro e w1 ⟨rfl, hb1⟩; have HB := hide hb1; have HK1 := hide (light_any ((SeedRow.below HV.out hb1).more hb1.size)); clear hb1; rw [hlb] at HK1)
      | (go_at_call 10; (with_reducible refine HK1.out.mono ?_); rintro e w2 ⟨rfl, hb2⟩; clear HK1; have HB := hide (HB.out.trans (hb2.mono HB.out.size)); clear hb2))
    go_ret
    exact ⟨rfl, HB.out⟩
  | true =>
    have HL := hide (lightB_iff.1 hlb).1
    go_enter Try.func8, Try.ntmps8
    go_wp2_with (first
      | (go_at_call 9; (with_reducible refine (fit_any HAN2.out _).mono ?_); rintro e w1 ⟨rfl, hb1⟩; have HB := hide hb1; have HK1 := hide (light_any ((SeedRow.below HV.out hb1).more hb1.size)); clear hb1; rw [hlb] at HK1)
      | (go_at_call 10; (with_reducible refine HK1.out.mono ?_); rintro e w2 ⟨rfl, hb2⟩; clear HK1; have HB := hide (HB.out.trans (hb2.mono HB.out.size)); clear hb2; have HK2 := hide (entries_any ((SeedRow.below HV.out HB.out).more HB.out.size) HL.out))
      | (go_at_call 11; (with_reducible refine HK2.out.mono ?_); rintro e w3 ⟨u, es, rfl, hes, hs⟩; clear HK2; obtain ⟨Au, cu, rfl⟩ := (hs.krow (i := 0) rfl).form))
    have S0 := hide (hs.newrow eiK)
    have HES := hide hes
    have HLN := hide (show es.length ≤ 100 by rw [hes.len]; exact HL.out)
    clear hs hes
    go_loopw [3, 17] (fun u i wr => ∃ (j : Nat) (es' : List Ei), j ≤ es.length ∧ i = .int .i64 j ∧ Hid (Ow w2 (fun _ => False) wr [Res.row eiK (.slice Au es.length cu) es, Res.dirt es, Res.row eiK u es']) ∧ Hid (Mute es') ∧ Hid (∀ x ∈ es', x.r.ds = []) ∧ Hid (es'.length ≤ j)) (fun _ i _ => es.length - (intOf i).toNat)
    case atStart => exact ⟨0, [], by omega, rfl, S0, hide ⟨fun x hx => by cases hx⟩, hide (fun x hx => by cases hx), hide (Nat.le_refl _)⟩
    case round =>
      clear S0
      obtain ⟨j, es', hj, rfl, hs, hm, hd, HLE⟩ := hrel
      obtain ⟨A3, c3, rfl⟩ := (hs.out.krow (i := 2) rfl).form
      by_cases hlt : j < es.length
      · obtain ⟨x, hc⟩ : ∃ x, es[j]? = some x := ⟨_, List.getElem?_eq_getElem hlt⟩
        obtain ⟨b1, rfl, i0, i1, i2, i3, i4, i5, i6, i7, i8⟩ := hs.out.entry (i := 0) rfl hc
        have q0 : (0 : Int) ≤ (j : Int) := by omega
        have q1 : (j : Int) < (es.length : Int) := by omega
        have HOK := hide (HES.out.ok (List.mem_of_getElem? hc))
        have HLT := hide (show j < es.length ∧ es.length ≤ 100 from ⟨hlt, HLN.out⟩)
        have qn : (es.length : Int) ≤ 100 := by have := HLN.out; omega
        clear hlt hc
        by_cases h7 : x.r.k = 7
        · have g7 : ((x.r.k : Int) == 7) = true := by rw [h7]; rfl
          clear h7
          have SB := hide ((hs.out.box 40 #[.int .i64 (x.r.k : Int), .int .i64 (x.r.t : Int), .int .i64 (x.r.p : Int), .int .i64 (x.r.s : Int), .string x.r.b, .string x.r.a, .string x.r.i, .slice x.A x.r.ds.length x.c, .int .u64 (x.pl : Int)]).take 3)
          go_wp2
          go_roundw
          case rel => exact ⟨j + 1, es', by have := HLT.out; omega, by go_num, SB, hm, hd, hide (by have := HLE.out; omega)⟩
          case measure => simp [intOf]; have := HLT.out; omega
        · have g7 : ((x.r.k : Int) == 7) = false := by rw [beq_eq_false_iff_ne]; omega
          have HK7 := hide h7
          have SB := hide (hs.out.box 40 #[.int .i64 (x.r.k : Int), .int .i64 (x.r.t : Int), .int .i64 (x.r.p : Int), .int .i64 (x.r.s : Int), .string x.r.b, .string x.r.a, .string x.r.i, .slice x.A x.r.ds.length x.c, .int .u64 (x.pl : Int)])
          by_cases h1 : x.r.k = 1
          · have g1 : ((x.r.k : Int) == 1) = true := by rw [h1]; rfl
            have HK1 := hide h1
            clear h7 h1
            obtain ⟨v', w4, hrun, S9⟩ := Ow.addK (x := x) (cs := #[.int .i64 (x.r.k : Int), .int .i64 (x.r.t : Int), .int .i64 (x.r.p : Int), .int .i64 (x.r.s : Int), .string x.r.b, .string x.r.a, .string x.r.i, .slice x.A x.r.ds.length x.c, .int .u64 (x.pl : Int)]) SB.out (i := 2) rfl rfl (by have := HLE.out; have := HLT.out; omega) 25
            have e9 : (wr.alloc (.cells #[.int .i64 (x.r.k : Int), .int .i64 (x.r.t : Int), .int .i64 (x.r.p : Int), .int .i64 (x.r.s : Int), .string x.r.b, .string x.r.a, .string x.r.i, .slice x.A x.r.ds.length x.c, .int .u64 (x.pl : Int)] 40)).heap.size = wr.heap.size + 1 := by simp
            rw [e9] at hrun
            have HRUN := hide hrun
            have HE := hide (S9.take 3)
            clear hrun S9
            go_wp2_with (at_builtin; refine Lib.wpList_append_run _ rfl (.tmp 36) (.tmp 38) _ _ rfl _ _ rfl rfl _ _ HRUN.out ?_)
            go_roundw
            case rel => exact ⟨j + 1, _, by have := HLT.out; omega, by go_num, HE, hide ⟨fun y hy => (List.mem_append.1 hy).elim (hm.out.no y) (fun hy => by obtain rfl := List.mem_singleton.1 hy; exact ⟨HK7.out, .inl HK1.out⟩)⟩, hide (fun y hy => (List.mem_append.1 hy).elim (hd.out y) (fun hy => by obtain rfl := List.mem_singleton.1 hy; exact HOK.out.2.2 HK7.out)), hide (by rw [List.length_append, List.length_singleton]; have := HLE.out; omega)⟩
            case measure => simp [intOf]; have := HLT.out; omega
          · have g1 : ((x.r.k : Int) == 1) = false := by rw [beq_eq_false_iff_ne]; omega
            clear h7 h1
            obtain ⟨m, m1, hand⟩ : ∃ m : Nat, (m : Int) < 4 ∧ bits .and .i64 (x.r.t : Int) 3 = (m : Int) := ⟨x.r.t % 4, by omega, and3n _⟩
            have SC := hide (hs.out.box 40 #[.int .i64 (x.r.k : Int), .int .i64 (4 + (m : Int)), .int .i64 (x.r.p : Int), .int .i64 (x.r.s : Int), .string x.r.b, .string x.r.a, .string x.r.i, .slice x.A x.r.ds.length x.c, .int .u64 (x.pl : Int)])
            obtain ⟨v', w4, hrun, S9⟩ := Ow.addK (x := { x with r := { x.r with t := 4 + m } }) (cs := #[.int .i64 (x.r.k : Int), .int .i64 (4 + (m : Int)), .int .i64 (x.r.p : Int), .int .i64 (x.r.s : Int), .string x.r.b, .string x.r.a, .string x.r.i, .slice x.A x.r.ds.length x.c, .int .u64 (x.pl : Int)]) SC.out (i := 2) rfl rfl (by have := HLE.out; have := HLT.out; omega) 25
            have e9 : (wr.alloc (.cells #[.int .i64 (x.r.k : Int), .int .i64 (4 + (m : Int)), .int .i64 (x.r.p : Int), .int .i64 (x.r.s : Int), .string x.r.b, .string x.r.a, .string x.r.i, .slice x.A x.r.ds.length x.c, .int .u64 (x.pl : Int)] 40)).heap.size = wr.heap.size + 1 := by simp
            rw [e9] at hrun
            have HRUN := hide hrun
            have HE := hide (S9.take 3)
            clear hrun S9
            go_wp2_with (at_builtin; refine Lib.wpList_append_run _ rfl (.tmp 36) (.tmp 38) _ _ rfl _ _ rfl rfl _ _ HRUN.out ?_)
            go_roundw
            case rel => exact ⟨j + 1, _, by have := HLT.out; omega, by go_num, HE, hide ⟨fun y hy => (List.mem_append.1 hy).elim (hm.out.no y) (fun hy => by obtain rfl := List.mem_singleton.1 hy; exact ⟨HK7.out, .inr (Nat.le_add_right _ _)⟩)⟩, hide (fun y hy => (List.mem_append.1 hy).elim (hd.out y) (fun hy => by obtain rfl := List.mem_singleton.1 hy; exact HOK.out.2.2 HK7.out)), hide (by rw [List.length_append, List.length_singleton]; have := HLE.out; omega)⟩
            case measure => simp [intOf]; have := HLT.out; omega
      · obtain rfl : j = es.length := by omega
        have HKA := hide (an_mute HAN2.out (Kd.Row.nil eiK wr) (fun x hx => by cases hx) (by decide) ⟨fun x hx => by cases hx⟩)
        have HL2 : Hid (es'.length ≤ 1000) := hide (by have := HLE.out; have := HLN.out; omega)
        clear hlt hj
        go_wp2_with (first
          | (go_at_call 12; (with_reducible refine HKA.out.mono ?_); rintro e w5 ⟨A5, c5, rfl, hb5⟩; clear HKA; have HKB := hide (an_mute HAN2.out ((hs.out.below hb5.out).krow (i := 2) rfl) hd.out HL2.out hm.out))
          | (go_at_call 12; (with_reducible refine HKB.out.mono ?_); rintro e w6 ⟨A6, c6, rfl, hb6⟩; clear HKB; have S6 := hide ((hs.out.below hb5.out).below hb6.out); clear hs hb5 hb6))
        have S7 : Hid (Ow w2 (fun _ => False) ((w6.alloc (.cells #[.int .u64 0, .slice (A5 0) 0 (c5 0), .slice (A5 1) 0 (c5 1), .slice (A5 2) 0 (c5 2), .slice (A5 3) 0 (c5 3), .bool false, .bool false, .bool false, .bool false] 32)).alloc (.cells #[.int .u64 0, .slice (A6 0) 0 (c6 0), .slice (A6 1) 0 (c6 1), .slice (A6 2) 0 (c6 2), .slice (A6 3) 0 (c6 3), .bool false, .bool false, .bool false, .bool false] 32)) [Res.blk w6.heap.size 32 #[.int .u64 0, .slice (A5 0) 0 (c5 0), .slice (A5 1) 0 (c5 1), .slice (A5 2) 0 (c5 2), .slice (A5 3) 0 (c5 3), .bool false, .bool false, .bool false, .bool false], Res.blk (w6.heap.size + 1) 32 #[.int .u64 0, .slice (A6 0) 0 (c6 0), .slice (A6 1) 0 (c6 1), .slice (A6 2) 0 (c6 2), .slice (A6 3) 0 (c6 3), .bool false, .bool false, .bool false, .bool false]]) := hide (by have := ((((S6.out.take 0).box 32 #[.int .u64 0, .slice (A5 0) 0 (c5 0), .slice (A5 1) 0 (c5 1), .slice (A5 2) 0 (c5 2), .slice (A5 3) 0 (c5 3), .bool false, .bool false, .bool false, .bool false]).box 32 #[.int .u64 0, .slice (A6 0) 0 (c6 0), .slice (A6 1) 0 (c6 1), .slice (A6 2) 0 (c6 2), .slice (A6 3) 0 (c6 3), .bool false, .bool false, .bool false, .bool false])); simpa using this)
        clear S6
        go_loopw [44] (fun i wr => ∃ j : Nat, j ≤ 4 ∧ i = .int .i64 j ∧ Hid (Ow w2 (fun _ => False) wr [Res.blk w6.heap.size 32 #[.int .u64 0, .slice (A5 0) 0 (c5 0), .slice (A5 1) 0 (c5 1), .slice (A5 2) 0 (c5 2), .slice (A5 3) 0 (c5 3), .bool false, .bool false, .bool false, .bool false], Res.blk (w6.heap.size + 1) 32 #[.int .u64 0, .slice (A6 0) 0 (c6 0), .slice (A6 1) 0 (c6 1), .slice (A6 2) 0 (c6 2), .slice (A6 3) 0 (c6 3), .bool false, .bool false, .bool false, .bool false]])) (fun i _ => 4 - (intOf i).toNat)
        case atStart => exact ⟨0, by omega, rfl, S7⟩
        case round =>
          clear S7
          obtain ⟨j, hj, rfl, hs⟩ := hrel
          obtain ⟨p0, p1, p2, p3, p4, p5, p6, p7, p8⟩ := (hs.out.blk (i := 0) rfl).nine
          obtain ⟨t0, t1, t2, t3, t4, t5, t6, t7, t8⟩ := (hs.out.blk (i := 1) rfl).nine
          by_cases hlt : j < 4
          · obtain rfl | rfl | rfl | rfl : j = 0 ∨ j = 1 ∨ j = 2 ∨ j = 3 := by omega
            · clear hlt hj
              go_upto_region 18 with (fail)
              go_quiet (fail)
              go_wp2
              go_roundw
              case rel => exact ⟨1, by omega, by go_num, hide (hs.out.below (below_drewN _ _))⟩
              case measure => simp [intOf]
            · clear hlt hj
              go_upto_region 18 with (fail)
              go_quiet (fail)
              go_wp2
              go_roundw
              case rel => exact ⟨2, by omega, by go_num, hide (hs.out.below (below_drewN _ _))⟩
              case measure => simp [intOf]
            · clear hlt hj
              go_upto_region 18 with (fail)
              go_quiet (fail)
              go_wp2
              go_roundw
              case rel => exact ⟨3, by omega, by go_num, hide (hs.out.below (below_drewN _ _))⟩
              case measure => simp [intOf]
            · clear hlt hj
              go_upto_region 18 with (fail)
              go_quiet (fail)
              go_wp2
              go_roundw
              case rel => exact ⟨4, by omega, by go_num, hide (hs.out.below (below_drewN _ _))⟩
              case measure => simp [intOf]
          · obtain rfl : j = 4 := by omega
            clear hlt hj
            go_wp2
            go_ret
            exact ⟨rfl, HB.out.trans (hs.out.bel.mono HB.out.size)⟩
end Go.Proofs.Ytoifghofkjomnaa
