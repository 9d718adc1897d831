/-
  The walk of PageSlots.
-/
import Derived.Test.YtajpjffjhnmfmaaSlIn
import Derived.Test.YtajpjffjhnmfmaaRange
import Derived.Test.YtajpjffjhnmfmaaGrowIn
import Derived.WalkMore
import Derived.Deep.LoopGhost
namespace Go.Proofs.Ytajpjffjhnmfmaa
open Go.RowKit Go.Shelf

set_option linter.unusedSimpArgs false
set_option linter.unusedVariables false
attribute [local go_sem] Oper.semAt_some

theorem fill_c (v : Value) (rs : List RowD) (w : World) (h30 : lightsB rs = true) (hv : RowRow w w.heap.size v rs) :
    Calls Try.prog 13 #[v, .int .u64 0, .int .i64 3, .int .i64 4] w fun e w' => ∃ g gm s, e = .returned (.tuple #[.pointer (some ⟨g, 0, none⟩), .slice (some ⟨gm, 0, none⟩) 5 5]) ∧ Fld w w' g gm ⟨0, 3, 4, s⟩ ∧ ∀ j, j < 5 → okB (s j) = true :=
  fill_told (t := 3) (n := 4) v rs 0 3 4 w h30 (by decide) (by decide) hv
set_option maxRecDepth 20000 in
set_option maxHeartbeats 16000000 in
theorem slots_long (v : Value) (rs : List RowD) (vs : Value) (zs : List Int) (n : Int) (w : World) (hv : RowRow w w.heap.size v rs) (hz : Row w w.heap.size vs (zs.map fun x => .int .i64 x)) (hl : lightsB rs = false) :
    Calls Try.prog 5 #[v, vs, .int .i64 n] w fun e w' => e = .returned (.bool true) ∧ Below w.heap.size w w' := by
  have V0 := hide ((RIn.start hv).below (((Below.refl _ _).alloc (Nat.le_refl _) (.cells #[.int .i64 n] 3)).alloc (by simp) (.cells #[.bool false] 4)))
  have N0 : Hid (Blk ((w.alloc (.cells #[.int .i64 n] 3)).alloc (.cells #[.bool false] 4)) w.heap.size 3 #[.int .i64 n]) := hide (Blk.alloc (heap_new w _) _)
  have B0 : Hid (Blk ((w.alloc (.cells #[.int .i64 n] 3)).alloc (.cells #[.bool false] 4)) (w.heap.size + 1) 4 #[.bool false]) := hide (heap_at _ _ (by simp))
  have HV := hide hv
  clear hv
  obtain ⟨A0, cc, hvv, _⟩ := id HV.out
  subst hvv
  have HZ := hide hz
  obtain ⟨A1, c1, hzz, _⟩ := hz
  rw [List.length_map] at hzz
  subst hzz
  refine (callsIn_wide (n := 3)).1 ?_
  refine callsIn_of_wp_marks Try.func5 rfl trivial ?_ rfl
  refine wpIn_wide.2 ?_
  simp only [Try.ntmps5, List.size_toArray, List.length_cons, List.length_nil, Nat.reduceAdd, Nat.reduceSub, Array.replicate_succ, Array.replicate_zero, List.push_toArray, List.append_toArray, List.nil_append, List.cons_append]
  go_wp2_with (first
    | (go_at_call 11; (with_reducible refine (fit_any _).mono ?_); rintro e w1 ⟨rfl, hb1⟩; have V1 := hide (V0.out.below hb1); have N1 := hide (N0.out.below hb1); have B1 := hide (B0.out.below hb1); clear hb1)
    | (go_at_call 12; (with_reducible refine (light_told false _ rs _ V1.out.row hl).mono ?_); rintro e w2 ⟨rfl, hb2⟩; have V2 := hide (V1.out.below hb2); have N2 := hide (N1.out.below hb2); have B2 := hide (B1.out.below hb2); have cB := B2.out.cell 0 _ rfl; have fB := B2.out.frozen 0; clear hb2))
  exact ⟨.bool true, by simp [results, Try.results5, go_sem, cB, fB], rfl, (V2.out.bel.setCell (p := ⟨w.heap.size + 1, 0, none⟩) (Nat.le_succ _) _)⟩
set_option maxRecDepth 20000 in
set_option maxHeartbeats 16000000 in
theorem slots_many (v : Value) (rs : List RowD) (vs : Value) (zs : List Int) (n : Int) (w : World) (hv : RowRow w w.heap.size v rs) (hz : Row w w.heap.size vs (zs.map fun x => .int .i64 x)) (hl : lightsB rs = true) (h100 : 100 < zs.length) :
    Calls Try.prog 5 #[v, vs, .int .i64 n] w fun e w' => e = .returned (.bool true) ∧ Below w.heap.size w w' := by
  have h1 : (100 : Int) < (zs.length : Int) := by omega
  have V0 := hide ((RIn.start hv).below (((Below.refl _ _).alloc (Nat.le_refl _) (.cells #[.int .i64 n] 3)).alloc (by simp) (.cells #[.bool false] 4)))
  have N0 : Hid (Blk ((w.alloc (.cells #[.int .i64 n] 3)).alloc (.cells #[.bool false] 4)) w.heap.size 3 #[.int .i64 n]) := hide (Blk.alloc (heap_new w _) _)
  have B0 : Hid (Blk ((w.alloc (.cells #[.int .i64 n] 3)).alloc (.cells #[.bool false] 4)) (w.heap.size + 1) 4 #[.bool false]) := hide (heap_at _ _ (by simp))
  have HV := hide hv
  clear hv
  obtain ⟨A0, cc, hvv, _⟩ := id HV.out
  subst hvv
  have HZ := hide hz
  obtain ⟨A1, c1, hzz, _⟩ := hz
  rw [List.length_map] at hzz
  subst hzz
  refine (callsIn_wide (n := 3)).1 ?_
  refine callsIn_of_wp_marks Try.func5 rfl trivial ?_ rfl
  refine wpIn_wide.2 ?_
  simp only [Try.ntmps5, List.size_toArray, List.length_cons, List.length_nil, Nat.reduceAdd, Nat.reduceSub, Array.replicate_succ, Array.replicate_zero, List.push_toArray, List.append_toArray, List.nil_append, List.cons_append]
  go_wp2_with (first
    | (go_at_call 11; (with_reducible refine (fit_any _).mono ?_); rintro e w1 ⟨rfl, hb1⟩; have V1 := hide (V0.out.below hb1); have N1 := hide (N0.out.below hb1); have B1 := hide (B0.out.below hb1); clear hb1)
    | (go_at_call 12; (with_reducible refine (light_told true _ rs _ V1.out.row hl).mono ?_); rintro e w2 ⟨rfl, hb2⟩; have V2 := hide (V1.out.below hb2); have N2 := hide (N1.out.below hb2); have B2 := hide (B1.out.below hb2); have cB := B2.out.cell 0 _ rfl; have fB := B2.out.frozen 0; clear hb2))
  exact ⟨.bool true, by simp [results, Try.results5, go_sem, cB, fB], rfl, (V2.out.bel.setCell (p := ⟨w.heap.size + 1, 0, none⟩) (Nat.le_succ _) _)⟩
set_option maxRecDepth 20000 in
set_option maxHeartbeats 16000000 in
theorem slots_walk1 (v : Value) (rs : List RowD) (vs : Value) (zs : List Int) (n : Int) (w : World) (hv : RowRow w w.heap.size v rs) (hz : Row w w.heap.size vs (zs.map fun x => .int .i64 x)) (hl : lightsB rs = true) (h100 : ¬ 100 < zs.length) :
    Calls Try.prog 5 #[v, vs, .int .i64 n] w fun e w' => e = .returned (.bool true) ∧ Below w.heap.size w w' := by
  have h1 : ¬ (100 : Int) < (zs.length : Int) := by omega
  have V0 := hide ((RIn.start hv).below (((Below.refl _ _).alloc (Nat.le_refl _) (.cells #[.int .i64 n] 3)).alloc (by simp) (.cells #[.bool false] 4)))
  have N0 : Hid (Blk ((w.alloc (.cells #[.int .i64 n] 3)).alloc (.cells #[.bool false] 4)) w.heap.size 3 #[.int .i64 n]) := hide (Blk.alloc (heap_new w _) _)
  have B0 : Hid (Blk ((w.alloc (.cells #[.int .i64 n] 3)).alloc (.cells #[.bool false] 4)) (w.heap.size + 1) 4 #[.bool false]) := hide (heap_at _ _ (by simp))
  have HV := hide hv
  clear hv
  obtain ⟨A0, cc, hvv, _⟩ := id HV.out
  subst hvv
  have HZ := hide hz
  obtain ⟨A1, c1, hzz, _⟩ := hz
  rw [List.length_map] at hzz
  subst hzz
  refine (callsIn_wide (n := 3)).1 ?_
  refine callsIn_of_wp_marks Try.func5 rfl trivial ?_ rfl
  refine wpIn_wide.2 ?_
  simp only [Try.ntmps5, List.size_toArray, List.length_cons, List.length_nil, Nat.reduceAdd, Nat.reduceSub, Array.replicate_succ, Array.replicate_zero, List.push_toArray, List.append_toArray, List.nil_append, List.cons_append]
  go_wp2_with (first
    | (go_at_call 11; (with_reducible refine (fit_any _).mono ?_); rintro e w1 ⟨rfl, hb1⟩; have V1 := hide (V0.out.below hb1); have N1 := hide (N0.out.below hb1); have B1 := hide (B0.out.below hb1); clear hb1)
    | (go_at_call 12; (with_reducible refine (light_told true _ rs _ V1.out.row hl).mono ?_); rintro e w2 ⟨rfl, hb2⟩; have V2 := hide (V1.out.below hb2); have N2 := hide (N1.out.below hb2); have B2 := hide (B1.out.below hb2); have cB := B2.out.cell 0 _ rfl; have fB := B2.out.frozen 0; clear hb2)
    | (go_at_call 13; (with_reducible refine (fill_c _ rs _ hl V2.out.row).mono ?_); rintro e w3 ⟨g, gm, s, rfl, hF, hs⟩; have HS := hide hs; have HW3 := hide (V2.out.bel.trans (hF.bel.mono V2.out.bel.size)); have N3 := hide (N2.out.below hF.bel); have B3 := hide (B2.out.below hF.bel); have P3 := hide hF.pg; have M3 := hide hF.2.1; have O3 := hide (show w.heap.size + 1 < g ∧ g < gm ∧ gm < w3.heap.size from ⟨Nat.lt_of_lt_of_le B2.out.lt hF.2.2.2.1, hF.2.2.2.2, hF.2.1.lt⟩); clear hF hs))
  have S3 : Hid (SlIn w (w3.alloc (.cells #[.slice (some ⟨gm, 0, none⟩) 5 5] 28)) g gm w3.heap.size n s s) := hide ⟨P3.out.alloc _, M3.out.alloc _, heap_new w3 _, N3.out.alloc _, B3.out.alloc _, HW3.out.alloc HW3.out.size _, O3.out.1, O3.out.2.1, O3.out.2.2⟩
  clear cB fB
  generalize (w3.alloc (.cells #[.slice (some ⟨gm, 0, none⟩) 5 5] 28)) = w4 at *
  generalize w3.heap.size = gb at *
  go_loopg [38] zs.length (fun q i wr => ∃ (j : Nat) (s : Nat → ByteArray), j + q = zs.length ∧ i = .int .i64 j ∧ Hid (∀ x, x < 5 → okB (s x) = true) ∧ Hid (SlIn w wr g gm gb n s s))
  case atStart => exact ⟨0, s, by omega, rfl, HS, S3⟩
  case round =>
    obtain ⟨j, s, hj, rfl, hok, hs⟩ := hrel
    cases gk with
    | zero =>
      obtain rfl : j = zs.length := by omega
      have HOK := hide hok.out
      have cb := hs.out.boxed
      go_wp2
      go_loopg [14, 15] 5 (fun q f i wr2 => ∃ y z : Int, f = .int .i64 y ∧ i = .int .i64 z ∧ z = (q : Int) - 1 ∧ Hid (LeastB s q y) ∧ wr2 = wr)
      case atStart => exact ⟨-1, 4, rfl, rfl, by omega, hide (leastB_start s), rfl⟩
      case round =>
        obtain ⟨y, z, rfl, rfl, hzq, hy, rfl⟩ := hrel
        cases gk with
        | zero =>
          obtain rfl : z = -1 := by omega
          clear hzq
          have HY := hide hy.out
          clear hy cb hok
          go_wp2
          have S4 : Hid (SlIn w ((wr.alloc (.cells #[.int .i64 (-1)] 3)).alloc (.cells #[.int .i64 0] 3)) g gm gb n s s) := hide (hs.out.below (((Below.refl _ _).alloc (Nat.le_refl _) _).alloc (by simp) _))
          have L4 : Hid (Blk ((wr.alloc (.cells #[.int .i64 (-1)] 3)).alloc (.cells #[.int .i64 0] 3)) wr.heap.size 3 #[.int .i64 (-1)]) := hide (Blk.alloc (heap_new wr _) _)
          have C4 : Hid (Blk ((wr.alloc (.cells #[.int .i64 (-1)] 3)).alloc (.cells #[.int .i64 0] 3)) (wr.heap.size + 1) 3 #[.int .i64 0]) := hide (heap_at _ _ (by simp))
          have HO4 := hide (show gb < wr.heap.size from hs.out.box.lt)
          generalize ((wr.alloc (.cells #[.int .i64 (-1)] 3)).alloc (.cells #[.int .i64 0] 3)) = w5 at *
          generalize hgn : wr.heap.size + 1 = gn at *
          generalize wr.heap.size = gl at *
          have HGN := hide hgn
          clear hgn hs
          have HO5 := hide (show gl < w5.heap.size ∧ gn < w5.heap.size ∧ gb < w5.heap.size from ⟨L4.out.lt, C4.out.lt, S4.out.box.lt⟩)
          refine wpIn_wide.1 (range_rows (gp := g) (p := ⟨0, 3, 4, s⟩) (n := 3) (by omega) rfl rfl HOK.out
            (fun q A => ∃ la c, LpIn w A w5.heap.size g gm gb gl gn n s q la c) (fun c _ A => c = .exit 4 ∧ SlIn w A g gm gb n s s ∧ w5.heap.size ≤ A.heap.size)
            (fun q A B h hc => let ⟨la, c, h⟩ := h; ⟨la, c, h.calm hc HO5.out.2.2 HO5.out.1 HO5.out.2.1⟩) (fun c _ A B h hc => ⟨h.1, h.2.1.calm hc HO5.out.2.2 h.2.2, Nat.le_trans h.2.2 hc.2.2.2.1⟩)
            (fun q A h => let ⟨la, c, h⟩ := h; h.sl.pg) (fun q A _ _ h => let ⟨la, c, h⟩ := h; ⟨la, c, h.more⟩)
            ⟨-1, 0, by omega, by omega, by omega, L4.out, C4.out, S4.out, Nat.le_refl _⟩ ?round ?done ?stop)
          case round =>
            rintro k A hk hs0 ⟨la, c, hJ⟩ hlt
            have hrow := okB_row (HOK.out k hk) hs0
            have henc := row_back hrow
            have hl40 := rowB_length hrow
            have hsk : s k = ⟨(s k).data.toList.toArray⟩ := by simp
            have HK5 := hide hk
            dsimp only at *
            clear hs0 hrow
            generalize (s k).data.toList = El at *
            generalize decT El = rt at *
            generalize decK El = rk at *
            generalize decV El = rv at *
            have HENC := hide henc
            have HL40 := hide hl40
            have HSK := hide (congrArg (fun x => some (Value.string x)) hsk)
            have HK := hide (show (0 : Int) ≤ (k : Int) ∧ (k : Int) < 5 by omega)
            have HJ := hide hJ
            have HLT := hide hlt
            clear henc hl40 hsk hJ hlt
            gi_wp2
            refine ⟨(Below.refl _ _).alloc (Nat.le_refl _) _, fun C hC hs2 => ?_⟩
            have XR := hide (hC.blk (heap_new A (.cells #[.int .i64 rt, .string rk, .string rv] 46)) (by have := HLT.out; omega) (by have := HLT.out; omega) : Blk C A.heap.size 46 #[.int .i64 rt, .string rk, .string rv])
            have hJ2 := ((HJ.out.calm (Calm.of_below ((Below.refl _ _).alloc (Nat.le_refl _) (.cells #[.int .i64 rt, .string rk, .string rv] 46))) HO5.out.2.2 HO5.out.1 HO5.out.2.1).calm hC HO5.out.2.2 HO5.out.1 HO5.out.2.1)
            have XJ := hide hJ2
            have XL := hide hJ2.bl
            have XC := hide hJ2.bn
            have XS := hide hJ2.sl
            have HCS := hide (show w5.heap.size + 1 < C.heap.size by have := HLT.out; simp at hs2; omega)
            have l0 := hJ2.bn.cell 0 _ rfl
            have n0 := hJ2.sl.stop.cell 0 _ rfl
            have hkla : ¬ (k : Int) ≤ la := by have := hJ2.l2; omega
            have hc5 : (c : Int) ≤ 5 := by have := hJ2.l3; have := HK.out; omega
            clear hJ2 hC hs2
            by_cases hst : (c : Int) = n
            · gi_wp2
              exact ⟨⟨rfl, rfl⟩, rfl, XS.out, XJ.out.big⟩
            · gi_wp2
              refine region_growsD [Say.is (.int .i64 (k : Int)), Say.is (.int .i64 la), Say.is (.bool false), Say.is (.bool false), Say.is (.agg #[.int .i64 rt, .string rk, .string rv]), Say.rd 40 (El), Say.is (.string ⟨(El).toArray⟩), Say.is (.slice (some ⟨gm, 0, none⟩) 5 5), Say.is (.int .i64 (k : Int)), Say.is (.pointer (some ⟨gm, k, none⟩)), Say.is (.string ⟨El.toArray⟩), Say.is (.bool false), Say.is (.bool false)] (by kernel_rfl) (by kernel_rfl) (by kernel_rfl) (by kernel_rfl) (by kernel_rfl) ?_ ?_
              · intro i o ho a w2 hb hsz old dep
                match i, ho with
                | 0, ho =>
                  obtain rfl := Option.some.inj ho
                  have o18 : a.tmps.getD 18 undef = _ := old 18 (by kernel_rfl)
                  rw [if_pos (wanted_none rfl)]
                  refine grow_same (v := .int .i64 (k : Int)) ?_ rfl
                  clear old dep ho hsz hb
                  go_simp
                | 1, ho =>
                  obtain rfl := Option.some.inj ho
                  have o16 : a.tmps.getD 16 undef = _ := old 16 (by kernel_rfl)
                  rw [if_pos (wanted_none rfl)]
                  have g0 := (XL.out.below hb).cell 0 _ rfl
                  refine grow_same (v := .int .i64 la) ?_ rfl
                  clear old dep ho hsz hb
                  go_simp
                | 2, ho =>
                  obtain rfl := Option.some.inj ho
                  have d0 : a.tmps.getD 130 undef = .int .i64 (k : Int) := dep 0 _ _ (by kernel_rfl) rfl rfl
                  have e0 : a.tmps[130]?.getD undef = _ := (Array.getD_eq_getD_getElem? ..).symm.trans d0
                  have d1 : a.tmps.getD 131 undef = .int .i64 la := dep 1 _ _ (by kernel_rfl) rfl rfl
                  have e1 : a.tmps[131]?.getD undef = _ := (Array.getD_eq_getD_getElem? ..).symm.trans d1
                  rw [if_pos (wanted_none rfl)]
                  refine grow_same (v := .bool false) ?_ rfl
                  clear old dep ho hsz hb
                  go_simp
                | 3, ho =>
                  obtain rfl := Option.some.inj ho
                  have d2 : a.tmps.getD 132 undef = .bool false := dep 2 _ _ (by kernel_rfl) rfl rfl
                  have e2 : a.tmps[132]?.getD undef = _ := (Array.getD_eq_getD_getElem? ..).symm.trans d2
                  rw [if_pos (wanted_none rfl)]
                  refine grow_same (v := .bool false) ?_ rfl
                  clear old dep ho hsz hb
                  go_simp
                | 4, ho =>
                  obtain rfl := Option.some.inj ho
                  have o19 : a.tmps.getD 19 undef = _ := old 19 (by kernel_rfl)
                  have d3 : a.tmps.getD 133 undef = .bool false := dep 3 _ _ (by kernel_rfl) rfl rfl
                  have e3 : a.tmps[133]?.getD undef = _ := (Array.getD_eq_getD_getElem? ..).symm.trans d3
                  rw [if_pos (wanted_some rfl rfl rfl (by rw [hsz]; exact of_decide_eq_true rfl) d3)]
                  have g0 := (XR.out.below hb).cell 0 _ rfl
                  have g1 := (XR.out.below hb).cell 1 _ rfl
                  have g2 := (XR.out.below hb).cell 2 _ rfl
                  refine grow_same (v := .agg #[.int .i64 rt, .string rk, .string rv]) ?_ rfl
                  clear old dep ho hsz hb
                  go_simp
                | 5, ho =>
                  obtain rfl := Option.some.inj ho
                  have d4 : a.tmps.getD 134 undef = .agg #[.int .i64 rt, .string rk, .string rv] := dep 4 _ _ (by kernel_rfl) rfl rfl
                  have e4 : a.tmps[134]?.getD undef = _ := (Array.getD_eq_getD_getElem? ..).symm.trans d4
                  have d3 : a.tmps.getD 133 undef = .bool false := dep 3 _ _ (by kernel_rfl) rfl rfl
                  have e3 : a.tmps[133]?.getD undef = _ := (Array.getD_eq_getD_getElem? ..).symm.trans d3
                  rw [if_pos (wanted_some rfl rfl rfl (by rw [hsz]; exact of_decide_eq_true rfl) d3)]
                  refine grow_enters (f := 18) (args := #[.agg #[.int .i64 rt, .string rk, .string rv]]) ?_ (HENC.out w2)
                  clear old dep ho hsz hb
                  go_simp
                | 6, ho =>
                  obtain rfl := Option.some.inj ho
                  obtain ⟨A5, C5, d5, r5⟩ : ∃ A c, a.tmps.getD 135 undef = .slice A 40 c ∧ Rd w2 (.slice A 40 c) (u8s (El)) := dep 5 _ _ (by kernel_rfl) rfl rfl
                  have e5 : a.tmps[135]?.getD undef = _ := (Array.getD_eq_getD_getElem? ..).symm.trans d5
                  have d3 : a.tmps.getD 133 undef = .bool false := dep 3 _ _ (by kernel_rfl) rfl rfl
                  have e3 : a.tmps[133]?.getD undef = _ := (Array.getD_eq_getD_getElem? ..).symm.trans d3
                  rw [if_pos (wanted_some rfl rfl rfl (by rw [hsz]; exact of_decide_eq_true rfl) d3)]
                  have hcv := conv_rdn HL40.out r5
                  refine grow_same (v := .string ⟨(El).toArray⟩) ?_ rfl
                  clear old dep ho hsz hb r5
                  go_simp
                | 7, ho =>
                  obtain rfl := Option.some.inj ho
                  have o8 : a.tmps.getD 8 undef = _ := old 8 (by kernel_rfl)
                  have d3 : a.tmps.getD 133 undef = .bool false := dep 3 _ _ (by kernel_rfl) rfl rfl
                  have e3 : a.tmps[133]?.getD undef = _ := (Array.getD_eq_getD_getElem? ..).symm.trans d3
                  rw [if_pos (wanted_some rfl rfl rfl (by rw [hsz]; exact of_decide_eq_true rfl) d3)]
                  have g0 := (XS.out.below hb).boxed
                  refine grow_same (v := .slice (some ⟨gm, 0, none⟩) 5 5) ?_ rfl
                  clear old dep ho hsz hb
                  go_simp
                | 8, ho =>
                  obtain rfl := Option.some.inj ho
                  have o18 : a.tmps.getD 18 undef = _ := old 18 (by kernel_rfl)
                  have d3 : a.tmps.getD 133 undef = .bool false := dep 3 _ _ (by kernel_rfl) rfl rfl
                  have e3 : a.tmps[133]?.getD undef = _ := (Array.getD_eq_getD_getElem? ..).symm.trans d3
                  rw [if_pos (wanted_some rfl rfl rfl (by rw [hsz]; exact of_decide_eq_true rfl) d3)]
                  refine grow_same (v := .int .i64 (k : Int)) ?_ rfl
                  clear old dep ho hsz hb
                  go_simp
                | 9, ho =>
                  obtain rfl := Option.some.inj ho
                  have d7 : a.tmps.getD 137 undef = .slice (some ⟨gm, 0, none⟩) 5 5 := dep 7 _ _ (by kernel_rfl) rfl rfl
                  have e7 : a.tmps[137]?.getD undef = _ := (Array.getD_eq_getD_getElem? ..).symm.trans d7
                  have d8 : a.tmps.getD 138 undef = .int .i64 (k : Int) := dep 8 _ _ (by kernel_rfl) rfl rfl
                  have e8 : a.tmps[138]?.getD undef = _ := (Array.getD_eq_getD_getElem? ..).symm.trans d8
                  have d3 : a.tmps.getD 133 undef = .bool false := dep 3 _ _ (by kernel_rfl) rfl rfl
                  have e3 : a.tmps[133]?.getD undef = _ := (Array.getD_eq_getD_getElem? ..).symm.trans d3
                  rw [if_pos (wanted_some rfl rfl rfl (by rw [hsz]; exact of_decide_eq_true rfl) d3)]
                  have g1 := HK.out.1
                  have g2 := HK.out.2
                  refine grow_same (v := .pointer (some ⟨gm, k, none⟩)) ?_ rfl
                  clear old dep ho hsz hb
                  go_simp
                | 10, ho =>
                  obtain rfl := Option.some.inj ho
                  have d9 : a.tmps.getD 139 undef = .pointer (some ⟨gm, k, none⟩) := dep 9 _ _ (by kernel_rfl) rfl rfl
                  have e9 : a.tmps[139]?.getD undef = _ := (Array.getD_eq_getD_getElem? ..).symm.trans d9
                  have d3 : a.tmps.getD 133 undef = .bool false := dep 3 _ _ (by kernel_rfl) rfl rfl
                  have e3 : a.tmps[133]?.getD undef = _ := (Array.getD_eq_getD_getElem? ..).symm.trans d3
                  rw [if_pos (wanted_some rfl rfl rfl (by rw [hsz]; exact of_decide_eq_true rfl) d3)]
                  have g0 := ((XS.out.below hb).cell HK5.out).trans HSK.out
                  refine grow_same (v := .string ⟨El.toArray⟩) ?_ rfl
                  clear old dep ho hsz hb
                  go_simp
                | 11, ho =>
                  obtain rfl := Option.some.inj ho
                  have d6 : a.tmps.getD 136 undef = .string ⟨(El).toArray⟩ := dep 6 _ _ (by kernel_rfl) rfl rfl
                  have e6 : a.tmps[136]?.getD undef = _ := (Array.getD_eq_getD_getElem? ..).symm.trans d6
                  have d10 : a.tmps.getD 140 undef = .string ⟨El.toArray⟩ := dep 10 _ _ (by kernel_rfl) rfl rfl
                  have e10 : a.tmps[140]?.getD undef = _ := (Array.getD_eq_getD_getElem? ..).symm.trans d10
                  have d3 : a.tmps.getD 133 undef = .bool false := dep 3 _ _ (by kernel_rfl) rfl rfl
                  have e3 : a.tmps[133]?.getD undef = _ := (Array.getD_eq_getD_getElem? ..).symm.trans d3
                  rw [if_pos (wanted_some rfl rfl rfl (by rw [hsz]; exact of_decide_eq_true rfl) d3)]
                  refine grow_same (v := .bool false) ?_ rfl
                  clear old dep ho hsz hb
                  go_simp
                | 12, ho =>
                  obtain rfl := Option.some.inj ho
                  have d3 : a.tmps.getD 133 undef = .bool false := dep 3 _ _ (by kernel_rfl) rfl rfl
                  have e3 : a.tmps[133]?.getD undef = _ := (Array.getD_eq_getD_getElem? ..).symm.trans d3
                  have d11 : a.tmps.getD 141 undef = .bool false := dep 11 _ _ (by kernel_rfl) rfl rfl
                  have e11 : a.tmps[141]?.getD undef = _ := (Array.getD_eq_getD_getElem? ..).symm.trans d11
                  rw [if_pos (wanted_none rfl)]
                  refine grow_same (v := .bool false) ?_ rfl
                  clear old dep ho hsz hb
                  go_simp
                | i + 13, ho => exact absurd ho (by simp)
              · intro a w9 hb hsz hdf fin keep
                obtain ⟨tm, df⟩ := a
                have hx := frame_of [130, 131, 132, 133, 134, 135, 136, 137, 138, 139, 140, 141, 142] (by kernel_rfl) hsz keep
                dsimp only at hdf hx
                simp only [List.foldl_cons, List.foldl_nil] at hx
                subst hdf
                clear hsz keep
                have kn : tm.getD 130 undef = .int .i64 (k : Int) := fin 0 _ _ rfl rfl
                rw [kn] at hx
                clear kn
                have kn : tm.getD 131 undef = .int .i64 la := fin 1 _ _ rfl rfl
                rw [kn] at hx
                clear kn
                have kn : tm.getD 132 undef = .bool false := fin 2 _ _ rfl rfl
                rw [kn] at hx
                clear kn
                have kn : tm.getD 133 undef = .bool false := fin 3 _ _ rfl rfl
                rw [kn] at hx
                clear kn
                have kn : tm.getD 134 undef = .agg #[.int .i64 rt, .string rk, .string rv] := fin 4 _ _ rfl rfl
                rw [kn] at hx
                clear kn
                obtain ⟨A135, C135, kn, R135⟩ : ∃ A c, tm.getD 135 undef = .slice A 40 c ∧ Rd w9 (.slice A 40 c) (u8s (El)) := fin 5 _ _ rfl rfl
                rw [kn] at hx
                clear kn
                clear R135
                have kn : tm.getD 136 undef = .string ⟨(El).toArray⟩ := fin 6 _ _ rfl rfl
                rw [kn] at hx
                clear kn
                have kn : tm.getD 137 undef = .slice (some ⟨gm, 0, none⟩) 5 5 := fin 7 _ _ rfl rfl
                rw [kn] at hx
                clear kn
                have kn : tm.getD 138 undef = .int .i64 (k : Int) := fin 8 _ _ rfl rfl
                rw [kn] at hx
                clear kn
                have kn : tm.getD 139 undef = .pointer (some ⟨gm, k, none⟩) := fin 9 _ _ rfl rfl
                rw [kn] at hx
                clear kn
                have kn : tm.getD 140 undef = .string ⟨El.toArray⟩ := fin 10 _ _ rfl rfl
                rw [kn] at hx
                clear kn
                have kn : tm.getD 141 undef = .bool false := fin 11 _ _ rfl rfl
                rw [kn] at hx
                clear kn
                have kn : tm.getD 142 undef = .bool false := fin 12 _ _ rfl rfl
                rw [kn] at hx
                clear kn
                clear fin
                simp only [List.setIfInBounds_toArray, List.set_cons_succ, List.set_cons_zero] at hx
                subst hx
                have L9 := hide (XL.out.below hb)
                have C9 := hide (XC.out.below hb)
                have S9 := hide (XS.out.below hb)
                have B9 := hide hb
                have q0 := L9.out.cell 0 _ rfl
                have qf := L9.out.frozen 0
                have q1 := C9.out.cell 0 _ rfl
                have q2 := C9.out.frozen 0
                have q3 := (Blk.far C9.out (p := ⟨gl, 0, none⟩) (by show gn ≠ gl; have := HGN.out; omega) (.int .i64 (k : Int))).cell 0 _ rfl
                have q4 := (Blk.far C9.out (p := ⟨gl, 0, none⟩) (by show gn ≠ gl; have := HGN.out; omega) (.int .i64 (k : Int))).frozen 0
                clear hb
                gi_wp2
                have hn := HGN.out
                have hg4 := HO4.out
                have hg5 := HO5.out
                refine ⟨⟨?_, ?_⟩, (k : Int), c + 1, by omega, by omega, by have := XJ.out.l3; omega, ?_, ?_, ?_, ?_⟩
                · exact ((Below.heap_setCell _ _ _ _ (by show _ ≠ gn; omega)).trans (Below.heap_setCell _ _ _ _ (by show _ ≠ gl; omega))).trans (B9.out.block _ (by have := HCS.out; omega))
                · exact ((Below.heap_setCell _ _ _ _ (by show _ ≠ gn; omega)).trans (Below.heap_setCell _ _ _ _ (by show _ ≠ gl; omega))).trans (B9.out.block _ (by have := HCS.out; omega))
                · exact Blk.far (Blk.set_ L9.out 0 _) (by show gl ≠ gn; omega) _
                · exact Blk.set_ (Blk.far C9.out (by show gn ≠ gl; omega) _) 0 _
                · exact (S9.out.far (by show gb < gl; omega) _).far (by show gb < gn; omega) _
                · have h1 := B9.out.size
                  have h2 := HCS.out
                  simp [World.setCell]
                  omega
          case done =>
            rintro A ⟨la, c, hJ⟩ hKd
            have hS8 := hJ.sl
            clear hJ
            have S8 := hide hS8
            have hK8 := hide hKd
            clear hS8 hKd
            have r0 := (S8.out.res.alloc (.cells #[.int .i64 1, .int .i64 9, .int .i64 (-3)] 3)).cell 0 _ rfl
            have rf := (S8.out.res.alloc (.cells #[.int .i64 1, .int .i64 9, .int .i64 (-3)] 3)).frozen 0
            go_wp2_with (first
              | (go_at_call 21; (with_reducible refine (sl_free S8.out HY.out.free).mono ?_); rintro e wf ⟨rfl, rfl⟩)
              | (go_at_call 21; (with_reducible refine (sl_free_nil _).mono ?_); rintro e wf ⟨rfl, rfl⟩)
              | (go_at_call 19; (with_reducible refine sl_set_nil.mono ?_); rintro e wf ⟨rfl, rfl⟩)
              | (go_at_call 16; (with_reducible refine sl_slot_nil.mono ?_); rintro e wf ⟨rfl, rfl⟩))
            have hDA : w5.heap.size < A.heap.size := (Array.getElem?_eq_some_iff.1 hK8.out).1
            have hK9 : ((A.alloc (.cells #[.int .i64 1, .int .i64 9, .int .i64 (-3)] 3)).setCell ⟨w.heap.size + 1, 0, none⟩ (.bool true)).heap[w5.heap.size]? = some (.deferred (some [])) :=
              (Below.heap_setCell _ _ _ _ (by show w5.heap.size ≠ w.heap.size + 1; have := HO5.out; have := S8.out.o1; have := S8.out.o2; have := S8.out.o3; omega)).trans (heap_old _ _ _ _ hK8.out)
            have R9 := Blk.set_ (S8.out.res.alloc (.cells #[.int .i64 1, .int .i64 9, .int .i64 (-3)] 3)) 0 (.bool true)
            have W9 := (S8.out.bel.alloc S8.out.bel.size (.cells #[.int .i64 1, .int .i64 9, .int .i64 (-3)] 3)).setCell (p := ⟨w.heap.size + 1, 0, none⟩) (Nat.le_succ _) (.bool true)
            refine ⟨by simp, .inl ⟨_, _, rfl, run_takeDeferred hK9, ?_⟩⟩
            have hsz : ((A.alloc (.cells #[.int .i64 1, .int .i64 9, .int .i64 (-3)] 3)).setCell ⟨w.heap.size + 1, 0, none⟩ (.bool true)).heap.size = A.heap.size + 1 := by simp [World.setCell]
            generalize (A.alloc (.cells #[.int .i64 1, .int .i64 9, .int .i64 (-3)] 3)).setCell ⟨w.heap.size + 1, 0, none⟩ (.bool true) = w9 at *
            have cc := Calm.put w5.heap.size w5.heap.size w9 (.deferred none) (.inl rfl)
            have hlt : w.heap.size + 1 < w5.heap.size := by have := HO5.out; have := S8.out.o1; have := S8.out.o2; have := S8.out.o3; omega
            have BZ := (cc.blk R9 (by omega) (by omega)).cell 0 _ rfl
            have FZ := (cc.blk R9 (by omega) (by omega)).frozen 0
            refine ⟨.bool true, ?_, rfl, W9.trans ((cc.below (by omega)).mono (by omega))⟩
            simp [results, Try.results5, go_sem, BZ]
          case stop =>
            rintro c k A ⟨rfl, hS8, _⟩ hKd
            refine wpIn_wide.2 ?_
            have S8 := hide hS8
            have hK8 := hide hKd
            clear hS8 hKd
            have r0 := (S8.out.res.alloc (.cells #[.int .i64 1, .int .i64 9, .int .i64 (-3)] 3)).cell 0 _ rfl
            have rf := (S8.out.res.alloc (.cells #[.int .i64 1, .int .i64 9, .int .i64 (-3)] 3)).frozen 0
            go_wp2_with (first
              | (go_at_call 21; (with_reducible refine (sl_free S8.out HY.out.free).mono ?_); rintro e wf ⟨rfl, rfl⟩)
              | (go_at_call 21; (with_reducible refine (sl_free_nil _).mono ?_); rintro e wf ⟨rfl, rfl⟩)
              | (go_at_call 19; (with_reducible refine sl_set_nil.mono ?_); rintro e wf ⟨rfl, rfl⟩)
              | (go_at_call 16; (with_reducible refine sl_slot_nil.mono ?_); rintro e wf ⟨rfl, rfl⟩))
            have hDA : w5.heap.size < A.heap.size := (Array.getElem?_eq_some_iff.1 hK8.out).1
            have hK9 : ((A.alloc (.cells #[.int .i64 1, .int .i64 9, .int .i64 (-3)] 3)).setCell ⟨w.heap.size + 1, 0, none⟩ (.bool true)).heap[w5.heap.size]? = some (.deferred (some [])) :=
              (Below.heap_setCell _ _ _ _ (by show w5.heap.size ≠ w.heap.size + 1; have := HO5.out; have := S8.out.o1; have := S8.out.o2; have := S8.out.o3; omega)).trans (heap_old _ _ _ _ hK8.out)
            have R9 := Blk.set_ (S8.out.res.alloc (.cells #[.int .i64 1, .int .i64 9, .int .i64 (-3)] 3)) 0 (.bool true)
            have W9 := (S8.out.bel.alloc S8.out.bel.size (.cells #[.int .i64 1, .int .i64 9, .int .i64 (-3)] 3)).setCell (p := ⟨w.heap.size + 1, 0, none⟩) (Nat.le_succ _) (.bool true)
            refine ⟨by simp, .inl ⟨_, _, rfl, run_takeDeferred hK9, ?_⟩⟩
            have hsz : ((A.alloc (.cells #[.int .i64 1, .int .i64 9, .int .i64 (-3)] 3)).setCell ⟨w.heap.size + 1, 0, none⟩ (.bool true)).heap.size = A.heap.size + 1 := by simp [World.setCell]
            generalize (A.alloc (.cells #[.int .i64 1, .int .i64 9, .int .i64 (-3)] 3)).setCell ⟨w.heap.size + 1, 0, none⟩ (.bool true) = w9 at *
            have cc := Calm.put w5.heap.size w5.heap.size w9 (.deferred none) (.inl rfl)
            have hlt : w.heap.size + 1 < w5.heap.size := by have := HO5.out; have := S8.out.o1; have := S8.out.o2; have := S8.out.o3; omega
            have BZ := (cc.blk R9 (by omega) (by omega)).cell 0 _ rfl
            have FZ := (cc.blk R9 (by omega) (by omega)).frozen 0
            refine ⟨.bool true, ?_, rfl, W9.trans ((cc.below (by omega)).mono (by omega))⟩
            simp [results, Try.results5, go_sem, BZ]
        | succ q =>
          obtain rfl : z = (q : Int) := by omega
          clear hzq
          have hq5 : q < 5 := hy.out.lt
          have hqi : (q : Int) < 5 := by omega
          have hc := hs.out.cell hq5
          by_cases h0 : s q = ⟨#[]⟩
          · rw [h0] at hc
            by_cases h1 : q = 1
            · have h1i : (q : Int) = 1 := by omega
              have hc1 : wr.cell? ⟨gm, 1, none⟩ = some (.string ⟨#[]⟩) := by rw [← h1]; exact hc
              have H1 := hide h1
              clear h1
              go_wp2
              go_roundg q
              case rel => exact ⟨y, (q : Int) - 1, rfl, by go_num, rfl, hide (hy.out.skip (fun h => h.2 H1.out)), rfl⟩
              case measure => omega
            · have h1i : ¬ (q : Int) = 1 := by omega
              go_wp2
              go_roundg q
              case rel => exact ⟨q, (q : Int) - 1, rfl, by go_num, rfl, hide (hy.out.take h0 h1), rfl⟩
              case measure => omega
          · have h0l := toList_ne h0
            go_wp2
            all_goals
              go_roundg q
              case rel => exact ⟨y, (q : Int) - 1, rfl, by go_num, rfl, hide (hy.out.skip (fun h => h0 h.1)), rfl⟩
              case measure => omega
    | succ q =>
      have hjl : j < zs.length := by omega
      obtain ⟨b1, o1, rfl, hzc⟩ := ints_at HZ.out hjl
      have dz := hzc wr hs.out.bel
      have hjc : (j : Int) < (zs.length : Int) := by omega
      clear hzc
      generalize zs[j] = z at *
      obtain ⟨i, hi9, hin⟩ := mod9 z
      by_cases hbit : bits .and .i64 (z / 16) 1 = 1
      · by_cases hl0 : 0 < rs.length
        · have hl0i : (0 : Int) < (rs.length : Int) := by omega
          obtain ⟨b, o, t, kk, u, rfl, hD⟩ := rows_first HV.out hl0
          obtain ⟨d0, d1, d2⟩ := hD wr hs.out.bel
          have HD := hide hD
          clear hD
          cases hr : rightB t kk u
          · have HR := hide hr
            clear hr
            rcases hin with ⟨k, hk, rfl⟩ | hio
            · have hki : (k : Int) < 5 := by omega
              have hk0 : (0 : Int) ≤ (k : Int) := by omega
              have HK := hide hk
              clear hk
              go_wp2_with (first
                | (go_at_call 17; (with_reducible refine (right_no _ _ _ _ HR.out).mono ?_); rintro e wx ⟨rfl, hx⟩; have SX := hide (hs.out.below hx); obtain ⟨x0, x1, x2⟩ := HD.out _ SX.out.bel; clear hx)
                | (go_at_call 19; (with_reducible refine (sl_set SX.out k HK.out ⟨#[]⟩ okB_empty).mono ?_); rintro e wa ⟨rfl, ha⟩; have SA := hide ha; clear ha)
                | (go_at_call 19; (with_reducible refine (sl_none SA.out k HK.out).mono ?_); rintro e wb ⟨rfl, hb⟩; have SB := hide hb; have cb := SB.out.boxed; have cg := SB.out.cell HK.out; have fg := SB.out.frozen k; clear hb)
                | (go_at_call 16; (with_reducible refine (sl_slot (SB.out.put HK.out ⟨#[]⟩) k HK.out ⟨#[]⟩ (upd_here _ _ _)).mono ?_); rintro e wc ⟨rfl, rfl⟩))
              go_roundg q
              case rel => exact ⟨j + 1, upd s k ⟨#[]⟩, by omega, by go_num, hide (upd_ok hok.out okB_empty), hide (SB.out.put HK.out ⟨#[]⟩)⟩
              case measure => omega
            · have HO := hide hio
              rcases hio with hi1 | ⟨hi1, hi2⟩
              · have hi2 : ¬ (0 : Int) ≤ i := by omega
                go_wp2_with (first
                  | (go_at_call 17; (with_reducible refine (right_no _ _ _ _ HR.out).mono ?_); rintro e wx ⟨rfl, hx⟩; have SX := hide (hs.out.below hx); obtain ⟨x0, x1, x2⟩ := HD.out _ SX.out.bel; clear hx)
                  | (go_at_call 19; (with_reducible refine (sl_set_out i _ HO.out).mono ?_); rintro e wa ⟨rfl, rfl⟩)
                  | (go_at_call 16; (with_reducible refine (sl_slot_out i HO.out).mono ?_); rintro e wc ⟨rfl, rfl⟩))
                all_goals
                  go_roundg q
                  case rel => exact ⟨j + 1, s, by omega, by go_num, hok, SX⟩
                  case measure => omega
              · have hi3 : ¬ i < 5 := by omega
                go_wp2_with (first
                  | (go_at_call 17; (with_reducible refine (right_no _ _ _ _ HR.out).mono ?_); rintro e wx ⟨rfl, hx⟩; have SX := hide (hs.out.below hx); obtain ⟨x0, x1, x2⟩ := HD.out _ SX.out.bel; clear hx)
                  | (go_at_call 19; (with_reducible refine (sl_set_out i _ HO.out).mono ?_); rintro e wa ⟨rfl, rfl⟩)
                  | (go_at_call 16; (with_reducible refine (sl_slot_out i HO.out).mono ?_); rintro e wc ⟨rfl, rfl⟩))
                all_goals
                  go_roundg q
                  case rel => exact ⟨j + 1, s, by omega, by go_num, hok, SX⟩
                  case measure => omega
          · obtain ⟨r1, _, _, _⟩ := rightB_iff.1 hr
            obtain ⟨tn, rfl⟩ : ∃ tn : Nat, t = (tn : Int) := ⟨t.toNat, by omega⟩
            obtain ⟨eo, en⟩ := encB_ok hr
            have HR := hide hr
            have hE := fun W => rowenc_str W HR.out
            generalize encB tn kk u = E at *
            have EO := hide (okB_of eo)
            have en2 : ¬ (⟨#[]⟩ : ByteArray) = E := fun e => en e.symm
            have en3 := toList_ne en
            clear eo hr r1
            rcases hin with ⟨k, hk, rfl⟩ | hio
            · have hki : (k : Int) < 5 := by omega
              have hk0 : (0 : Int) ≤ (k : Int) := by omega
              have HK := hide hk
              clear hk
              go_wp2_with (first
                | (go_at_call 17; (with_reducible refine (right_yes _ _ _ _ HR.out).mono ?_); rintro e wx ⟨rfl, hx⟩; have SX := hide (hs.out.below hx); obtain ⟨x0, x1, x2⟩ := HD.out _ SX.out.bel; clear hx)
                | (go_at_call 18; (with_reducible refine (hE _).mono ?_); rintro e wy ⟨Ay, cy, rfl, hy, hcv⟩; have SY := hide (SX.out.below hy); clear hy)
                | (go_at_call 19; (with_reducible refine (sl_set SY.out k HK.out E EO.out).mono ?_); rintro e wa ⟨rfl, ha⟩; have SA := hide ha; clear ha)
                | (go_at_call 19; (with_reducible refine (sl_none SA.out k HK.out).mono ?_); rintro e wb ⟨rfl, hb⟩; have SB := hide hb; have cb := SB.out.boxed; have cg := SB.out.cell HK.out; have fg := SB.out.frozen k; clear hb)
                | (go_at_call 16; (with_reducible refine (sl_slot (SB.out.put HK.out E) k HK.out E (upd_here _ _ _)).mono ?_); rintro e wc ⟨rfl, rfl⟩))
              go_roundg q
              case rel => exact ⟨j + 1, upd s k E, by omega, by go_num, hide (upd_ok hok.out EO.out), hide (SB.out.put HK.out E)⟩
              case measure => omega
            · have HO := hide hio
              rcases hio with hi1 | ⟨hi1, hi2⟩
              · have hi2 : ¬ (0 : Int) ≤ i := by omega
                go_wp2_with (first
                  | (go_at_call 17; (with_reducible refine (right_yes _ _ _ _ HR.out).mono ?_); rintro e wx ⟨rfl, hx⟩; have SX := hide (hs.out.below hx); obtain ⟨x0, x1, x2⟩ := HD.out _ SX.out.bel; clear hx)
                  | (go_at_call 18; (with_reducible refine (hE _).mono ?_); rintro e wy ⟨Ay, cy, rfl, hy, hcv⟩; have SY := hide (SX.out.below hy); clear hy)
                  | (go_at_call 19; (with_reducible refine (sl_set_out i _ HO.out).mono ?_); rintro e wa ⟨rfl, rfl⟩)
                  | (go_at_call 16; (with_reducible refine (sl_slot_out i HO.out).mono ?_); rintro e wc ⟨rfl, rfl⟩))
                all_goals
                  go_roundg q
                  case rel => exact ⟨j + 1, s, by omega, by go_num, hok, SY⟩
                  case measure => omega
              · have hi3 : ¬ i < 5 := by omega
                go_wp2_with (first
                  | (go_at_call 17; (with_reducible refine (right_yes _ _ _ _ HR.out).mono ?_); rintro e wx ⟨rfl, hx⟩; have SX := hide (hs.out.below hx); obtain ⟨x0, x1, x2⟩ := HD.out _ SX.out.bel; clear hx)
                  | (go_at_call 18; (with_reducible refine (hE _).mono ?_); rintro e wy ⟨Ay, cy, rfl, hy, hcv⟩; have SY := hide (SX.out.below hy); clear hy)
                  | (go_at_call 19; (with_reducible refine (sl_set_out i _ HO.out).mono ?_); rintro e wa ⟨rfl, rfl⟩)
                  | (go_at_call 16; (with_reducible refine (sl_slot_out i HO.out).mono ?_); rintro e wc ⟨rfl, rfl⟩))
                all_goals
                  go_roundg q
                  case rel => exact ⟨j + 1, s, by omega, by go_num, hok, SY⟩
                  case measure => omega
        · have hl0i : ¬ (0 : Int) < (rs.length : Int) := by omega
          rcases hin with ⟨k, hk, rfl⟩ | hio
          · have hki : (k : Int) < 5 := by omega
            have hk0 : (0 : Int) ≤ (k : Int) := by omega
            have HK := hide hk
            clear hk
            go_wp2_with (first
              | (go_at_call 19; (with_reducible refine (sl_set hs.out k HK.out ⟨#[]⟩ okB_empty).mono ?_); rintro e wa ⟨rfl, ha⟩; have SA := hide ha; clear ha)
              | (go_at_call 19; (with_reducible refine (sl_none SA.out k HK.out).mono ?_); rintro e wb ⟨rfl, hb⟩; have SB := hide hb; have cb := SB.out.boxed; have cg := SB.out.cell HK.out; have fg := SB.out.frozen k; clear hb)
              | (go_at_call 16; (with_reducible refine (sl_slot (SB.out.put HK.out ⟨#[]⟩) k HK.out ⟨#[]⟩ (upd_here _ _ _)).mono ?_); rintro e wc ⟨rfl, rfl⟩))
            go_roundg q
            case rel => exact ⟨j + 1, upd s k ⟨#[]⟩, by omega, by go_num, hide (upd_ok hok.out okB_empty), hide (SB.out.put HK.out ⟨#[]⟩)⟩
            case measure => omega
          · have HO := hide hio
            rcases hio with hi1 | ⟨hi1, hi2⟩
            · have hi2 : ¬ (0 : Int) ≤ i := by omega
              go_wp2_with (first
                | (go_at_call 19; (with_reducible refine (sl_set_out i _ HO.out).mono ?_); rintro e wa ⟨rfl, rfl⟩)
                | (go_at_call 16; (with_reducible refine (sl_slot_out i HO.out).mono ?_); rintro e wc ⟨rfl, rfl⟩))
              all_goals
                go_roundg q
                case rel => exact ⟨j + 1, s, by omega, by go_num, hok, hs⟩
                case measure => omega
            · have hi3 : ¬ i < 5 := by omega
              go_wp2_with (first
                | (go_at_call 19; (with_reducible refine (sl_set_out i _ HO.out).mono ?_); rintro e wa ⟨rfl, rfl⟩)
                | (go_at_call 16; (with_reducible refine (sl_slot_out i HO.out).mono ?_); rintro e wc ⟨rfl, rfl⟩))
              all_goals
                go_roundg q
                case rel => exact ⟨j + 1, s, by omega, by go_num, hok, hs⟩
                case measure => omega
      · rcases hin with ⟨k, hk, rfl⟩ | hio
        · have hki : (k : Int) < 5 := by omega
          have hk0 : (0 : Int) ≤ (k : Int) := by omega
          have HK := hide hk
          clear hk
          go_wp2_with (first
            | (go_at_call 19; (with_reducible refine (sl_set hs.out k HK.out ⟨#[]⟩ okB_empty).mono ?_); rintro e wa ⟨rfl, ha⟩; have SA := hide ha; clear ha)
            | (go_at_call 19; (with_reducible refine (sl_none SA.out k HK.out).mono ?_); rintro e wb ⟨rfl, hb⟩; have SB := hide hb; have cb := SB.out.boxed; have cg := SB.out.cell HK.out; have fg := SB.out.frozen k; clear hb)
            | (go_at_call 16; (with_reducible refine (sl_slot (SB.out.put HK.out ⟨#[]⟩) k HK.out ⟨#[]⟩ (upd_here _ _ _)).mono ?_); rintro e wc ⟨rfl, rfl⟩))
          go_roundg q
          case rel => exact ⟨j + 1, upd s k ⟨#[]⟩, by omega, by go_num, hide (upd_ok hok.out okB_empty), hide (SB.out.put HK.out ⟨#[]⟩)⟩
          case measure => omega
        · have HO := hide hio
          rcases hio with hi1 | ⟨hi1, hi2⟩
          · have hi2 : ¬ (0 : Int) ≤ i := by omega
            go_wp2_with (first
              | (go_at_call 19; (with_reducible refine (sl_set_out i _ HO.out).mono ?_); rintro e wa ⟨rfl, rfl⟩)
              | (go_at_call 16; (with_reducible refine (sl_slot_out i HO.out).mono ?_); rintro e wc ⟨rfl, rfl⟩))
            all_goals
              go_roundg q
              case rel => exact ⟨j + 1, s, by omega, by go_num, hok, hs⟩
              case measure => omega
          · have hi3 : ¬ i < 5 := by omega
            go_wp2_with (first
              | (go_at_call 19; (with_reducible refine (sl_set_out i _ HO.out).mono ?_); rintro e wa ⟨rfl, rfl⟩)
              | (go_at_call 16; (with_reducible refine (sl_slot_out i HO.out).mono ?_); rintro e wc ⟨rfl, rfl⟩))
            all_goals
              go_roundg q
              case rel => exact ⟨j + 1, s, by omega, by go_num, hok, hs⟩
              case measure => omega
theorem slots_walk (v : Value) (rs : List RowD) (vs : Value) (zs : List Int) (n : Int) (w : World) (hv : RowRow w w.heap.size v rs) (hz : Row w w.heap.size vs (zs.map fun x => .int .i64 x)) (_ : (Lit.int .i64 n).wf = true) :
    Calls Try.prog 5 #[v, vs, .int .i64 n] w fun e w' => e = .returned (.bool true) ∧ Below w.heap.size w w' := by
  cases hl : lightsB rs
  · exact slots_long v rs vs zs n w hv hz hl
  · by_cases h : 100 < zs.length
    · exact slots_many v rs vs zs n w hv hz hl h
    · exact slots_walk1 v rs vs zs n w hv hz hl h
end Go.Proofs.Ytajpjffjhnmfmaa
