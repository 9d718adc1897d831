/-
  The law's own rising: rows that may be, in order, each key once.
-/
import Derived.Test.YthkocbfioegcnaaSw14
namespace Go.Proofs.Ythkocbfioegcnaa
open Go.RowKit
set_option maxRecDepth 20000
set_option linter.unusedSimpArgs false
set_option linter.unusedVariables false

set_option maxHeartbeats 16000000 in
theorem lrising_any {w : World} {v : Value} {l : List Rw} (hv : Rws w v l) (hl : l.length ≤ 60) : Calls Try.prog 13 #[v] w fun e w' => ∃ u, e = .returned u ∧ ∃ r, Ris r ∧ r.length ≤ 30 ∧ Ow w (fun _ => False) w' [Res.row rwK u r] := by
  obtain ⟨A0, cap0, rfl⟩ := hv.form
  have HV := hide hv
  have hl1 : (l.length : Int) ≤ 60 := by omega
  suffices hsuf : ∀ PP : Value → World → Prop, (∀ u W' r, Ris r → r.length ≤ 30 → Ow w (fun _ => False) W' [Res.row rwK u r] → PP u W') → Calls Try.prog 13 #[.slice A0 l.length cap0] w fun e W' => ∃ u, e = .returned u ∧ PP u W' from hsuf _ (fun u W' r h1 h2 h3 => ⟨r, h1, h2, h3⟩)
  intro PP hPP
  have HPP := hide hPP
  have S0 := hide ((Ow.start w).newrow rwK)
  clear hv hPP hl
  go_enter Try.func13, Try.ntmps13
  go_wp2
  go_loopw [3, 9] (fun o i wr => ∃ (j : Nat) (A : Option Addr) (n c : Nat) (acc : List Rw), j ≤ l.length ∧ i = .int .i64 j ∧ o = .slice A n c ∧ Hid (Ris acc) ∧ Hid (acc.length ≤ 30) ∧ Hid (Ow w (fun _ => False) wr [Res.row rwK (.slice A n c) acc])) (fun _ i _ => l.length - (intOf i).toNat)
  case atStart => exact ⟨0, none, 0, 0, [], by omega, rfl, rfl, hide Ris.nil, hide (by simp), S0⟩
  case round =>
    obtain ⟨j, A, n, c, acc, hj, rfl, rfl, HRIS, H30, hs⟩ := hrel
    by_cases hlt : j < l.length
    · obtain ⟨x, hc⟩ : ∃ x, l[j]? = some x := ⟨_, List.getElem?_eq_getElem hlt⟩
      obtain ⟨b, o, rfl, i0, i1, i2⟩ := HV.out.at_ hs.out.bel hc
      have q0 : (0 : Int) ≤ (j : Int) := by omega
      have q1 : (j : Int) < (l.length : Int) := by omega
      have HLT := hide hlt
      have hnl : n = acc.length := (hs.out.krow (i := 0) rfl).cap.1
      clear hlt hc
      cases hok : rowOkB x.t x.k x.v
      · rcases rightB_not hok with h1 | ⟨h1, h2⟩ | ⟨h1, h2, h3⟩ | ⟨h1, h2, h3, h4⟩
        · have d0 : decide (x.t < 0) = true := decide_eq_true h1
          clear hok
          go_wp2
          go_roundw
          case rel => exact ⟨j + 1, A, n, c, acc, by have := HLT.out; omega, by go_num, rfl, HRIS, H30, hide ((hs.out.box 32 _).take 1)⟩
          case measure => simp [intOf]; have := HLT.out; omega
        · have d0 : decide (x.t < 0) = false := decide_eq_false (by omega)
          have d1 : decide (3 < x.t) = true := decide_eq_true (by omega)
          clear hok
          go_wp2
          go_roundw
          case rel => exact ⟨j + 1, A, n, c, acc, by have := HLT.out; omega, by go_num, rfl, HRIS, H30, hide ((hs.out.box 32 _).take 1)⟩
          case measure => simp [intOf]; have := HLT.out; omega
        · have d0 : decide (x.t < 0) = false := decide_eq_false (by omega)
          have d1 : decide (3 < x.t) = false := decide_eq_false (by omega)
          have d2 : decide (15 < (x.k.size : Int)) = true := decide_eq_true (by omega)
          have d2n : decide (15 < x.k.size) = true := decide_eq_true (by omega)
          clear hok
          go_wp2
          go_roundw
          case rel => exact ⟨j + 1, A, n, c, acc, by have := HLT.out; omega, by go_num, rfl, HRIS, H30, hide ((hs.out.box 32 _).take 1)⟩
          case measure => simp [intOf]; have := HLT.out; omega
        · have d0 : decide (x.t < 0) = false := decide_eq_false (by omega)
          have d1 : decide (3 < x.t) = false := decide_eq_false (by omega)
          have d2 : decide (15 < (x.k.size : Int)) = false := decide_eq_false (by omega)
          have d2n : decide (15 < x.k.size) = false := decide_eq_false (by omega)
          have d3 : decide (21 < (x.v.size : Int)) = true := decide_eq_true (by omega)
          have d3n : decide (21 < x.v.size) = true := decide_eq_true (by omega)
          clear hok
          go_wp2
          go_roundw
          case rel => exact ⟨j + 1, A, n, c, acc, by have := HLT.out; omega, by go_num, rfl, HRIS, H30, hide ((hs.out.box 32 _).take 1)⟩
          case measure => simp [intOf]; have := HLT.out; omega
      · obtain ⟨h1, h2, h3, h4⟩ := rightB_iff.1 hok
        have HOKX : Hid (okR x = true) := hide hok
        have d0 : decide (x.t < 0) = false := decide_eq_false (by omega)
        have d1 : decide (3 < x.t) = false := decide_eq_false (by omega)
        have d2 : decide (15 < (x.k.size : Int)) = false := decide_eq_false (by omega)
        have d2n : decide (15 < x.k.size) = false := decide_eq_false (by omega)
        have d3 : decide (21 < (x.v.size : Int)) = false := decide_eq_false (by omega)
        have d3n : decide (21 < x.v.size) = false := decide_eq_false (by omega)
        by_cases hfull : n = 30
        · subst hfull
          clear h1 h2 h3 h4 hok hnl
          go_wp2
          go_roundw
          case rel => exact ⟨j + 1, A, 30, c, acc, by have := HLT.out; omega, by go_num, rfl, HRIS, H30, hide ((hs.out.box 32 _).take 1)⟩
          case measure => simp [intOf]; have := HLT.out; omega
        · have d4 : ((n : Int) == 30) = false := by rw [beq_eq_false_iff_ne]; omega
          have HNF := hide (show acc.length < 30 by have := H30.out; omega)
          have SX := hide (hs.out.box 32 #[.int .i64 x.t, .string x.k, .string x.v])
          obtain ⟨v9, w9, hrun, hs9⟩ := SX.out.addK (i := 0) (x := x) (cs := #[.int .i64 x.t, .string x.k, .string x.v]) rfl rfl (by have := H30.out; omega) 22
          obtain ⟨g, cap, e9, _⟩ := (hs9.krow (i := 0) rfl).block (by simp)
          obtain ⟨N, hN⟩ : ∃ N, (acc ++ [x]).length = N := ⟨_, rfl⟩
          rw [hN] at e9
          subst e9
          have HN : Hid (N = acc.length + 1) := hide (by rw [← hN]; simp)
          rw [World.size_alloc] at hrun
          have HR := hide hrun
          have S9 : Hid (Ow w (fun _ => False) w9 [Res.row rwK (.slice (some ⟨g, 0, none⟩) N cap) (acc.take acc.length ++ x :: acc.drop acc.length)]) := hide (by rw [List.take_length, List.drop_length]; exact hs9.take 1)
          have HCAP : Hid (N ≤ cap) := hide (by have := (S9.out.krow (i := 0) rfl).cap; rw [this.1]; exact this.2)
          have c0 := (SX.out.blk (i := 1) rfl).cell 0 _ rfl
          have c1 := (SX.out.blk (i := 1) rfl).cell 1 _ rfl
          have c2 := (SX.out.blk (i := 1) rfl).cell 2 _ rfl
          have hn31 : (N : Int) ≤ 31 := by have := HN.out; have := HNF.out; omega
          have hn32 : IntKind.i64.wrap ((N : Int) - 1) = (acc.length : Int) := by rw [IntKind.wrap_i64]; have := HN.out; have := HNF.out; omega
          have hn33 : (N : Int) - 1 = (acc.length : Int) := by have := HN.out; omega
          clear h1 h2 h3 h4 hok hnl hfull hrun hs9 hN
          go_wp2_with (at_builtin; refine wpList_app (v := .slice A n c) (u := .slice (some ⟨wr.heap.size + 1, 0, none⟩) 1 1) (by first | rfl | simp [Region.wanted, yielded]) (.tmp 38) (.tmp 40) 22 rfl rfl rfl HR.out ?_)
          clear HR SX c0 c1 c2 d0 d1 d2 d2n d3 d3n d4 hn31 hn32 hn33 i0 i1 i2
          have HHD : Hid (∀ y, (acc.drop acc.length).head? = some y → lessR x y = true) := hide (fun y hy => by rw [List.drop_length] at hy; cases hy)
          go_loopw [6] (fun k wq => ∃ q : Nat, q ≤ acc.length ∧ k = .int .i64 q ∧ Hid (∀ y, (acc.drop q).head? = some y → lessR x y = true) ∧ Hid (Ow w (fun _ => False) wq [Res.row rwK (.slice (some ⟨g, 0, none⟩) N cap) (acc.take q ++ x :: acc.drop q)])) (fun k _ => (intOf k).toNat)
          case atStart => exact ⟨acc.length, Nat.le_refl _, by first | rfl | go_num | simp, HHD, S9⟩
          case round =>
            rename World => wq
            obtain ⟨q, hq, rfl, hd, HSQ⟩ := hrel
            clear S9 HHD
            cases q with
            | zero =>
              go_upto_region 8 with (fail)
              refine region_grows [Say.is (.int .i64 0), Say.is (.bool false), Say.is (.bool false), Say.is (undef), Say.is (undef), Say.is (undef), Say.is (undef), Say.is (undef), Say.is (undef), Say.is (undef), Say.is (undef), Say.is (undef), Say.is (undef), Say.is (.bool false)] (by kernel_rfl) (by kernel_rfl) (by kernel_rfl) (by kernel_rfl) ?_ ?_
              · intro i o ho a w2 hb hsz old dep
                match i, ho with
                | 0, ho =>
                  obtain rfl := Option.some.inj ho
                  have o6 : a.tmps.getD 6 undef = _ := old 6 (by kernel_rfl)
                  rw [if_pos (wanted_none rfl)]
                  refine grow_same (v := .int .i64 0) ?_ rfl
                  clear old dep ho hsz hb
                  go_simp
                | 1, ho =>
                  obtain rfl := Option.some.inj ho
                  have d0 : a.tmps.getD 45 undef = .int .i64 0 := dep 0 _ _ (by kernel_rfl) rfl rfl
                  have e0 : a.tmps[45]?.getD undef = _ := (Array.getD_eq_getD_getElem? ..).symm.trans d0
                  rw [if_pos (wanted_none rfl)]
                  refine grow_same (v := .bool false) ?_ rfl
                  clear old dep ho hsz hb
                  go_simp
                | 2, ho =>
                  obtain rfl := Option.some.inj ho
                  have d1 : a.tmps.getD 46 undef = .bool false := dep 1 _ _ (by kernel_rfl) rfl rfl
                  have e1 : a.tmps[46]?.getD undef = _ := (Array.getD_eq_getD_getElem? ..).symm.trans d1
                  rw [if_pos (wanted_none rfl)]
                  refine grow_same (v := .bool false) ?_ rfl
                  clear old dep ho hsz hb
                  go_simp
                | 3, ho =>
                  obtain rfl := Option.some.inj ho
                  have d2 : a.tmps.getD 47 undef = .bool false := dep 2 _ _ (by kernel_rfl) rfl rfl
                  have e2 : a.tmps[47]?.getD undef = _ := (Array.getD_eq_getD_getElem? ..).symm.trans d2
                  rw [if_neg (wanted_not rfl rfl rfl (by rw [hsz]; exact of_decide_eq_true rfl) d2 rfl)]
                  exact rfl
                | 4, ho =>
                  obtain rfl := Option.some.inj ho
                  have d2 : a.tmps.getD 47 undef = .bool false := dep 2 _ _ (by kernel_rfl) rfl rfl
                  have e2 : a.tmps[47]?.getD undef = _ := (Array.getD_eq_getD_getElem? ..).symm.trans d2
                  rw [if_neg (wanted_not rfl rfl rfl (by rw [hsz]; exact of_decide_eq_true rfl) d2 rfl)]
                  exact rfl
                | 5, ho =>
                  obtain rfl := Option.some.inj ho
                  have d2 : a.tmps.getD 47 undef = .bool false := dep 2 _ _ (by kernel_rfl) rfl rfl
                  have e2 : a.tmps[47]?.getD undef = _ := (Array.getD_eq_getD_getElem? ..).symm.trans d2
                  rw [if_neg (wanted_not rfl rfl rfl (by rw [hsz]; exact of_decide_eq_true rfl) d2 rfl)]
                  exact rfl
                | 6, ho =>
                  obtain rfl := Option.some.inj ho
                  have d2 : a.tmps.getD 47 undef = .bool false := dep 2 _ _ (by kernel_rfl) rfl rfl
                  have e2 : a.tmps[47]?.getD undef = _ := (Array.getD_eq_getD_getElem? ..).symm.trans d2
                  rw [if_neg (wanted_not rfl rfl rfl (by rw [hsz]; exact of_decide_eq_true rfl) d2 rfl)]
                  exact rfl
                | 7, ho =>
                  obtain rfl := Option.some.inj ho
                  have d2 : a.tmps.getD 47 undef = .bool false := dep 2 _ _ (by kernel_rfl) rfl rfl
                  have e2 : a.tmps[47]?.getD undef = _ := (Array.getD_eq_getD_getElem? ..).symm.trans d2
                  rw [if_neg (wanted_not rfl rfl rfl (by rw [hsz]; exact of_decide_eq_true rfl) d2 rfl)]
                  exact rfl
                | 8, ho =>
                  obtain rfl := Option.some.inj ho
                  have d2 : a.tmps.getD 47 undef = .bool false := dep 2 _ _ (by kernel_rfl) rfl rfl
                  have e2 : a.tmps[47]?.getD undef = _ := (Array.getD_eq_getD_getElem? ..).symm.trans d2
                  rw [if_neg (wanted_not rfl rfl rfl (by rw [hsz]; exact of_decide_eq_true rfl) d2 rfl)]
                  exact rfl
                | 9, ho =>
                  obtain rfl := Option.some.inj ho
                  have d2 : a.tmps.getD 47 undef = .bool false := dep 2 _ _ (by kernel_rfl) rfl rfl
                  have e2 : a.tmps[47]?.getD undef = _ := (Array.getD_eq_getD_getElem? ..).symm.trans d2
                  rw [if_neg (wanted_not rfl rfl rfl (by rw [hsz]; exact of_decide_eq_true rfl) d2 rfl)]
                  exact rfl
                | 10, ho =>
                  obtain rfl := Option.some.inj ho
                  have d2 : a.tmps.getD 47 undef = .bool false := dep 2 _ _ (by kernel_rfl) rfl rfl
                  have e2 : a.tmps[47]?.getD undef = _ := (Array.getD_eq_getD_getElem? ..).symm.trans d2
                  rw [if_neg (wanted_not rfl rfl rfl (by rw [hsz]; exact of_decide_eq_true rfl) d2 rfl)]
                  exact rfl
                | 11, ho =>
                  obtain rfl := Option.some.inj ho
                  have d2 : a.tmps.getD 47 undef = .bool false := dep 2 _ _ (by kernel_rfl) rfl rfl
                  have e2 : a.tmps[47]?.getD undef = _ := (Array.getD_eq_getD_getElem? ..).symm.trans d2
                  rw [if_neg (wanted_not rfl rfl rfl (by rw [hsz]; exact of_decide_eq_true rfl) d2 rfl)]
                  exact rfl
                | 12, ho =>
                  obtain rfl := Option.some.inj ho
                  have d2 : a.tmps.getD 47 undef = .bool false := dep 2 _ _ (by kernel_rfl) rfl rfl
                  have e2 : a.tmps[47]?.getD undef = _ := (Array.getD_eq_getD_getElem? ..).symm.trans d2
                  rw [if_neg (wanted_not rfl rfl rfl (by rw [hsz]; exact of_decide_eq_true rfl) d2 rfl)]
                  exact rfl
                | 13, ho =>
                  obtain rfl := Option.some.inj ho
                  have d2 : a.tmps.getD 47 undef = .bool false := dep 2 _ _ (by kernel_rfl) rfl rfl
                  have e2 : a.tmps[47]?.getD undef = _ := (Array.getD_eq_getD_getElem? ..).symm.trans d2
                  have d12 : a.tmps.getD 57 undef = undef := dep 12 _ _ (by kernel_rfl) rfl rfl
                  have e12 : a.tmps[57]?.getD undef = _ := (Array.getD_eq_getD_getElem? ..).symm.trans d12
                  rw [if_pos (wanted_none rfl)]
                  refine grow_same (v := .bool false) ?_ rfl
                  clear old dep ho hsz hb
                  go_simp
                | i + 14, ho => exact absurd ho (by simp)
              · intro a wA hb hsz hdf fin keep
                obtain ⟨tm, df⟩ := a
                have hx := frame_of [45, 46, 47, 48, 49, 50, 51, 52, 53, 54, 55, 56, 57, 58] (by kernel_rfl) hsz keep
                dsimp only at hdf hx
                simp only [List.foldl_cons, List.foldl_nil] at hx
                subst hdf
                clear hsz keep
                have kn : tm.getD 45 undef = .int .i64 0 := fin 0 _ _ rfl rfl
                rw [kn] at hx
                clear kn
                have kn : tm.getD 46 undef = .bool false := fin 1 _ _ rfl rfl
                rw [kn] at hx
                clear kn
                have kn : tm.getD 47 undef = .bool false := fin 2 _ _ rfl rfl
                rw [kn] at hx
                clear kn
                have kn : tm.getD 48 undef = undef := fin 3 _ _ rfl rfl
                rw [kn] at hx
                clear kn
                have kn : tm.getD 49 undef = undef := fin 4 _ _ rfl rfl
                rw [kn] at hx
                clear kn
                have kn : tm.getD 50 undef = undef := fin 5 _ _ rfl rfl
                rw [kn] at hx
                clear kn
                have kn : tm.getD 51 undef = undef := fin 6 _ _ rfl rfl
                rw [kn] at hx
                clear kn
                have kn : tm.getD 52 undef = undef := fin 7 _ _ rfl rfl
                rw [kn] at hx
                clear kn
                have kn : tm.getD 53 undef = undef := fin 8 _ _ rfl rfl
                rw [kn] at hx
                clear kn
                have kn : tm.getD 54 undef = undef := fin 9 _ _ rfl rfl
                rw [kn] at hx
                clear kn
                have kn : tm.getD 55 undef = undef := fin 10 _ _ rfl rfl
                rw [kn] at hx
                clear kn
                have kn : tm.getD 56 undef = undef := fin 11 _ _ rfl rfl
                rw [kn] at hx
                clear kn
                have kn : tm.getD 57 undef = undef := fin 12 _ _ rfl rfl
                rw [kn] at hx
                clear kn
                have kn : tm.getD 58 undef = .bool false := fin 13 _ _ rfl rfl
                rw [kn] at hx
                clear kn
                clear fin
                simp only [List.setIfInBounds_toArray, List.set_cons_succ, List.set_cons_zero] at hx
                subst hx
                have HSA := hide (HSQ.out.below hb)
                clear hb
                go_upto_region 11 with (fail)
                refine region_grows [Say.is (.int .i64 0), Say.is (.bool false), Say.is (.bool false), Say.is (undef), Say.is (undef), Say.is (undef), Say.is (undef), Say.is (undef), Say.is (undef), Say.is (undef), Say.is (undef), Say.is (undef), Say.is (undef), Say.is (undef), Say.is (.bool false)] (by kernel_rfl) (by kernel_rfl) (by kernel_rfl) (by kernel_rfl) ?_ ?_
                · intro i o ho a w2 hb hsz old dep
                  match i, ho with
                  | 0, ho =>
                    obtain rfl := Option.some.inj ho
                    have o6 : a.tmps.getD 6 undef = _ := old 6 (by kernel_rfl)
                    rw [if_pos (wanted_none rfl)]
                    refine grow_same (v := .int .i64 0) ?_ rfl
                    clear old dep ho hsz hb
                    go_simp
                  | 1, ho =>
                    obtain rfl := Option.some.inj ho
                    have d0 : a.tmps.getD 77 undef = .int .i64 0 := dep 0 _ _ (by kernel_rfl) rfl rfl
                    have e0 : a.tmps[77]?.getD undef = _ := (Array.getD_eq_getD_getElem? ..).symm.trans d0
                    rw [if_pos (wanted_none rfl)]
                    refine grow_same (v := .bool false) ?_ rfl
                    clear old dep ho hsz hb
                    go_simp
                  | 2, ho =>
                    obtain rfl := Option.some.inj ho
                    have d1 : a.tmps.getD 78 undef = .bool false := dep 1 _ _ (by kernel_rfl) rfl rfl
                    have e1 : a.tmps[78]?.getD undef = _ := (Array.getD_eq_getD_getElem? ..).symm.trans d1
                    rw [if_pos (wanted_none rfl)]
                    refine grow_same (v := .bool false) ?_ rfl
                    clear old dep ho hsz hb
                    go_simp
                  | 3, ho =>
                    obtain rfl := Option.some.inj ho
                    have d2 : a.tmps.getD 79 undef = .bool false := dep 2 _ _ (by kernel_rfl) rfl rfl
                    have e2 : a.tmps[79]?.getD undef = _ := (Array.getD_eq_getD_getElem? ..).symm.trans d2
                    rw [if_neg (wanted_not rfl rfl rfl (by rw [hsz]; exact of_decide_eq_true rfl) d2 rfl)]
                    exact rfl
                  | 4, ho =>
                    obtain rfl := Option.some.inj ho
                    have d2 : a.tmps.getD 79 undef = .bool false := dep 2 _ _ (by kernel_rfl) rfl rfl
                    have e2 : a.tmps[79]?.getD undef = _ := (Array.getD_eq_getD_getElem? ..).symm.trans d2
                    rw [if_neg (wanted_not rfl rfl rfl (by rw [hsz]; exact of_decide_eq_true rfl) d2 rfl)]
                    exact rfl
                  | 5, ho =>
                    obtain rfl := Option.some.inj ho
                    have d2 : a.tmps.getD 79 undef = .bool false := dep 2 _ _ (by kernel_rfl) rfl rfl
                    have e2 : a.tmps[79]?.getD undef = _ := (Array.getD_eq_getD_getElem? ..).symm.trans d2
                    rw [if_neg (wanted_not rfl rfl rfl (by rw [hsz]; exact of_decide_eq_true rfl) d2 rfl)]
                    exact rfl
                  | 6, ho =>
                    obtain rfl := Option.some.inj ho
                    have d2 : a.tmps.getD 79 undef = .bool false := dep 2 _ _ (by kernel_rfl) rfl rfl
                    have e2 : a.tmps[79]?.getD undef = _ := (Array.getD_eq_getD_getElem? ..).symm.trans d2
                    rw [if_neg (wanted_not rfl rfl rfl (by rw [hsz]; exact of_decide_eq_true rfl) d2 rfl)]
                    exact rfl
                  | 7, ho =>
                    obtain rfl := Option.some.inj ho
                    have d2 : a.tmps.getD 79 undef = .bool false := dep 2 _ _ (by kernel_rfl) rfl rfl
                    have e2 : a.tmps[79]?.getD undef = _ := (Array.getD_eq_getD_getElem? ..).symm.trans d2
                    rw [if_neg (wanted_not rfl rfl rfl (by rw [hsz]; exact of_decide_eq_true rfl) d2 rfl)]
                    exact rfl
                  | 8, ho =>
                    obtain rfl := Option.some.inj ho
                    have d2 : a.tmps.getD 79 undef = .bool false := dep 2 _ _ (by kernel_rfl) rfl rfl
                    have e2 : a.tmps[79]?.getD undef = _ := (Array.getD_eq_getD_getElem? ..).symm.trans d2
                    rw [if_neg (wanted_not rfl rfl rfl (by rw [hsz]; exact of_decide_eq_true rfl) d2 rfl)]
                    exact rfl
                  | 9, ho =>
                    obtain rfl := Option.some.inj ho
                    have d2 : a.tmps.getD 79 undef = .bool false := dep 2 _ _ (by kernel_rfl) rfl rfl
                    have e2 : a.tmps[79]?.getD undef = _ := (Array.getD_eq_getD_getElem? ..).symm.trans d2
                    rw [if_neg (wanted_not rfl rfl rfl (by rw [hsz]; exact of_decide_eq_true rfl) d2 rfl)]
                    exact rfl
                  | 10, ho =>
                    obtain rfl := Option.some.inj ho
                    have d2 : a.tmps.getD 79 undef = .bool false := dep 2 _ _ (by kernel_rfl) rfl rfl
                    have e2 : a.tmps[79]?.getD undef = _ := (Array.getD_eq_getD_getElem? ..).symm.trans d2
                    rw [if_neg (wanted_not rfl rfl rfl (by rw [hsz]; exact of_decide_eq_true rfl) d2 rfl)]
                    exact rfl
                  | 11, ho =>
                    obtain rfl := Option.some.inj ho
                    have d2 : a.tmps.getD 79 undef = .bool false := dep 2 _ _ (by kernel_rfl) rfl rfl
                    have e2 : a.tmps[79]?.getD undef = _ := (Array.getD_eq_getD_getElem? ..).symm.trans d2
                    rw [if_neg (wanted_not rfl rfl rfl (by rw [hsz]; exact of_decide_eq_true rfl) d2 rfl)]
                    exact rfl
                  | 12, ho =>
                    obtain rfl := Option.some.inj ho
                    have d2 : a.tmps.getD 79 undef = .bool false := dep 2 _ _ (by kernel_rfl) rfl rfl
                    have e2 : a.tmps[79]?.getD undef = _ := (Array.getD_eq_getD_getElem? ..).symm.trans d2
                    rw [if_neg (wanted_not rfl rfl rfl (by rw [hsz]; exact of_decide_eq_true rfl) d2 rfl)]
                    exact rfl
                  | 13, ho =>
                    obtain rfl := Option.some.inj ho
                    have d2 : a.tmps.getD 79 undef = .bool false := dep 2 _ _ (by kernel_rfl) rfl rfl
                    have e2 : a.tmps[79]?.getD undef = _ := (Array.getD_eq_getD_getElem? ..).symm.trans d2
                    rw [if_neg (wanted_not rfl rfl rfl (by rw [hsz]; exact of_decide_eq_true rfl) d2 rfl)]
                    exact rfl
                  | 14, ho =>
                    obtain rfl := Option.some.inj ho
                    have d2 : a.tmps.getD 79 undef = .bool false := dep 2 _ _ (by kernel_rfl) rfl rfl
                    have e2 : a.tmps[79]?.getD undef = _ := (Array.getD_eq_getD_getElem? ..).symm.trans d2
                    have d13 : a.tmps.getD 90 undef = undef := dep 13 _ _ (by kernel_rfl) rfl rfl
                    have e13 : a.tmps[90]?.getD undef = _ := (Array.getD_eq_getD_getElem? ..).symm.trans d13
                    rw [if_pos (wanted_none rfl)]
                    refine grow_same (v := .bool false) ?_ rfl
                    clear old dep ho hsz hb
                    go_simp
                  | i + 15, ho => exact absurd ho (by simp)
                · intro a wB hb hsz hdf fin keep
                  obtain ⟨tm, df⟩ := a
                  have hx := frame_of [77, 78, 79, 80, 81, 82, 83, 84, 85, 86, 87, 88, 89, 90, 91] (by kernel_rfl) hsz keep
                  dsimp only at hdf hx
                  simp only [List.foldl_cons, List.foldl_nil] at hx
                  subst hdf
                  clear hsz keep
                  have kn : tm.getD 77 undef = .int .i64 0 := fin 0 _ _ rfl rfl
                  rw [kn] at hx
                  clear kn
                  have kn : tm.getD 78 undef = .bool false := fin 1 _ _ rfl rfl
                  rw [kn] at hx
                  clear kn
                  have kn : tm.getD 79 undef = .bool false := fin 2 _ _ rfl rfl
                  rw [kn] at hx
                  clear kn
                  have kn : tm.getD 80 undef = undef := fin 3 _ _ rfl rfl
                  rw [kn] at hx
                  clear kn
                  have kn : tm.getD 81 undef = undef := fin 4 _ _ rfl rfl
                  rw [kn] at hx
                  clear kn
                  have kn : tm.getD 82 undef = undef := fin 5 _ _ rfl rfl
                  rw [kn] at hx
                  clear kn
                  have kn : tm.getD 83 undef = undef := fin 6 _ _ rfl rfl
                  rw [kn] at hx
                  clear kn
                  have kn : tm.getD 84 undef = undef := fin 7 _ _ rfl rfl
                  rw [kn] at hx
                  clear kn
                  have kn : tm.getD 85 undef = undef := fin 8 _ _ rfl rfl
                  rw [kn] at hx
                  clear kn
                  have kn : tm.getD 86 undef = undef := fin 9 _ _ rfl rfl
                  rw [kn] at hx
                  clear kn
                  have kn : tm.getD 87 undef = undef := fin 10 _ _ rfl rfl
                  rw [kn] at hx
                  clear kn
                  have kn : tm.getD 88 undef = undef := fin 11 _ _ rfl rfl
                  rw [kn] at hx
                  clear kn
                  have kn : tm.getD 89 undef = undef := fin 12 _ _ rfl rfl
                  rw [kn] at hx
                  clear kn
                  have kn : tm.getD 90 undef = undef := fin 13 _ _ rfl rfl
                  rw [kn] at hx
                  clear kn
                  have kn : tm.getD 91 undef = .bool false := fin 14 _ _ rfl rfl
                  rw [kn] at hx
                  clear kn
                  clear fin
                  simp only [List.setIfInBounds_toArray, List.set_cons_succ, List.set_cons_zero] at hx
                  subst hx
                  have HSB := hide (HSA.out.below hb)
                  clear hb
                  go_wp2
                  go_roundw
                  case rel => exact ⟨j + 1, (some ⟨g, 0, none⟩), N, cap, acc.take 0 ++ x :: acc.drop 0, by have := HLT.out; omega, by go_num, rfl, hide (Ris.put (by rw [List.take_append_drop]; exact HRIS.out) HOKX.out (fun z hz => by rw [List.take_zero] at hz; cases hz) hd.out), hide (by rw [mid_len (Nat.zero_le _)]; have := HNF.out; omega), HSB⟩
                  case measure => simp [intOf]; have := HLT.out; omega
            | succ p =>
              obtain ⟨y, hy⟩ : ∃ y, acc[p]? = some y := ⟨_, List.getElem?_eq_getElem (by omega)⟩
              have HAT := hide hy
              have HM0 := hide (mid_at (x := x) hy).1
              have HM1 := hide (mid_at (x := x) hy).2
              clear hy
              obtain ⟨c0, c1, c2⟩ := row_at (HSQ.out.krow (i := 0) rfl) HM1.out
              obtain ⟨f0, f1, f2⟩ := row_at (HSQ.out.krow (i := 0) rfl) HM0.out
              have HG : Hid (g < wq.heap.size) := hide ((HSQ.out.krow (i := 0) rfl).lt g rfl)
              have z0 : (0 : Int) ≤ (p : Int) + 1 := by omega
              have z1 : (p : Int) < (N : Int) := by have := HN.out; omega
              have z2 : (0 : Int) < (p : Int) + 1 := by omega
              have z3 : ((p : Int) + 1).toNat = p + 1 := by omega
              have z6 : (p : Int) + 1 < (N : Int) := by have := HN.out; omega
              have z7 : IntKind.i64.wrap ((p : Int) + 1 - 1) = (p : Int) := by rw [IntKind.wrap_i64]; have := HN.out; have := HNF.out; omega
              have z8 : IntKind.i64.wrap (p : Int) = (p : Int) := by rw [IntKind.wrap_i64]; have := HN.out; have := HNF.out; omega
              have z9 : (0 : Int) ≤ (p : Int) := by omega
              have HLS := hide (fun w => rless_any x.t y.t x.k x.v y.k y.v w)
              have HLT2 := hide (fun w => rless_any y.t x.t y.k y.v x.k x.v w)
              go_upto_region 8 with (fail)
              cases hl : lessB x.t x.k y.t y.k
              · rw [hl] at HLS
                cases hl2 : lessB y.t y.k x.t x.k
                · rw [hl2] at HLT2
                  clear hl hl2
                  refine region_grows [Say.is (.int .i64 ((p + 1 : Nat) : Int)), Say.is (.bool true), Say.is (.bool true), Say.is (.slice (some ⟨g, 0, none⟩) N cap), Say.is (.int .i64 ((p + 1 : Nat) : Int)), Say.is (.pointer (some ⟨g, (p + 1) * 3, none⟩)), Say.is (.agg #[.int .i64 x.t, .string x.k, .string x.v]), Say.is (.slice (some ⟨g, 0, none⟩) N cap), Say.is (.int .i64 ((p + 1 : Nat) : Int)), Say.is (.int .i64 (p : Int)), Say.is (.pointer (some ⟨g, p * 3, none⟩)), Say.is (.agg #[.int .i64 y.t, .string y.k, .string y.v]), Say.is (.bool false), Say.is (.bool false)] (by kernel_rfl) (by kernel_rfl) (by kernel_rfl) (by kernel_rfl) ?_ ?_
                  · intro i o ho a w2 hb hsz old dep
                    match i, ho with
                    | 0, ho =>
                      obtain rfl := Option.some.inj ho
                      have o6 : a.tmps.getD 6 undef = _ := old 6 (by kernel_rfl)
                      rw [if_pos (wanted_none rfl)]
                      refine grow_same (v := .int .i64 ((p + 1 : Nat) : Int)) ?_ rfl
                      clear old dep ho hsz hb
                      go_simp
                    | 1, ho =>
                      obtain rfl := Option.some.inj ho
                      have d0 : a.tmps.getD 45 undef = .int .i64 ((p + 1 : Nat) : Int) := dep 0 _ _ (by kernel_rfl) rfl rfl
                      have e0 : a.tmps[45]?.getD undef = _ := (Array.getD_eq_getD_getElem? ..).symm.trans d0
                      rw [if_pos (wanted_none rfl)]
                      refine grow_same (v := .bool true) ?_ rfl
                      clear old dep ho hsz hb
                      go_simp
                    | 2, ho =>
                      obtain rfl := Option.some.inj ho
                      have d1 : a.tmps.getD 46 undef = .bool true := dep 1 _ _ (by kernel_rfl) rfl rfl
                      have e1 : a.tmps[46]?.getD undef = _ := (Array.getD_eq_getD_getElem? ..).symm.trans d1
                      rw [if_pos (wanted_none rfl)]
                      refine grow_same (v := .bool true) ?_ rfl
                      clear old dep ho hsz hb
                      go_simp
                    | 3, ho =>
                      obtain rfl := Option.some.inj ho
                      have o3 : a.tmps.getD 3 undef = _ := old 3 (by kernel_rfl)
                      have d2 : a.tmps.getD 47 undef = .bool true := dep 2 _ _ (by kernel_rfl) rfl rfl
                      have e2 : a.tmps[47]?.getD undef = _ := (Array.getD_eq_getD_getElem? ..).symm.trans d2
                      rw [if_pos (wanted_some rfl rfl rfl (by rw [hsz]; exact of_decide_eq_true rfl) d2)]
                      refine grow_same (v := .slice (some ⟨g, 0, none⟩) N cap) ?_ rfl
                      clear old dep ho hsz hb
                      go_simp
                    | 4, ho =>
                      obtain rfl := Option.some.inj ho
                      have o6 : a.tmps.getD 6 undef = _ := old 6 (by kernel_rfl)
                      have d2 : a.tmps.getD 47 undef = .bool true := dep 2 _ _ (by kernel_rfl) rfl rfl
                      have e2 : a.tmps[47]?.getD undef = _ := (Array.getD_eq_getD_getElem? ..).symm.trans d2
                      rw [if_pos (wanted_some rfl rfl rfl (by rw [hsz]; exact of_decide_eq_true rfl) d2)]
                      refine grow_same (v := .int .i64 ((p + 1 : Nat) : Int)) ?_ rfl
                      clear old dep ho hsz hb
                      go_simp
                    | 5, ho =>
                      obtain rfl := Option.some.inj ho
                      have d3 : a.tmps.getD 48 undef = .slice (some ⟨g, 0, none⟩) N cap := dep 3 _ _ (by kernel_rfl) rfl rfl
                      have e3 : a.tmps[48]?.getD undef = _ := (Array.getD_eq_getD_getElem? ..).symm.trans d3
                      have d4 : a.tmps.getD 49 undef = .int .i64 ((p + 1 : Nat) : Int) := dep 4 _ _ (by kernel_rfl) rfl rfl
                      have e4 : a.tmps[49]?.getD undef = _ := (Array.getD_eq_getD_getElem? ..).symm.trans d4
                      have d2 : a.tmps.getD 47 undef = .bool true := dep 2 _ _ (by kernel_rfl) rfl rfl
                      have e2 : a.tmps[47]?.getD undef = _ := (Array.getD_eq_getD_getElem? ..).symm.trans d2
                      rw [if_pos (wanted_some rfl rfl rfl (by rw [hsz]; exact of_decide_eq_true rfl) d2)]
                      refine grow_same (v := .pointer (some ⟨g, (p + 1) * 3, none⟩)) ?_ rfl
                      clear old dep ho hsz hb
                      go_simp
                    | 6, ho =>
                      obtain rfl := Option.some.inj ho
                      have d5 : a.tmps.getD 50 undef = .pointer (some ⟨g, (p + 1) * 3, none⟩) := dep 5 _ _ (by kernel_rfl) rfl rfl
                      have e5 : a.tmps[50]?.getD undef = _ := (Array.getD_eq_getD_getElem? ..).symm.trans d5
                      have d2 : a.tmps.getD 47 undef = .bool true := dep 2 _ _ (by kernel_rfl) rfl rfl
                      have e2 : a.tmps[47]?.getD undef = _ := (Array.getD_eq_getD_getElem? ..).symm.trans d2
                      rw [if_pos (wanted_some rfl rfl rfl (by rw [hsz]; exact of_decide_eq_true rfl) d2)]
                      have g0 := (hb.cell (p := ⟨g, (p + 1) * 3, none⟩) HG.out).trans c0
                      have g1 := (hb.cell (p := ⟨g, (p + 1) * 3 + 1, none⟩) HG.out).trans c1
                      have g2 := (hb.cell (p := ⟨g, (p + 1) * 3 + 2, none⟩) HG.out).trans c2
                      refine grow_same (v := .agg #[.int .i64 x.t, .string x.k, .string x.v]) ?_ rfl
                      clear old dep ho hsz hb
                      go_simp
                    | 7, ho =>
                      obtain rfl := Option.some.inj ho
                      have o3 : a.tmps.getD 3 undef = _ := old 3 (by kernel_rfl)
                      have d2 : a.tmps.getD 47 undef = .bool true := dep 2 _ _ (by kernel_rfl) rfl rfl
                      have e2 : a.tmps[47]?.getD undef = _ := (Array.getD_eq_getD_getElem? ..).symm.trans d2
                      rw [if_pos (wanted_some rfl rfl rfl (by rw [hsz]; exact of_decide_eq_true rfl) d2)]
                      refine grow_same (v := .slice (some ⟨g, 0, none⟩) N cap) ?_ rfl
                      clear old dep ho hsz hb
                      go_simp
                    | 8, ho =>
                      obtain rfl := Option.some.inj ho
                      have o6 : a.tmps.getD 6 undef = _ := old 6 (by kernel_rfl)
                      have d2 : a.tmps.getD 47 undef = .bool true := dep 2 _ _ (by kernel_rfl) rfl rfl
                      have e2 : a.tmps[47]?.getD undef = _ := (Array.getD_eq_getD_getElem? ..).symm.trans d2
                      rw [if_pos (wanted_some rfl rfl rfl (by rw [hsz]; exact of_decide_eq_true rfl) d2)]
                      refine grow_same (v := .int .i64 ((p + 1 : Nat) : Int)) ?_ rfl
                      clear old dep ho hsz hb
                      go_simp
                    | 9, ho =>
                      obtain rfl := Option.some.inj ho
                      have d8 : a.tmps.getD 53 undef = .int .i64 ((p + 1 : Nat) : Int) := dep 8 _ _ (by kernel_rfl) rfl rfl
                      have e8 : a.tmps[53]?.getD undef = _ := (Array.getD_eq_getD_getElem? ..).symm.trans d8
                      have d2 : a.tmps.getD 47 undef = .bool true := dep 2 _ _ (by kernel_rfl) rfl rfl
                      have e2 : a.tmps[47]?.getD undef = _ := (Array.getD_eq_getD_getElem? ..).symm.trans d2
                      rw [if_pos (wanted_some rfl rfl rfl (by rw [hsz]; exact of_decide_eq_true rfl) d2)]
                      refine grow_same (v := .int .i64 (p : Int)) ?_ rfl
                      clear old dep ho hsz hb
                      go_simp
                    | 10, ho =>
                      obtain rfl := Option.some.inj ho
                      have d7 : a.tmps.getD 52 undef = .slice (some ⟨g, 0, none⟩) N cap := dep 7 _ _ (by kernel_rfl) rfl rfl
                      have e7 : a.tmps[52]?.getD undef = _ := (Array.getD_eq_getD_getElem? ..).symm.trans d7
                      have d9 : a.tmps.getD 54 undef = .int .i64 (p : Int) := dep 9 _ _ (by kernel_rfl) rfl rfl
                      have e9 : a.tmps[54]?.getD undef = _ := (Array.getD_eq_getD_getElem? ..).symm.trans d9
                      have d2 : a.tmps.getD 47 undef = .bool true := dep 2 _ _ (by kernel_rfl) rfl rfl
                      have e2 : a.tmps[47]?.getD undef = _ := (Array.getD_eq_getD_getElem? ..).symm.trans d2
                      rw [if_pos (wanted_some rfl rfl rfl (by rw [hsz]; exact of_decide_eq_true rfl) d2)]
                      refine grow_same (v := .pointer (some ⟨g, p * 3, none⟩)) ?_ rfl
                      clear old dep ho hsz hb
                      go_simp
                    | 11, ho =>
                      obtain rfl := Option.some.inj ho
                      have d10 : a.tmps.getD 55 undef = .pointer (some ⟨g, p * 3, none⟩) := dep 10 _ _ (by kernel_rfl) rfl rfl
                      have e10 : a.tmps[55]?.getD undef = _ := (Array.getD_eq_getD_getElem? ..).symm.trans d10
                      have d2 : a.tmps.getD 47 undef = .bool true := dep 2 _ _ (by kernel_rfl) rfl rfl
                      have e2 : a.tmps[47]?.getD undef = _ := (Array.getD_eq_getD_getElem? ..).symm.trans d2
                      rw [if_pos (wanted_some rfl rfl rfl (by rw [hsz]; exact of_decide_eq_true rfl) d2)]
                      have g0 := (hb.cell (p := ⟨g, p * 3, none⟩) HG.out).trans f0
                      have g1 := (hb.cell (p := ⟨g, p * 3 + 1, none⟩) HG.out).trans f1
                      have g2 := (hb.cell (p := ⟨g, p * 3 + 2, none⟩) HG.out).trans f2
                      refine grow_same (v := .agg #[.int .i64 y.t, .string y.k, .string y.v]) ?_ rfl
                      clear old dep ho hsz hb
                      go_simp
                    | 12, ho =>
                      obtain rfl := Option.some.inj ho
                      have d6 : a.tmps.getD 51 undef = .agg #[.int .i64 x.t, .string x.k, .string x.v] := dep 6 _ _ (by kernel_rfl) rfl rfl
                      have e6 : a.tmps[51]?.getD undef = _ := (Array.getD_eq_getD_getElem? ..).symm.trans d6
                      have d11 : a.tmps.getD 56 undef = .agg #[.int .i64 y.t, .string y.k, .string y.v] := dep 11 _ _ (by kernel_rfl) rfl rfl
                      have e11 : a.tmps[56]?.getD undef = _ := (Array.getD_eq_getD_getElem? ..).symm.trans d11
                      have d2 : a.tmps.getD 47 undef = .bool true := dep 2 _ _ (by kernel_rfl) rfl rfl
                      have e2 : a.tmps[47]?.getD undef = _ := (Array.getD_eq_getD_getElem? ..).symm.trans d2
                      rw [if_pos (wanted_some rfl rfl rfl (by rw [hsz]; exact of_decide_eq_true rfl) d2)]
                      refine grow_enters (f := 18) (args := #[.agg #[.int .i64 x.t, .string x.k, .string x.v], .agg #[.int .i64 y.t, .string y.k, .string y.v]]) ?_ (grow_is (HLS.out _))
                      clear old dep ho hsz hb
                      go_simp
                    | 13, ho =>
                      obtain rfl := Option.some.inj ho
                      have d2 : a.tmps.getD 47 undef = .bool true := dep 2 _ _ (by kernel_rfl) rfl rfl
                      have e2 : a.tmps[47]?.getD undef = _ := (Array.getD_eq_getD_getElem? ..).symm.trans d2
                      have d12 : a.tmps.getD 57 undef = .bool false := dep 12 _ _ (by kernel_rfl) rfl rfl
                      have e12 : a.tmps[57]?.getD undef = _ := (Array.getD_eq_getD_getElem? ..).symm.trans d12
                      rw [if_pos (wanted_none rfl)]
                      refine grow_same (v := .bool false) ?_ rfl
                      clear old dep ho hsz hb
                      go_simp
                    | i + 14, ho => exact absurd ho (by simp)
                  · intro a W hb hsz hdf fin keep
                    obtain ⟨tm, df⟩ := a
                    have hx := frame_of [45, 46, 47, 48, 49, 50, 51, 52, 53, 54, 55, 56, 57, 58] (by kernel_rfl) hsz keep
                    dsimp only at hdf hx
                    simp only [List.foldl_cons, List.foldl_nil] at hx
                    subst hdf
                    clear hsz keep
                    have kn : tm.getD 45 undef = .int .i64 ((p + 1 : Nat) : Int) := fin 0 _ _ rfl rfl
                    rw [kn] at hx
                    clear kn
                    have kn : tm.getD 46 undef = .bool true := fin 1 _ _ rfl rfl
                    rw [kn] at hx
                    clear kn
                    have kn : tm.getD 47 undef = .bool true := fin 2 _ _ rfl rfl
                    rw [kn] at hx
                    clear kn
                    have kn : tm.getD 48 undef = .slice (some ⟨g, 0, none⟩) N cap := fin 3 _ _ rfl rfl
                    rw [kn] at hx
                    clear kn
                    have kn : tm.getD 49 undef = .int .i64 ((p + 1 : Nat) : Int) := fin 4 _ _ rfl rfl
                    rw [kn] at hx
                    clear kn
                    have kn : tm.getD 50 undef = .pointer (some ⟨g, (p + 1) * 3, none⟩) := fin 5 _ _ rfl rfl
                    rw [kn] at hx
                    clear kn
                    have kn : tm.getD 51 undef = .agg #[.int .i64 x.t, .string x.k, .string x.v] := fin 6 _ _ rfl rfl
                    rw [kn] at hx
                    clear kn
                    have kn : tm.getD 52 undef = .slice (some ⟨g, 0, none⟩) N cap := fin 7 _ _ rfl rfl
                    rw [kn] at hx
                    clear kn
                    have kn : tm.getD 53 undef = .int .i64 ((p + 1 : Nat) : Int) := fin 8 _ _ rfl rfl
                    rw [kn] at hx
                    clear kn
                    have kn : tm.getD 54 undef = .int .i64 (p : Int) := fin 9 _ _ rfl rfl
                    rw [kn] at hx
                    clear kn
                    have kn : tm.getD 55 undef = .pointer (some ⟨g, p * 3, none⟩) := fin 10 _ _ rfl rfl
                    rw [kn] at hx
                    clear kn
                    have kn : tm.getD 56 undef = .agg #[.int .i64 y.t, .string y.k, .string y.v] := fin 11 _ _ rfl rfl
                    rw [kn] at hx
                    clear kn
                    have kn : tm.getD 57 undef = .bool false := fin 12 _ _ rfl rfl
                    rw [kn] at hx
                    clear kn
                    have kn : tm.getD 58 undef = .bool false := fin 13 _ _ rfl rfl
                    rw [kn] at hx
                    clear kn
                    clear fin
                    simp only [List.setIfInBounds_toArray, List.set_cons_succ, List.set_cons_zero] at hx
                    subst hx
                    have hSQ := HSQ.out.below hb
                    clear HSQ hb c0 c1 c2 f0 f1 f2 HG
                    have HSQ := hide hSQ
                    clear hSQ
                    obtain ⟨c0, c1, c2⟩ := row_at (HSQ.out.krow (i := 0) rfl) HM1.out
                    obtain ⟨f0, f1, f2⟩ := row_at (HSQ.out.krow (i := 0) rfl) HM0.out
                    have HG : Hid (g < W.heap.size) := hide ((HSQ.out.krow (i := 0) rfl).lt g rfl)
                    go_upto_region 11 with (fail)
                    refine region_grows [Say.is (.int .i64 ((p + 1 : Nat) : Int)), Say.is (.bool true), Say.is (.bool true), Say.is (.slice (some ⟨g, 0, none⟩) N cap), Say.is (.int .i64 ((p + 1 : Nat) : Int)), Say.is (.int .i64 (p : Int)), Say.is (.pointer (some ⟨g, p * 3, none⟩)), Say.is (.agg #[.int .i64 y.t, .string y.k, .string y.v]), Say.is (.slice (some ⟨g, 0, none⟩) N cap), Say.is (.int .i64 ((p + 1 : Nat) : Int)), Say.is (.pointer (some ⟨g, (p + 1) * 3, none⟩)), Say.is (.agg #[.int .i64 x.t, .string x.k, .string x.v]), Say.is (.bool false), Say.is (.bool true), Say.is (.bool true)] (by kernel_rfl) (by kernel_rfl) (by kernel_rfl) (by kernel_rfl) ?_ ?_
                    · intro i o ho a w2 hb hsz old dep
                      match i, ho with
                      | 0, ho =>
                        obtain rfl := Option.some.inj ho
                        have o6 : a.tmps.getD 6 undef = _ := old 6 (by kernel_rfl)
                        rw [if_pos (wanted_none rfl)]
                        refine grow_same (v := .int .i64 ((p + 1 : Nat) : Int)) ?_ rfl
                        clear old dep ho hsz hb
                        go_simp
                      | 1, ho =>
                        obtain rfl := Option.some.inj ho
                        have d0 : a.tmps.getD 77 undef = .int .i64 ((p + 1 : Nat) : Int) := dep 0 _ _ (by kernel_rfl) rfl rfl
                        have e0 : a.tmps[77]?.getD undef = _ := (Array.getD_eq_getD_getElem? ..).symm.trans d0
                        rw [if_pos (wanted_none rfl)]
                        refine grow_same (v := .bool true) ?_ rfl
                        clear old dep ho hsz hb
                        go_simp
                      | 2, ho =>
                        obtain rfl := Option.some.inj ho
                        have d1 : a.tmps.getD 78 undef = .bool true := dep 1 _ _ (by kernel_rfl) rfl rfl
                        have e1 : a.tmps[78]?.getD undef = _ := (Array.getD_eq_getD_getElem? ..).symm.trans d1
                        rw [if_pos (wanted_none rfl)]
                        refine grow_same (v := .bool true) ?_ rfl
                        clear old dep ho hsz hb
                        go_simp
                      | 3, ho =>
                        obtain rfl := Option.some.inj ho
                        have o3 : a.tmps.getD 3 undef = _ := old 3 (by kernel_rfl)
                        have d2 : a.tmps.getD 79 undef = .bool true := dep 2 _ _ (by kernel_rfl) rfl rfl
                        have e2 : a.tmps[79]?.getD undef = _ := (Array.getD_eq_getD_getElem? ..).symm.trans d2
                        rw [if_pos (wanted_some rfl rfl rfl (by rw [hsz]; exact of_decide_eq_true rfl) d2)]
                        refine grow_same (v := .slice (some ⟨g, 0, none⟩) N cap) ?_ rfl
                        clear old dep ho hsz hb
                        go_simp
                      | 4, ho =>
                        obtain rfl := Option.some.inj ho
                        have o6 : a.tmps.getD 6 undef = _ := old 6 (by kernel_rfl)
                        have d2 : a.tmps.getD 79 undef = .bool true := dep 2 _ _ (by kernel_rfl) rfl rfl
                        have e2 : a.tmps[79]?.getD undef = _ := (Array.getD_eq_getD_getElem? ..).symm.trans d2
                        rw [if_pos (wanted_some rfl rfl rfl (by rw [hsz]; exact of_decide_eq_true rfl) d2)]
                        refine grow_same (v := .int .i64 ((p + 1 : Nat) : Int)) ?_ rfl
                        clear old dep ho hsz hb
                        go_simp
                      | 5, ho =>
                        obtain rfl := Option.some.inj ho
                        have d4 : a.tmps.getD 81 undef = .int .i64 ((p + 1 : Nat) : Int) := dep 4 _ _ (by kernel_rfl) rfl rfl
                        have e4 : a.tmps[81]?.getD undef = _ := (Array.getD_eq_getD_getElem? ..).symm.trans d4
                        have d2 : a.tmps.getD 79 undef = .bool true := dep 2 _ _ (by kernel_rfl) rfl rfl
                        have e2 : a.tmps[79]?.getD undef = _ := (Array.getD_eq_getD_getElem? ..).symm.trans d2
                        rw [if_pos (wanted_some rfl rfl rfl (by rw [hsz]; exact of_decide_eq_true rfl) d2)]
                        refine grow_same (v := .int .i64 (p : Int)) ?_ rfl
                        clear old dep ho hsz hb
                        go_simp
                      | 6, ho =>
                        obtain rfl := Option.some.inj ho
                        have d3 : a.tmps.getD 80 undef = .slice (some ⟨g, 0, none⟩) N cap := dep 3 _ _ (by kernel_rfl) rfl rfl
                        have e3 : a.tmps[80]?.getD undef = _ := (Array.getD_eq_getD_getElem? ..).symm.trans d3
                        have d5 : a.tmps.getD 82 undef = .int .i64 (p : Int) := dep 5 _ _ (by kernel_rfl) rfl rfl
                        have e5 : a.tmps[82]?.getD undef = _ := (Array.getD_eq_getD_getElem? ..).symm.trans d5
                        have d2 : a.tmps.getD 79 undef = .bool true := dep 2 _ _ (by kernel_rfl) rfl rfl
                        have e2 : a.tmps[79]?.getD undef = _ := (Array.getD_eq_getD_getElem? ..).symm.trans d2
                        rw [if_pos (wanted_some rfl rfl rfl (by rw [hsz]; exact of_decide_eq_true rfl) d2)]
                        refine grow_same (v := .pointer (some ⟨g, p * 3, none⟩)) ?_ rfl
                        clear old dep ho hsz hb
                        go_simp
                      | 7, ho =>
                        obtain rfl := Option.some.inj ho
                        have d6 : a.tmps.getD 83 undef = .pointer (some ⟨g, p * 3, none⟩) := dep 6 _ _ (by kernel_rfl) rfl rfl
                        have e6 : a.tmps[83]?.getD undef = _ := (Array.getD_eq_getD_getElem? ..).symm.trans d6
                        have d2 : a.tmps.getD 79 undef = .bool true := dep 2 _ _ (by kernel_rfl) rfl rfl
                        have e2 : a.tmps[79]?.getD undef = _ := (Array.getD_eq_getD_getElem? ..).symm.trans d2
                        rw [if_pos (wanted_some rfl rfl rfl (by rw [hsz]; exact of_decide_eq_true rfl) d2)]
                        have g0 := (hb.cell (p := ⟨g, p * 3, none⟩) HG.out).trans f0
                        have g1 := (hb.cell (p := ⟨g, p * 3 + 1, none⟩) HG.out).trans f1
                        have g2 := (hb.cell (p := ⟨g, p * 3 + 2, none⟩) HG.out).trans f2
                        refine grow_same (v := .agg #[.int .i64 y.t, .string y.k, .string y.v]) ?_ rfl
                        clear old dep ho hsz hb
                        go_simp
                      | 8, ho =>
                        obtain rfl := Option.some.inj ho
                        have o3 : a.tmps.getD 3 undef = _ := old 3 (by kernel_rfl)
                        have d2 : a.tmps.getD 79 undef = .bool true := dep 2 _ _ (by kernel_rfl) rfl rfl
                        have e2 : a.tmps[79]?.getD undef = _ := (Array.getD_eq_getD_getElem? ..).symm.trans d2
                        rw [if_pos (wanted_some rfl rfl rfl (by rw [hsz]; exact of_decide_eq_true rfl) d2)]
                        refine grow_same (v := .slice (some ⟨g, 0, none⟩) N cap) ?_ rfl
                        clear old dep ho hsz hb
                        go_simp
                      | 9, ho =>
                        obtain rfl := Option.some.inj ho
                        have o6 : a.tmps.getD 6 undef = _ := old 6 (by kernel_rfl)
                        have d2 : a.tmps.getD 79 undef = .bool true := dep 2 _ _ (by kernel_rfl) rfl rfl
                        have e2 : a.tmps[79]?.getD undef = _ := (Array.getD_eq_getD_getElem? ..).symm.trans d2
                        rw [if_pos (wanted_some rfl rfl rfl (by rw [hsz]; exact of_decide_eq_true rfl) d2)]
                        refine grow_same (v := .int .i64 ((p + 1 : Nat) : Int)) ?_ rfl
                        clear old dep ho hsz hb
                        go_simp
                      | 10, ho =>
                        obtain rfl := Option.some.inj ho
                        have d8 : a.tmps.getD 85 undef = .slice (some ⟨g, 0, none⟩) N cap := dep 8 _ _ (by kernel_rfl) rfl rfl
                        have e8 : a.tmps[85]?.getD undef = _ := (Array.getD_eq_getD_getElem? ..).symm.trans d8
                        have d9 : a.tmps.getD 86 undef = .int .i64 ((p + 1 : Nat) : Int) := dep 9 _ _ (by kernel_rfl) rfl rfl
                        have e9 : a.tmps[86]?.getD undef = _ := (Array.getD_eq_getD_getElem? ..).symm.trans d9
                        have d2 : a.tmps.getD 79 undef = .bool true := dep 2 _ _ (by kernel_rfl) rfl rfl
                        have e2 : a.tmps[79]?.getD undef = _ := (Array.getD_eq_getD_getElem? ..).symm.trans d2
                        rw [if_pos (wanted_some rfl rfl rfl (by rw [hsz]; exact of_decide_eq_true rfl) d2)]
                        refine grow_same (v := .pointer (some ⟨g, (p + 1) * 3, none⟩)) ?_ rfl
                        clear old dep ho hsz hb
                        go_simp
                      | 11, ho =>
                        obtain rfl := Option.some.inj ho
                        have d10 : a.tmps.getD 87 undef = .pointer (some ⟨g, (p + 1) * 3, none⟩) := dep 10 _ _ (by kernel_rfl) rfl rfl
                        have e10 : a.tmps[87]?.getD undef = _ := (Array.getD_eq_getD_getElem? ..).symm.trans d10
                        have d2 : a.tmps.getD 79 undef = .bool true := dep 2 _ _ (by kernel_rfl) rfl rfl
                        have e2 : a.tmps[79]?.getD undef = _ := (Array.getD_eq_getD_getElem? ..).symm.trans d2
                        rw [if_pos (wanted_some rfl rfl rfl (by rw [hsz]; exact of_decide_eq_true rfl) d2)]
                        have g0 := (hb.cell (p := ⟨g, (p + 1) * 3, none⟩) HG.out).trans c0
                        have g1 := (hb.cell (p := ⟨g, (p + 1) * 3 + 1, none⟩) HG.out).trans c1
                        have g2 := (hb.cell (p := ⟨g, (p + 1) * 3 + 2, none⟩) HG.out).trans c2
                        refine grow_same (v := .agg #[.int .i64 x.t, .string x.k, .string x.v]) ?_ rfl
                        clear old dep ho hsz hb
                        go_simp
                      | 12, ho =>
                        obtain rfl := Option.some.inj ho
                        have d7 : a.tmps.getD 84 undef = .agg #[.int .i64 y.t, .string y.k, .string y.v] := dep 7 _ _ (by kernel_rfl) rfl rfl
                        have e7 : a.tmps[84]?.getD undef = _ := (Array.getD_eq_getD_getElem? ..).symm.trans d7
                        have d11 : a.tmps.getD 88 undef = .agg #[.int .i64 x.t, .string x.k, .string x.v] := dep 11 _ _ (by kernel_rfl) rfl rfl
                        have e11 : a.tmps[88]?.getD undef = _ := (Array.getD_eq_getD_getElem? ..).symm.trans d11
                        have d2 : a.tmps.getD 79 undef = .bool true := dep 2 _ _ (by kernel_rfl) rfl rfl
                        have e2 : a.tmps[79]?.getD undef = _ := (Array.getD_eq_getD_getElem? ..).symm.trans d2
                        rw [if_pos (wanted_some rfl rfl rfl (by rw [hsz]; exact of_decide_eq_true rfl) d2)]
                        refine grow_enters (f := 18) (args := #[.agg #[.int .i64 y.t, .string y.k, .string y.v], .agg #[.int .i64 x.t, .string x.k, .string x.v]]) ?_ (grow_is (HLT2.out _))
                        clear old dep ho hsz hb
                        go_simp
                      | 13, ho =>
                        obtain rfl := Option.some.inj ho
                        have d12 : a.tmps.getD 89 undef = .bool false := dep 12 _ _ (by kernel_rfl) rfl rfl
                        have e12 : a.tmps[89]?.getD undef = _ := (Array.getD_eq_getD_getElem? ..).symm.trans d12
                        have d2 : a.tmps.getD 79 undef = .bool true := dep 2 _ _ (by kernel_rfl) rfl rfl
                        have e2 : a.tmps[79]?.getD undef = _ := (Array.getD_eq_getD_getElem? ..).symm.trans d2
                        rw [if_pos (wanted_some rfl rfl rfl (by rw [hsz]; exact of_decide_eq_true rfl) d2)]
                        refine grow_same (v := .bool true) ?_ rfl
                        clear old dep ho hsz hb
                        go_simp
                      | 14, ho =>
                        obtain rfl := Option.some.inj ho
                        have d2 : a.tmps.getD 79 undef = .bool true := dep 2 _ _ (by kernel_rfl) rfl rfl
                        have e2 : a.tmps[79]?.getD undef = _ := (Array.getD_eq_getD_getElem? ..).symm.trans d2
                        have d13 : a.tmps.getD 90 undef = .bool true := dep 13 _ _ (by kernel_rfl) rfl rfl
                        have e13 : a.tmps[90]?.getD undef = _ := (Array.getD_eq_getD_getElem? ..).symm.trans d13
                        rw [if_pos (wanted_none rfl)]
                        refine grow_same (v := .bool true) ?_ rfl
                        clear old dep ho hsz hb
                        go_simp
                      | i + 15, ho => exact absurd ho (by simp)
                    · intro a wB hb hsz hdf fin keep
                      obtain ⟨tm, df⟩ := a
                      have hx := frame_of [77, 78, 79, 80, 81, 82, 83, 84, 85, 86, 87, 88, 89, 90, 91] (by kernel_rfl) hsz keep
                      dsimp only at hdf hx
                      simp only [List.foldl_cons, List.foldl_nil] at hx
                      subst hdf
                      clear hsz keep
                      have kn : tm.getD 77 undef = .int .i64 ((p + 1 : Nat) : Int) := fin 0 _ _ rfl rfl
                      rw [kn] at hx
                      clear kn
                      have kn : tm.getD 78 undef = .bool true := fin 1 _ _ rfl rfl
                      rw [kn] at hx
                      clear kn
                      have kn : tm.getD 79 undef = .bool true := fin 2 _ _ rfl rfl
                      rw [kn] at hx
                      clear kn
                      have kn : tm.getD 80 undef = .slice (some ⟨g, 0, none⟩) N cap := fin 3 _ _ rfl rfl
                      rw [kn] at hx
                      clear kn
                      have kn : tm.getD 81 undef = .int .i64 ((p + 1 : Nat) : Int) := fin 4 _ _ rfl rfl
                      rw [kn] at hx
                      clear kn
                      have kn : tm.getD 82 undef = .int .i64 (p : Int) := fin 5 _ _ rfl rfl
                      rw [kn] at hx
                      clear kn
                      have kn : tm.getD 83 undef = .pointer (some ⟨g, p * 3, none⟩) := fin 6 _ _ rfl rfl
                      rw [kn] at hx
                      clear kn
                      have kn : tm.getD 84 undef = .agg #[.int .i64 y.t, .string y.k, .string y.v] := fin 7 _ _ rfl rfl
                      rw [kn] at hx
                      clear kn
                      have kn : tm.getD 85 undef = .slice (some ⟨g, 0, none⟩) N cap := fin 8 _ _ rfl rfl
                      rw [kn] at hx
                      clear kn
                      have kn : tm.getD 86 undef = .int .i64 ((p + 1 : Nat) : Int) := fin 9 _ _ rfl rfl
                      rw [kn] at hx
                      clear kn
                      have kn : tm.getD 87 undef = .pointer (some ⟨g, (p + 1) * 3, none⟩) := fin 10 _ _ rfl rfl
                      rw [kn] at hx
                      clear kn
                      have kn : tm.getD 88 undef = .agg #[.int .i64 x.t, .string x.k, .string x.v] := fin 11 _ _ rfl rfl
                      rw [kn] at hx
                      clear kn
                      have kn : tm.getD 89 undef = .bool false := fin 12 _ _ rfl rfl
                      rw [kn] at hx
                      clear kn
                      have kn : tm.getD 90 undef = .bool true := fin 13 _ _ rfl rfl
                      rw [kn] at hx
                      clear kn
                      have kn : tm.getD 91 undef = .bool true := fin 14 _ _ rfl rfl
                      rw [kn] at hx
                      clear kn
                      clear fin
                      simp only [List.setIfInBounds_toArray, List.set_cons_succ, List.set_cons_zero] at hx
                      subst hx
                      have hSQ := HSQ.out.below hb
                      clear HSQ hb c0 c1 c2 f0 f1 f2 HG
                      have HSQ := hide hSQ
                      clear hSQ
                      generalize wB = W at *
                      have z10 : IntKind.i64.wrap ((p : Int) + 1 + 1) = (p : Int) + 1 + 1 := by rw [IntKind.wrap_i64]; have := HN.out; have := HNF.out; omega
                      go_upto_region 12 with (fail)
                      refine region_last 7 99 [Say.is (.slice (some ⟨g, 0, none⟩) N cap), Say.is (.int .i64 ((p + 1 : Nat) : Int)), Say.is (.slice (some ⟨g, 0, none⟩) (p + 1) cap), Say.is (.slice (some ⟨g, 0, none⟩) N cap), Say.is (.int .i64 ((p + 1 : Nat) : Int)), Say.is (.int .i64 ((p + 1 + 1 : Nat) : Int)), Say.is (.slice (hiR (some ⟨g, 0, none⟩) cap (p + 1 + 1)) (N - (p + 1 + 1)) (cap - (p + 1 + 1)))] (fun v w' => Ow w (fun _ => False) w' [Res.row rwK v acc]) rfl rfl rfl (by kernel_rfl) (by kernel_rfl) (by kernel_rfl) (by kernel_rfl) (by kernel_rfl) ?_ ?_ ?_ ?_
                      · intro i o hik ho a w2 hb hsz old dep
                        match i, ho with
                        | 0, ho =>
                          obtain rfl := Option.some.inj ho
                          have o3 : a.tmps.getD 3 undef = _ := old 3 (by kernel_rfl)
                          rw [if_pos (wanted_none rfl)]
                          refine grow_same (v := .slice (some ⟨g, 0, none⟩) N cap) ?_ rfl
                          clear old dep ho hsz hb
                          go_simp
                        | 1, ho =>
                          obtain rfl := Option.some.inj ho
                          have o6 : a.tmps.getD 6 undef = _ := old 6 (by kernel_rfl)
                          rw [if_pos (wanted_none rfl)]
                          refine grow_same (v := .int .i64 ((p + 1 : Nat) : Int)) ?_ rfl
                          clear old dep ho hsz hb
                          go_simp
                        | 2, ho =>
                          obtain rfl := Option.some.inj ho
                          have d0 : a.tmps.getD 92 undef = .slice (some ⟨g, 0, none⟩) N cap := dep 0 _ _ (by kernel_rfl) rfl rfl
                          have e0 : a.tmps[92]?.getD undef = _ := (Array.getD_eq_getD_getElem? ..).symm.trans d0
                          have d1 : a.tmps.getD 93 undef = .int .i64 ((p + 1 : Nat) : Int) := dep 1 _ _ (by kernel_rfl) rfl rfl
                          have e1 : a.tmps[93]?.getD undef = _ := (Array.getD_eq_getD_getElem? ..).symm.trans d1
                          rw [if_pos (wanted_none rfl)]
                          refine grow_same (v := .slice (some ⟨g, 0, none⟩) (p + 1) cap) (exec_lowR (x := .tmp 92) (y := .tmp 93) (p + 1) rfl d0 d1 (by have := HN.out; have := HCAP.out; omega)) rfl
                        | 3, ho =>
                          obtain rfl := Option.some.inj ho
                          have o3 : a.tmps.getD 3 undef = _ := old 3 (by kernel_rfl)
                          rw [if_pos (wanted_none rfl)]
                          refine grow_same (v := .slice (some ⟨g, 0, none⟩) N cap) ?_ rfl
                          clear old dep ho hsz hb
                          go_simp
                        | 4, ho =>
                          obtain rfl := Option.some.inj ho
                          have o6 : a.tmps.getD 6 undef = _ := old 6 (by kernel_rfl)
                          rw [if_pos (wanted_none rfl)]
                          refine grow_same (v := .int .i64 ((p + 1 : Nat) : Int)) ?_ rfl
                          clear old dep ho hsz hb
                          go_simp
                        | 5, ho =>
                          obtain rfl := Option.some.inj ho
                          have d4 : a.tmps.getD 96 undef = .int .i64 ((p + 1 : Nat) : Int) := dep 4 _ _ (by kernel_rfl) rfl rfl
                          have e4 : a.tmps[96]?.getD undef = _ := (Array.getD_eq_getD_getElem? ..).symm.trans d4
                          rw [if_pos (wanted_none rfl)]
                          refine grow_same (v := .int .i64 ((p + 1 + 1 : Nat) : Int)) ?_ rfl
                          clear old dep ho hsz hb
                          go_simp
                        | 6, ho =>
                          obtain rfl := Option.some.inj ho
                          have d3 : a.tmps.getD 95 undef = .slice (some ⟨g, 0, none⟩) N cap := dep 3 _ _ (by kernel_rfl) rfl rfl
                          have e3 : a.tmps[95]?.getD undef = _ := (Array.getD_eq_getD_getElem? ..).symm.trans d3
                          have d5 : a.tmps.getD 97 undef = .int .i64 ((p + 1 + 1 : Nat) : Int) := dep 5 _ _ (by kernel_rfl) rfl rfl
                          have e5 : a.tmps[97]?.getD undef = _ := (Array.getD_eq_getD_getElem? ..).symm.trans d5
                          rw [if_pos (wanted_none rfl)]
                          refine grow_same (v := .slice (hiR (some ⟨g, 0, none⟩) cap (p + 1 + 1)) (N - (p + 1 + 1)) (cap - (p + 1 + 1))) (exec_highR (x := .tmp 95) (y := .tmp 97) (p + 1 + 1) rfl d3 d5 (by have := HN.out; omega) HCAP.out) rfl
                        | i + 7, ho => exact absurd hik (by omega)
                      · intro a w2 hb hsz old dep
                        have d2 : a.tmps.getD 94 undef = .slice (some ⟨g, 0, none⟩) (p + 1) cap := dep 2 _ _ (by kernel_rfl) rfl rfl
                        have e2 : a.tmps[94]?.getD undef = _ := (Array.getD_eq_getD_getElem? ..).symm.trans d2
                        have d6 : a.tmps.getD 98 undef = .slice (hiR (some ⟨g, 0, none⟩) cap (p + 1 + 1)) (N - (p + 1 + 1)) (cap - (p + 1 + 1)) := dep 6 _ _ (by kernel_rfl) rfl rfl
                        have e6 : a.tmps[98]?.getD undef = _ := (Array.getD_eq_getD_getElem? ..).symm.trans d6
                        have hs2 := HSQ.out.below hb
                        obtain ⟨v', w4, hrun, h1, h2, h3⟩ := del_run (hs2.krow (i := 0) rfl) (q := p + 1) (by have := HN.out; omega) (by have := HN.out; have := H30.out; omega) 22
                        rw [mid_out (by omega)] at h1
                        unfold Oper.wp
                        rw [exec_append_run (.tmp 94) (.tmp 98) 22 rfl d2 d6 hrun]
                        exact ⟨v', rfl, hs2.appended (i := 0) rfl h1 h2 h3⟩
                      · intro i o hki ho
                        have hin : i < 9 := (Array.getElem?_eq_some_iff.1 ho).1
                        obtain rfl : i = 8 := by omega
                        obtain rfl := Option.some.inj ho
                        refine ⟨rfl, fun a w => ?_⟩
                        rw [Array.getD_eq_getD_getElem?]
                        clear hki ho hin
                        go_simp
                      · intro a w5 v hR hsz hdf hk fin keep
                        obtain ⟨tm, df⟩ := a
                        have hx := frame_of [92, 93, 94, 95, 96, 97, 98, 99, 3] (by kernel_rfl) hsz keep
                        dsimp only at hdf hx hk
                        simp only [List.foldl_cons, List.foldl_nil] at hx
                        subst hdf
                        clear hsz keep
                        rw [hk] at hx
                        clear hk
                        generalize tm.getD 92 undef = y92 at hx
                        generalize tm.getD 93 undef = y93 at hx
                        generalize tm.getD 94 undef = y94 at hx
                        generalize tm.getD 95 undef = y95 at hx
                        generalize tm.getD 96 undef = y96 at hx
                        generalize tm.getD 97 undef = y97 at hx
                        generalize tm.getD 98 undef = y98 at hx
                        have kn : tm.getD 3 undef = v := fin 8 _ _ (by decide) rfl rfl
                        rw [kn] at hx
                        clear kn
                        clear fin
                        simp only [List.setIfInBounds_toArray, List.set_cons_succ, List.set_cons_zero] at hx
                        subst hx
                        have HSB := hide hR
                        obtain ⟨A5, c5, e5⟩ := (hR.krow (i := 0) rfl).form
                        generalize acc.length = n5 at e5
                        subst e5
                        go_wp2
                        go_roundw
                        case rel => exact ⟨j + 1, A5, n5, c5, acc, by have := HLT.out; omega, by go_num, rfl, HRIS, H30, HSB⟩
                        case measure => simp [intOf]; have := HLT.out; omega
                · rw [hl2] at HLT2
                  have HL2 : Hid (lessR y x = true) := hide hl2
                  clear hl hl2
                  refine region_grows [Say.is (.int .i64 ((p + 1 : Nat) : Int)), Say.is (.bool true), Say.is (.bool true), Say.is (.slice (some ⟨g, 0, none⟩) N cap), Say.is (.int .i64 ((p + 1 : Nat) : Int)), Say.is (.pointer (some ⟨g, (p + 1) * 3, none⟩)), Say.is (.agg #[.int .i64 x.t, .string x.k, .string x.v]), Say.is (.slice (some ⟨g, 0, none⟩) N cap), Say.is (.int .i64 ((p + 1 : Nat) : Int)), Say.is (.int .i64 (p : Int)), Say.is (.pointer (some ⟨g, p * 3, none⟩)), Say.is (.agg #[.int .i64 y.t, .string y.k, .string y.v]), Say.is (.bool false), Say.is (.bool false)] (by kernel_rfl) (by kernel_rfl) (by kernel_rfl) (by kernel_rfl) ?_ ?_
                  · intro i o ho a w2 hb hsz old dep
                    match i, ho with
                    | 0, ho =>
                      obtain rfl := Option.some.inj ho
                      have o6 : a.tmps.getD 6 undef = _ := old 6 (by kernel_rfl)
                      rw [if_pos (wanted_none rfl)]
                      refine grow_same (v := .int .i64 ((p + 1 : Nat) : Int)) ?_ rfl
                      clear old dep ho hsz hb
                      go_simp
                    | 1, ho =>
                      obtain rfl := Option.some.inj ho
                      have d0 : a.tmps.getD 45 undef = .int .i64 ((p + 1 : Nat) : Int) := dep 0 _ _ (by kernel_rfl) rfl rfl
                      have e0 : a.tmps[45]?.getD undef = _ := (Array.getD_eq_getD_getElem? ..).symm.trans d0
                      rw [if_pos (wanted_none rfl)]
                      refine grow_same (v := .bool true) ?_ rfl
                      clear old dep ho hsz hb
                      go_simp
                    | 2, ho =>
                      obtain rfl := Option.some.inj ho
                      have d1 : a.tmps.getD 46 undef = .bool true := dep 1 _ _ (by kernel_rfl) rfl rfl
                      have e1 : a.tmps[46]?.getD undef = _ := (Array.getD_eq_getD_getElem? ..).symm.trans d1
                      rw [if_pos (wanted_none rfl)]
                      refine grow_same (v := .bool true) ?_ rfl
                      clear old dep ho hsz hb
                      go_simp
                    | 3, ho =>
                      obtain rfl := Option.some.inj ho
                      have o3 : a.tmps.getD 3 undef = _ := old 3 (by kernel_rfl)
                      have d2 : a.tmps.getD 47 undef = .bool true := dep 2 _ _ (by kernel_rfl) rfl rfl
                      have e2 : a.tmps[47]?.getD undef = _ := (Array.getD_eq_getD_getElem? ..).symm.trans d2
                      rw [if_pos (wanted_some rfl rfl rfl (by rw [hsz]; exact of_decide_eq_true rfl) d2)]
                      refine grow_same (v := .slice (some ⟨g, 0, none⟩) N cap) ?_ rfl
                      clear old dep ho hsz hb
                      go_simp
                    | 4, ho =>
                      obtain rfl := Option.some.inj ho
                      have o6 : a.tmps.getD 6 undef = _ := old 6 (by kernel_rfl)
                      have d2 : a.tmps.getD 47 undef = .bool true := dep 2 _ _ (by kernel_rfl) rfl rfl
                      have e2 : a.tmps[47]?.getD undef = _ := (Array.getD_eq_getD_getElem? ..).symm.trans d2
                      rw [if_pos (wanted_some rfl rfl rfl (by rw [hsz]; exact of_decide_eq_true rfl) d2)]
                      refine grow_same (v := .int .i64 ((p + 1 : Nat) : Int)) ?_ rfl
                      clear old dep ho hsz hb
                      go_simp
                    | 5, ho =>
                      obtain rfl := Option.some.inj ho
                      have d3 : a.tmps.getD 48 undef = .slice (some ⟨g, 0, none⟩) N cap := dep 3 _ _ (by kernel_rfl) rfl rfl
                      have e3 : a.tmps[48]?.getD undef = _ := (Array.getD_eq_getD_getElem? ..).symm.trans d3
                      have d4 : a.tmps.getD 49 undef = .int .i64 ((p + 1 : Nat) : Int) := dep 4 _ _ (by kernel_rfl) rfl rfl
                      have e4 : a.tmps[49]?.getD undef = _ := (Array.getD_eq_getD_getElem? ..).symm.trans d4
                      have d2 : a.tmps.getD 47 undef = .bool true := dep 2 _ _ (by kernel_rfl) rfl rfl
                      have e2 : a.tmps[47]?.getD undef = _ := (Array.getD_eq_getD_getElem? ..).symm.trans d2
                      rw [if_pos (wanted_some rfl rfl rfl (by rw [hsz]; exact of_decide_eq_true rfl) d2)]
                      refine grow_same (v := .pointer (some ⟨g, (p + 1) * 3, none⟩)) ?_ rfl
                      clear old dep ho hsz hb
                      go_simp
                    | 6, ho =>
                      obtain rfl := Option.some.inj ho
                      have d5 : a.tmps.getD 50 undef = .pointer (some ⟨g, (p + 1) * 3, none⟩) := dep 5 _ _ (by kernel_rfl) rfl rfl
                      have e5 : a.tmps[50]?.getD undef = _ := (Array.getD_eq_getD_getElem? ..).symm.trans d5
                      have d2 : a.tmps.getD 47 undef = .bool true := dep 2 _ _ (by kernel_rfl) rfl rfl
                      have e2 : a.tmps[47]?.getD undef = _ := (Array.getD_eq_getD_getElem? ..).symm.trans d2
                      rw [if_pos (wanted_some rfl rfl rfl (by rw [hsz]; exact of_decide_eq_true rfl) d2)]
                      have g0 := (hb.cell (p := ⟨g, (p + 1) * 3, none⟩) HG.out).trans c0
                      have g1 := (hb.cell (p := ⟨g, (p + 1) * 3 + 1, none⟩) HG.out).trans c1
                      have g2 := (hb.cell (p := ⟨g, (p + 1) * 3 + 2, none⟩) HG.out).trans c2
                      refine grow_same (v := .agg #[.int .i64 x.t, .string x.k, .string x.v]) ?_ rfl
                      clear old dep ho hsz hb
                      go_simp
                    | 7, ho =>
                      obtain rfl := Option.some.inj ho
                      have o3 : a.tmps.getD 3 undef = _ := old 3 (by kernel_rfl)
                      have d2 : a.tmps.getD 47 undef = .bool true := dep 2 _ _ (by kernel_rfl) rfl rfl
                      have e2 : a.tmps[47]?.getD undef = _ := (Array.getD_eq_getD_getElem? ..).symm.trans d2
                      rw [if_pos (wanted_some rfl rfl rfl (by rw [hsz]; exact of_decide_eq_true rfl) d2)]
                      refine grow_same (v := .slice (some ⟨g, 0, none⟩) N cap) ?_ rfl
                      clear old dep ho hsz hb
                      go_simp
                    | 8, ho =>
                      obtain rfl := Option.some.inj ho
                      have o6 : a.tmps.getD 6 undef = _ := old 6 (by kernel_rfl)
                      have d2 : a.tmps.getD 47 undef = .bool true := dep 2 _ _ (by kernel_rfl) rfl rfl
                      have e2 : a.tmps[47]?.getD undef = _ := (Array.getD_eq_getD_getElem? ..).symm.trans d2
                      rw [if_pos (wanted_some rfl rfl rfl (by rw [hsz]; exact of_decide_eq_true rfl) d2)]
                      refine grow_same (v := .int .i64 ((p + 1 : Nat) : Int)) ?_ rfl
                      clear old dep ho hsz hb
                      go_simp
                    | 9, ho =>
                      obtain rfl := Option.some.inj ho
                      have d8 : a.tmps.getD 53 undef = .int .i64 ((p + 1 : Nat) : Int) := dep 8 _ _ (by kernel_rfl) rfl rfl
                      have e8 : a.tmps[53]?.getD undef = _ := (Array.getD_eq_getD_getElem? ..).symm.trans d8
                      have d2 : a.tmps.getD 47 undef = .bool true := dep 2 _ _ (by kernel_rfl) rfl rfl
                      have e2 : a.tmps[47]?.getD undef = _ := (Array.getD_eq_getD_getElem? ..).symm.trans d2
                      rw [if_pos (wanted_some rfl rfl rfl (by rw [hsz]; exact of_decide_eq_true rfl) d2)]
                      refine grow_same (v := .int .i64 (p : Int)) ?_ rfl
                      clear old dep ho hsz hb
                      go_simp
                    | 10, ho =>
                      obtain rfl := Option.some.inj ho
                      have d7 : a.tmps.getD 52 undef = .slice (some ⟨g, 0, none⟩) N cap := dep 7 _ _ (by kernel_rfl) rfl rfl
                      have e7 : a.tmps[52]?.getD undef = _ := (Array.getD_eq_getD_getElem? ..).symm.trans d7
                      have d9 : a.tmps.getD 54 undef = .int .i64 (p : Int) := dep 9 _ _ (by kernel_rfl) rfl rfl
                      have e9 : a.tmps[54]?.getD undef = _ := (Array.getD_eq_getD_getElem? ..).symm.trans d9
                      have d2 : a.tmps.getD 47 undef = .bool true := dep 2 _ _ (by kernel_rfl) rfl rfl
                      have e2 : a.tmps[47]?.getD undef = _ := (Array.getD_eq_getD_getElem? ..).symm.trans d2
                      rw [if_pos (wanted_some rfl rfl rfl (by rw [hsz]; exact of_decide_eq_true rfl) d2)]
                      refine grow_same (v := .pointer (some ⟨g, p * 3, none⟩)) ?_ rfl
                      clear old dep ho hsz hb
                      go_simp
                    | 11, ho =>
                      obtain rfl := Option.some.inj ho
                      have d10 : a.tmps.getD 55 undef = .pointer (some ⟨g, p * 3, none⟩) := dep 10 _ _ (by kernel_rfl) rfl rfl
                      have e10 : a.tmps[55]?.getD undef = _ := (Array.getD_eq_getD_getElem? ..).symm.trans d10
                      have d2 : a.tmps.getD 47 undef = .bool true := dep 2 _ _ (by kernel_rfl) rfl rfl
                      have e2 : a.tmps[47]?.getD undef = _ := (Array.getD_eq_getD_getElem? ..).symm.trans d2
                      rw [if_pos (wanted_some rfl rfl rfl (by rw [hsz]; exact of_decide_eq_true rfl) d2)]
                      have g0 := (hb.cell (p := ⟨g, p * 3, none⟩) HG.out).trans f0
                      have g1 := (hb.cell (p := ⟨g, p * 3 + 1, none⟩) HG.out).trans f1
                      have g2 := (hb.cell (p := ⟨g, p * 3 + 2, none⟩) HG.out).trans f2
                      refine grow_same (v := .agg #[.int .i64 y.t, .string y.k, .string y.v]) ?_ rfl
                      clear old dep ho hsz hb
                      go_simp
                    | 12, ho =>
                      obtain rfl := Option.some.inj ho
                      have d6 : a.tmps.getD 51 undef = .agg #[.int .i64 x.t, .string x.k, .string x.v] := dep 6 _ _ (by kernel_rfl) rfl rfl
                      have e6 : a.tmps[51]?.getD undef = _ := (Array.getD_eq_getD_getElem? ..).symm.trans d6
                      have d11 : a.tmps.getD 56 undef = .agg #[.int .i64 y.t, .string y.k, .string y.v] := dep 11 _ _ (by kernel_rfl) rfl rfl
                      have e11 : a.tmps[56]?.getD undef = _ := (Array.getD_eq_getD_getElem? ..).symm.trans d11
                      have d2 : a.tmps.getD 47 undef = .bool true := dep 2 _ _ (by kernel_rfl) rfl rfl
                      have e2 : a.tmps[47]?.getD undef = _ := (Array.getD_eq_getD_getElem? ..).symm.trans d2
                      rw [if_pos (wanted_some rfl rfl rfl (by rw [hsz]; exact of_decide_eq_true rfl) d2)]
                      refine grow_enters (f := 18) (args := #[.agg #[.int .i64 x.t, .string x.k, .string x.v], .agg #[.int .i64 y.t, .string y.k, .string y.v]]) ?_ (grow_is (HLS.out _))
                      clear old dep ho hsz hb
                      go_simp
                    | 13, ho =>
                      obtain rfl := Option.some.inj ho
                      have d2 : a.tmps.getD 47 undef = .bool true := dep 2 _ _ (by kernel_rfl) rfl rfl
                      have e2 : a.tmps[47]?.getD undef = _ := (Array.getD_eq_getD_getElem? ..).symm.trans d2
                      have d12 : a.tmps.getD 57 undef = .bool false := dep 12 _ _ (by kernel_rfl) rfl rfl
                      have e12 : a.tmps[57]?.getD undef = _ := (Array.getD_eq_getD_getElem? ..).symm.trans d12
                      rw [if_pos (wanted_none rfl)]
                      refine grow_same (v := .bool false) ?_ rfl
                      clear old dep ho hsz hb
                      go_simp
                    | i + 14, ho => exact absurd ho (by simp)
                  · intro a W hb hsz hdf fin keep
                    obtain ⟨tm, df⟩ := a
                    have hx := frame_of [45, 46, 47, 48, 49, 50, 51, 52, 53, 54, 55, 56, 57, 58] (by kernel_rfl) hsz keep
                    dsimp only at hdf hx
                    simp only [List.foldl_cons, List.foldl_nil] at hx
                    subst hdf
                    clear hsz keep
                    have kn : tm.getD 45 undef = .int .i64 ((p + 1 : Nat) : Int) := fin 0 _ _ rfl rfl
                    rw [kn] at hx
                    clear kn
                    have kn : tm.getD 46 undef = .bool true := fin 1 _ _ rfl rfl
                    rw [kn] at hx
                    clear kn
                    have kn : tm.getD 47 undef = .bool true := fin 2 _ _ rfl rfl
                    rw [kn] at hx
                    clear kn
                    have kn : tm.getD 48 undef = .slice (some ⟨g, 0, none⟩) N cap := fin 3 _ _ rfl rfl
                    rw [kn] at hx
                    clear kn
                    have kn : tm.getD 49 undef = .int .i64 ((p + 1 : Nat) : Int) := fin 4 _ _ rfl rfl
                    rw [kn] at hx
                    clear kn
                    have kn : tm.getD 50 undef = .pointer (some ⟨g, (p + 1) * 3, none⟩) := fin 5 _ _ rfl rfl
                    rw [kn] at hx
                    clear kn
                    have kn : tm.getD 51 undef = .agg #[.int .i64 x.t, .string x.k, .string x.v] := fin 6 _ _ rfl rfl
                    rw [kn] at hx
                    clear kn
                    have kn : tm.getD 52 undef = .slice (some ⟨g, 0, none⟩) N cap := fin 7 _ _ rfl rfl
                    rw [kn] at hx
                    clear kn
                    have kn : tm.getD 53 undef = .int .i64 ((p + 1 : Nat) : Int) := fin 8 _ _ rfl rfl
                    rw [kn] at hx
                    clear kn
                    have kn : tm.getD 54 undef = .int .i64 (p : Int) := fin 9 _ _ rfl rfl
                    rw [kn] at hx
                    clear kn
                    have kn : tm.getD 55 undef = .pointer (some ⟨g, p * 3, none⟩) := fin 10 _ _ rfl rfl
                    rw [kn] at hx
                    clear kn
                    have kn : tm.getD 56 undef = .agg #[.int .i64 y.t, .string y.k, .string y.v] := fin 11 _ _ rfl rfl
                    rw [kn] at hx
                    clear kn
                    have kn : tm.getD 57 undef = .bool false := fin 12 _ _ rfl rfl
                    rw [kn] at hx
                    clear kn
                    have kn : tm.getD 58 undef = .bool false := fin 13 _ _ rfl rfl
                    rw [kn] at hx
                    clear kn
                    clear fin
                    simp only [List.setIfInBounds_toArray, List.set_cons_succ, List.set_cons_zero] at hx
                    subst hx
                    have hSQ := HSQ.out.below hb
                    clear HSQ hb c0 c1 c2 f0 f1 f2 HG
                    have HSQ := hide hSQ
                    clear hSQ
                    obtain ⟨c0, c1, c2⟩ := row_at (HSQ.out.krow (i := 0) rfl) HM1.out
                    obtain ⟨f0, f1, f2⟩ := row_at (HSQ.out.krow (i := 0) rfl) HM0.out
                    have HG : Hid (g < W.heap.size) := hide ((HSQ.out.krow (i := 0) rfl).lt g rfl)
                    go_upto_region 11 with (fail)
                    refine region_grows [Say.is (.int .i64 ((p + 1 : Nat) : Int)), Say.is (.bool true), Say.is (.bool true), Say.is (.slice (some ⟨g, 0, none⟩) N cap), Say.is (.int .i64 ((p + 1 : Nat) : Int)), Say.is (.int .i64 (p : Int)), Say.is (.pointer (some ⟨g, p * 3, none⟩)), Say.is (.agg #[.int .i64 y.t, .string y.k, .string y.v]), Say.is (.slice (some ⟨g, 0, none⟩) N cap), Say.is (.int .i64 ((p + 1 : Nat) : Int)), Say.is (.pointer (some ⟨g, (p + 1) * 3, none⟩)), Say.is (.agg #[.int .i64 x.t, .string x.k, .string x.v]), Say.is (.bool true), Say.is (.bool false), Say.is (.bool false)] (by kernel_rfl) (by kernel_rfl) (by kernel_rfl) (by kernel_rfl) ?_ ?_
                    · intro i o ho a w2 hb hsz old dep
                      match i, ho with
                      | 0, ho =>
                        obtain rfl := Option.some.inj ho
                        have o6 : a.tmps.getD 6 undef = _ := old 6 (by kernel_rfl)
                        rw [if_pos (wanted_none rfl)]
                        refine grow_same (v := .int .i64 ((p + 1 : Nat) : Int)) ?_ rfl
                        clear old dep ho hsz hb
                        go_simp
                      | 1, ho =>
                        obtain rfl := Option.some.inj ho
                        have d0 : a.tmps.getD 77 undef = .int .i64 ((p + 1 : Nat) : Int) := dep 0 _ _ (by kernel_rfl) rfl rfl
                        have e0 : a.tmps[77]?.getD undef = _ := (Array.getD_eq_getD_getElem? ..).symm.trans d0
                        rw [if_pos (wanted_none rfl)]
                        refine grow_same (v := .bool true) ?_ rfl
                        clear old dep ho hsz hb
                        go_simp
                      | 2, ho =>
                        obtain rfl := Option.some.inj ho
                        have d1 : a.tmps.getD 78 undef = .bool true := dep 1 _ _ (by kernel_rfl) rfl rfl
                        have e1 : a.tmps[78]?.getD undef = _ := (Array.getD_eq_getD_getElem? ..).symm.trans d1
                        rw [if_pos (wanted_none rfl)]
                        refine grow_same (v := .bool true) ?_ rfl
                        clear old dep ho hsz hb
                        go_simp
                      | 3, ho =>
                        obtain rfl := Option.some.inj ho
                        have o3 : a.tmps.getD 3 undef = _ := old 3 (by kernel_rfl)
                        have d2 : a.tmps.getD 79 undef = .bool true := dep 2 _ _ (by kernel_rfl) rfl rfl
                        have e2 : a.tmps[79]?.getD undef = _ := (Array.getD_eq_getD_getElem? ..).symm.trans d2
                        rw [if_pos (wanted_some rfl rfl rfl (by rw [hsz]; exact of_decide_eq_true rfl) d2)]
                        refine grow_same (v := .slice (some ⟨g, 0, none⟩) N cap) ?_ rfl
                        clear old dep ho hsz hb
                        go_simp
                      | 4, ho =>
                        obtain rfl := Option.some.inj ho
                        have o6 : a.tmps.getD 6 undef = _ := old 6 (by kernel_rfl)
                        have d2 : a.tmps.getD 79 undef = .bool true := dep 2 _ _ (by kernel_rfl) rfl rfl
                        have e2 : a.tmps[79]?.getD undef = _ := (Array.getD_eq_getD_getElem? ..).symm.trans d2
                        rw [if_pos (wanted_some rfl rfl rfl (by rw [hsz]; exact of_decide_eq_true rfl) d2)]
                        refine grow_same (v := .int .i64 ((p + 1 : Nat) : Int)) ?_ rfl
                        clear old dep ho hsz hb
                        go_simp
                      | 5, ho =>
                        obtain rfl := Option.some.inj ho
                        have d4 : a.tmps.getD 81 undef = .int .i64 ((p + 1 : Nat) : Int) := dep 4 _ _ (by kernel_rfl) rfl rfl
                        have e4 : a.tmps[81]?.getD undef = _ := (Array.getD_eq_getD_getElem? ..).symm.trans d4
                        have d2 : a.tmps.getD 79 undef = .bool true := dep 2 _ _ (by kernel_rfl) rfl rfl
                        have e2 : a.tmps[79]?.getD undef = _ := (Array.getD_eq_getD_getElem? ..).symm.trans d2
                        rw [if_pos (wanted_some rfl rfl rfl (by rw [hsz]; exact of_decide_eq_true rfl) d2)]
                        refine grow_same (v := .int .i64 (p : Int)) ?_ rfl
                        clear old dep ho hsz hb
                        go_simp
                      | 6, ho =>
                        obtain rfl := Option.some.inj ho
                        have d3 : a.tmps.getD 80 undef = .slice (some ⟨g, 0, none⟩) N cap := dep 3 _ _ (by kernel_rfl) rfl rfl
                        have e3 : a.tmps[80]?.getD undef = _ := (Array.getD_eq_getD_getElem? ..).symm.trans d3
                        have d5 : a.tmps.getD 82 undef = .int .i64 (p : Int) := dep 5 _ _ (by kernel_rfl) rfl rfl
                        have e5 : a.tmps[82]?.getD undef = _ := (Array.getD_eq_getD_getElem? ..).symm.trans d5
                        have d2 : a.tmps.getD 79 undef = .bool true := dep 2 _ _ (by kernel_rfl) rfl rfl
                        have e2 : a.tmps[79]?.getD undef = _ := (Array.getD_eq_getD_getElem? ..).symm.trans d2
                        rw [if_pos (wanted_some rfl rfl rfl (by rw [hsz]; exact of_decide_eq_true rfl) d2)]
                        refine grow_same (v := .pointer (some ⟨g, p * 3, none⟩)) ?_ rfl
                        clear old dep ho hsz hb
                        go_simp
                      | 7, ho =>
                        obtain rfl := Option.some.inj ho
                        have d6 : a.tmps.getD 83 undef = .pointer (some ⟨g, p * 3, none⟩) := dep 6 _ _ (by kernel_rfl) rfl rfl
                        have e6 : a.tmps[83]?.getD undef = _ := (Array.getD_eq_getD_getElem? ..).symm.trans d6
                        have d2 : a.tmps.getD 79 undef = .bool true := dep 2 _ _ (by kernel_rfl) rfl rfl
                        have e2 : a.tmps[79]?.getD undef = _ := (Array.getD_eq_getD_getElem? ..).symm.trans d2
                        rw [if_pos (wanted_some rfl rfl rfl (by rw [hsz]; exact of_decide_eq_true rfl) d2)]
                        have g0 := (hb.cell (p := ⟨g, p * 3, none⟩) HG.out).trans f0
                        have g1 := (hb.cell (p := ⟨g, p * 3 + 1, none⟩) HG.out).trans f1
                        have g2 := (hb.cell (p := ⟨g, p * 3 + 2, none⟩) HG.out).trans f2
                        refine grow_same (v := .agg #[.int .i64 y.t, .string y.k, .string y.v]) ?_ rfl
                        clear old dep ho hsz hb
                        go_simp
                      | 8, ho =>
                        obtain rfl := Option.some.inj ho
                        have o3 : a.tmps.getD 3 undef = _ := old 3 (by kernel_rfl)
                        have d2 : a.tmps.getD 79 undef = .bool true := dep 2 _ _ (by kernel_rfl) rfl rfl
                        have e2 : a.tmps[79]?.getD undef = _ := (Array.getD_eq_getD_getElem? ..).symm.trans d2
                        rw [if_pos (wanted_some rfl rfl rfl (by rw [hsz]; exact of_decide_eq_true rfl) d2)]
                        refine grow_same (v := .slice (some ⟨g, 0, none⟩) N cap) ?_ rfl
                        clear old dep ho hsz hb
                        go_simp
                      | 9, ho =>
                        obtain rfl := Option.some.inj ho
                        have o6 : a.tmps.getD 6 undef = _ := old 6 (by kernel_rfl)
                        have d2 : a.tmps.getD 79 undef = .bool true := dep 2 _ _ (by kernel_rfl) rfl rfl
                        have e2 : a.tmps[79]?.getD undef = _ := (Array.getD_eq_getD_getElem? ..).symm.trans d2
                        rw [if_pos (wanted_some rfl rfl rfl (by rw [hsz]; exact of_decide_eq_true rfl) d2)]
                        refine grow_same (v := .int .i64 ((p + 1 : Nat) : Int)) ?_ rfl
                        clear old dep ho hsz hb
                        go_simp
                      | 10, ho =>
                        obtain rfl := Option.some.inj ho
                        have d8 : a.tmps.getD 85 undef = .slice (some ⟨g, 0, none⟩) N cap := dep 8 _ _ (by kernel_rfl) rfl rfl
                        have e8 : a.tmps[85]?.getD undef = _ := (Array.getD_eq_getD_getElem? ..).symm.trans d8
                        have d9 : a.tmps.getD 86 undef = .int .i64 ((p + 1 : Nat) : Int) := dep 9 _ _ (by kernel_rfl) rfl rfl
                        have e9 : a.tmps[86]?.getD undef = _ := (Array.getD_eq_getD_getElem? ..).symm.trans d9
                        have d2 : a.tmps.getD 79 undef = .bool true := dep 2 _ _ (by kernel_rfl) rfl rfl
                        have e2 : a.tmps[79]?.getD undef = _ := (Array.getD_eq_getD_getElem? ..).symm.trans d2
                        rw [if_pos (wanted_some rfl rfl rfl (by rw [hsz]; exact of_decide_eq_true rfl) d2)]
                        refine grow_same (v := .pointer (some ⟨g, (p + 1) * 3, none⟩)) ?_ rfl
                        clear old dep ho hsz hb
                        go_simp
                      | 11, ho =>
                        obtain rfl := Option.some.inj ho
                        have d10 : a.tmps.getD 87 undef = .pointer (some ⟨g, (p + 1) * 3, none⟩) := dep 10 _ _ (by kernel_rfl) rfl rfl
                        have e10 : a.tmps[87]?.getD undef = _ := (Array.getD_eq_getD_getElem? ..).symm.trans d10
                        have d2 : a.tmps.getD 79 undef = .bool true := dep 2 _ _ (by kernel_rfl) rfl rfl
                        have e2 : a.tmps[79]?.getD undef = _ := (Array.getD_eq_getD_getElem? ..).symm.trans d2
                        rw [if_pos (wanted_some rfl rfl rfl (by rw [hsz]; exact of_decide_eq_true rfl) d2)]
                        have g0 := (hb.cell (p := ⟨g, (p + 1) * 3, none⟩) HG.out).trans c0
                        have g1 := (hb.cell (p := ⟨g, (p + 1) * 3 + 1, none⟩) HG.out).trans c1
                        have g2 := (hb.cell (p := ⟨g, (p + 1) * 3 + 2, none⟩) HG.out).trans c2
                        refine grow_same (v := .agg #[.int .i64 x.t, .string x.k, .string x.v]) ?_ rfl
                        clear old dep ho hsz hb
                        go_simp
                      | 12, ho =>
                        obtain rfl := Option.some.inj ho
                        have d7 : a.tmps.getD 84 undef = .agg #[.int .i64 y.t, .string y.k, .string y.v] := dep 7 _ _ (by kernel_rfl) rfl rfl
                        have e7 : a.tmps[84]?.getD undef = _ := (Array.getD_eq_getD_getElem? ..).symm.trans d7
                        have d11 : a.tmps.getD 88 undef = .agg #[.int .i64 x.t, .string x.k, .string x.v] := dep 11 _ _ (by kernel_rfl) rfl rfl
                        have e11 : a.tmps[88]?.getD undef = _ := (Array.getD_eq_getD_getElem? ..).symm.trans d11
                        have d2 : a.tmps.getD 79 undef = .bool true := dep 2 _ _ (by kernel_rfl) rfl rfl
                        have e2 : a.tmps[79]?.getD undef = _ := (Array.getD_eq_getD_getElem? ..).symm.trans d2
                        rw [if_pos (wanted_some rfl rfl rfl (by rw [hsz]; exact of_decide_eq_true rfl) d2)]
                        refine grow_enters (f := 18) (args := #[.agg #[.int .i64 y.t, .string y.k, .string y.v], .agg #[.int .i64 x.t, .string x.k, .string x.v]]) ?_ (grow_is (HLT2.out _))
                        clear old dep ho hsz hb
                        go_simp
                      | 13, ho =>
                        obtain rfl := Option.some.inj ho
                        have d12 : a.tmps.getD 89 undef = .bool true := dep 12 _ _ (by kernel_rfl) rfl rfl
                        have e12 : a.tmps[89]?.getD undef = _ := (Array.getD_eq_getD_getElem? ..).symm.trans d12
                        have d2 : a.tmps.getD 79 undef = .bool true := dep 2 _ _ (by kernel_rfl) rfl rfl
                        have e2 : a.tmps[79]?.getD undef = _ := (Array.getD_eq_getD_getElem? ..).symm.trans d2
                        rw [if_pos (wanted_some rfl rfl rfl (by rw [hsz]; exact of_decide_eq_true rfl) d2)]
                        refine grow_same (v := .bool false) ?_ rfl
                        clear old dep ho hsz hb
                        go_simp
                      | 14, ho =>
                        obtain rfl := Option.some.inj ho
                        have d2 : a.tmps.getD 79 undef = .bool true := dep 2 _ _ (by kernel_rfl) rfl rfl
                        have e2 : a.tmps[79]?.getD undef = _ := (Array.getD_eq_getD_getElem? ..).symm.trans d2
                        have d13 : a.tmps.getD 90 undef = .bool false := dep 13 _ _ (by kernel_rfl) rfl rfl
                        have e13 : a.tmps[90]?.getD undef = _ := (Array.getD_eq_getD_getElem? ..).symm.trans d13
                        rw [if_pos (wanted_none rfl)]
                        refine grow_same (v := .bool false) ?_ rfl
                        clear old dep ho hsz hb
                        go_simp
                      | i + 15, ho => exact absurd ho (by simp)
                    · intro a wB hb hsz hdf fin keep
                      obtain ⟨tm, df⟩ := a
                      have hx := frame_of [77, 78, 79, 80, 81, 82, 83, 84, 85, 86, 87, 88, 89, 90, 91] (by kernel_rfl) hsz keep
                      dsimp only at hdf hx
                      simp only [List.foldl_cons, List.foldl_nil] at hx
                      subst hdf
                      clear hsz keep
                      have kn : tm.getD 77 undef = .int .i64 ((p + 1 : Nat) : Int) := fin 0 _ _ rfl rfl
                      rw [kn] at hx
                      clear kn
                      have kn : tm.getD 78 undef = .bool true := fin 1 _ _ rfl rfl
                      rw [kn] at hx
                      clear kn
                      have kn : tm.getD 79 undef = .bool true := fin 2 _ _ rfl rfl
                      rw [kn] at hx
                      clear kn
                      have kn : tm.getD 80 undef = .slice (some ⟨g, 0, none⟩) N cap := fin 3 _ _ rfl rfl
                      rw [kn] at hx
                      clear kn
                      have kn : tm.getD 81 undef = .int .i64 ((p + 1 : Nat) : Int) := fin 4 _ _ rfl rfl
                      rw [kn] at hx
                      clear kn
                      have kn : tm.getD 82 undef = .int .i64 (p : Int) := fin 5 _ _ rfl rfl
                      rw [kn] at hx
                      clear kn
                      have kn : tm.getD 83 undef = .pointer (some ⟨g, p * 3, none⟩) := fin 6 _ _ rfl rfl
                      rw [kn] at hx
                      clear kn
                      have kn : tm.getD 84 undef = .agg #[.int .i64 y.t, .string y.k, .string y.v] := fin 7 _ _ rfl rfl
                      rw [kn] at hx
                      clear kn
                      have kn : tm.getD 85 undef = .slice (some ⟨g, 0, none⟩) N cap := fin 8 _ _ rfl rfl
                      rw [kn] at hx
                      clear kn
                      have kn : tm.getD 86 undef = .int .i64 ((p + 1 : Nat) : Int) := fin 9 _ _ rfl rfl
                      rw [kn] at hx
                      clear kn
                      have kn : tm.getD 87 undef = .pointer (some ⟨g, (p + 1) * 3, none⟩) := fin 10 _ _ rfl rfl
                      rw [kn] at hx
                      clear kn
                      have kn : tm.getD 88 undef = .agg #[.int .i64 x.t, .string x.k, .string x.v] := fin 11 _ _ rfl rfl
                      rw [kn] at hx
                      clear kn
                      have kn : tm.getD 89 undef = .bool true := fin 12 _ _ rfl rfl
                      rw [kn] at hx
                      clear kn
                      have kn : tm.getD 90 undef = .bool false := fin 13 _ _ rfl rfl
                      rw [kn] at hx
                      clear kn
                      have kn : tm.getD 91 undef = .bool false := fin 14 _ _ rfl rfl
                      rw [kn] at hx
                      clear kn
                      clear fin
                      simp only [List.setIfInBounds_toArray, List.set_cons_succ, List.set_cons_zero] at hx
                      subst hx
                      have HSB := hide (HSQ.out.below hb)
                      clear hb
                      go_wp2
                      go_roundw
                      case rel => exact ⟨j + 1, (some ⟨g, 0, none⟩), N, cap, acc.take (p + 1) ++ x :: acc.drop (p + 1), by have := HLT.out; omega, by go_num, rfl, hide (Ris.put (by rw [List.take_append_drop]; exact HRIS.out) HOKX.out (fun z hz => by rw [last_at HAT.out] at hz; obtain rfl := Option.some.inj hz; exact HL2.out) hd.out), hide (by rw [mid_len (by omega)]; have := HNF.out; omega), HSB⟩
                      case measure => simp [intOf]; have := HLT.out; omega
              · rw [hl] at HLS
                have HDN : Hid (∀ b, (acc.drop p).head? = some b → lessR x b = true) := hide (fun b hb => by
                  rw [List.head?_drop, HAT.out] at hb
                  obtain rfl := Option.some.inj hb
                  exact hl)
                clear hl
                refine region_grows [Say.is (.int .i64 ((p + 1 : Nat) : Int)), Say.is (.bool true), Say.is (.bool true), Say.is (.slice (some ⟨g, 0, none⟩) N cap), Say.is (.int .i64 ((p + 1 : Nat) : Int)), Say.is (.pointer (some ⟨g, (p + 1) * 3, none⟩)), Say.is (.agg #[.int .i64 x.t, .string x.k, .string x.v]), Say.is (.slice (some ⟨g, 0, none⟩) N cap), Say.is (.int .i64 ((p + 1 : Nat) : Int)), Say.is (.int .i64 (p : Int)), Say.is (.pointer (some ⟨g, p * 3, none⟩)), Say.is (.agg #[.int .i64 y.t, .string y.k, .string y.v]), Say.is (.bool true), Say.is (.bool true)] (by kernel_rfl) (by kernel_rfl) (by kernel_rfl) (by kernel_rfl) ?_ ?_
                · intro i o ho a w2 hb hsz old dep
                  match i, ho with
                  | 0, ho =>
                    obtain rfl := Option.some.inj ho
                    have o6 : a.tmps.getD 6 undef = _ := old 6 (by kernel_rfl)
                    rw [if_pos (wanted_none rfl)]
                    refine grow_same (v := .int .i64 ((p + 1 : Nat) : Int)) ?_ rfl
                    clear old dep ho hsz hb
                    go_simp
                  | 1, ho =>
                    obtain rfl := Option.some.inj ho
                    have d0 : a.tmps.getD 45 undef = .int .i64 ((p + 1 : Nat) : Int) := dep 0 _ _ (by kernel_rfl) rfl rfl
                    have e0 : a.tmps[45]?.getD undef = _ := (Array.getD_eq_getD_getElem? ..).symm.trans d0
                    rw [if_pos (wanted_none rfl)]
                    refine grow_same (v := .bool true) ?_ rfl
                    clear old dep ho hsz hb
                    go_simp
                  | 2, ho =>
                    obtain rfl := Option.some.inj ho
                    have d1 : a.tmps.getD 46 undef = .bool true := dep 1 _ _ (by kernel_rfl) rfl rfl
                    have e1 : a.tmps[46]?.getD undef = _ := (Array.getD_eq_getD_getElem? ..).symm.trans d1
                    rw [if_pos (wanted_none rfl)]
                    refine grow_same (v := .bool true) ?_ rfl
                    clear old dep ho hsz hb
                    go_simp
                  | 3, ho =>
                    obtain rfl := Option.some.inj ho
                    have o3 : a.tmps.getD 3 undef = _ := old 3 (by kernel_rfl)
                    have d2 : a.tmps.getD 47 undef = .bool true := dep 2 _ _ (by kernel_rfl) rfl rfl
                    have e2 : a.tmps[47]?.getD undef = _ := (Array.getD_eq_getD_getElem? ..).symm.trans d2
                    rw [if_pos (wanted_some rfl rfl rfl (by rw [hsz]; exact of_decide_eq_true rfl) d2)]
                    refine grow_same (v := .slice (some ⟨g, 0, none⟩) N cap) ?_ rfl
                    clear old dep ho hsz hb
                    go_simp
                  | 4, ho =>
                    obtain rfl := Option.some.inj ho
                    have o6 : a.tmps.getD 6 undef = _ := old 6 (by kernel_rfl)
                    have d2 : a.tmps.getD 47 undef = .bool true := dep 2 _ _ (by kernel_rfl) rfl rfl
                    have e2 : a.tmps[47]?.getD undef = _ := (Array.getD_eq_getD_getElem? ..).symm.trans d2
                    rw [if_pos (wanted_some rfl rfl rfl (by rw [hsz]; exact of_decide_eq_true rfl) d2)]
                    refine grow_same (v := .int .i64 ((p + 1 : Nat) : Int)) ?_ rfl
                    clear old dep ho hsz hb
                    go_simp
                  | 5, ho =>
                    obtain rfl := Option.some.inj ho
                    have d3 : a.tmps.getD 48 undef = .slice (some ⟨g, 0, none⟩) N cap := dep 3 _ _ (by kernel_rfl) rfl rfl
                    have e3 : a.tmps[48]?.getD undef = _ := (Array.getD_eq_getD_getElem? ..).symm.trans d3
                    have d4 : a.tmps.getD 49 undef = .int .i64 ((p + 1 : Nat) : Int) := dep 4 _ _ (by kernel_rfl) rfl rfl
                    have e4 : a.tmps[49]?.getD undef = _ := (Array.getD_eq_getD_getElem? ..).symm.trans d4
                    have d2 : a.tmps.getD 47 undef = .bool true := dep 2 _ _ (by kernel_rfl) rfl rfl
                    have e2 : a.tmps[47]?.getD undef = _ := (Array.getD_eq_getD_getElem? ..).symm.trans d2
                    rw [if_pos (wanted_some rfl rfl rfl (by rw [hsz]; exact of_decide_eq_true rfl) d2)]
                    refine grow_same (v := .pointer (some ⟨g, (p + 1) * 3, none⟩)) ?_ rfl
                    clear old dep ho hsz hb
                    go_simp
                  | 6, ho =>
                    obtain rfl := Option.some.inj ho
                    have d5 : a.tmps.getD 50 undef = .pointer (some ⟨g, (p + 1) * 3, none⟩) := dep 5 _ _ (by kernel_rfl) rfl rfl
                    have e5 : a.tmps[50]?.getD undef = _ := (Array.getD_eq_getD_getElem? ..).symm.trans d5
                    have d2 : a.tmps.getD 47 undef = .bool true := dep 2 _ _ (by kernel_rfl) rfl rfl
                    have e2 : a.tmps[47]?.getD undef = _ := (Array.getD_eq_getD_getElem? ..).symm.trans d2
                    rw [if_pos (wanted_some rfl rfl rfl (by rw [hsz]; exact of_decide_eq_true rfl) d2)]
                    have g0 := (hb.cell (p := ⟨g, (p + 1) * 3, none⟩) HG.out).trans c0
                    have g1 := (hb.cell (p := ⟨g, (p + 1) * 3 + 1, none⟩) HG.out).trans c1
                    have g2 := (hb.cell (p := ⟨g, (p + 1) * 3 + 2, none⟩) HG.out).trans c2
                    refine grow_same (v := .agg #[.int .i64 x.t, .string x.k, .string x.v]) ?_ rfl
                    clear old dep ho hsz hb
                    go_simp
                  | 7, ho =>
                    obtain rfl := Option.some.inj ho
                    have o3 : a.tmps.getD 3 undef = _ := old 3 (by kernel_rfl)
                    have d2 : a.tmps.getD 47 undef = .bool true := dep 2 _ _ (by kernel_rfl) rfl rfl
                    have e2 : a.tmps[47]?.getD undef = _ := (Array.getD_eq_getD_getElem? ..).symm.trans d2
                    rw [if_pos (wanted_some rfl rfl rfl (by rw [hsz]; exact of_decide_eq_true rfl) d2)]
                    refine grow_same (v := .slice (some ⟨g, 0, none⟩) N cap) ?_ rfl
                    clear old dep ho hsz hb
                    go_simp
                  | 8, ho =>
                    obtain rfl := Option.some.inj ho
                    have o6 : a.tmps.getD 6 undef = _ := old 6 (by kernel_rfl)
                    have d2 : a.tmps.getD 47 undef = .bool true := dep 2 _ _ (by kernel_rfl) rfl rfl
                    have e2 : a.tmps[47]?.getD undef = _ := (Array.getD_eq_getD_getElem? ..).symm.trans d2
                    rw [if_pos (wanted_some rfl rfl rfl (by rw [hsz]; exact of_decide_eq_true rfl) d2)]
                    refine grow_same (v := .int .i64 ((p + 1 : Nat) : Int)) ?_ rfl
                    clear old dep ho hsz hb
                    go_simp
                  | 9, ho =>
                    obtain rfl := Option.some.inj ho
                    have d8 : a.tmps.getD 53 undef = .int .i64 ((p + 1 : Nat) : Int) := dep 8 _ _ (by kernel_rfl) rfl rfl
                    have e8 : a.tmps[53]?.getD undef = _ := (Array.getD_eq_getD_getElem? ..).symm.trans d8
                    have d2 : a.tmps.getD 47 undef = .bool true := dep 2 _ _ (by kernel_rfl) rfl rfl
                    have e2 : a.tmps[47]?.getD undef = _ := (Array.getD_eq_getD_getElem? ..).symm.trans d2
                    rw [if_pos (wanted_some rfl rfl rfl (by rw [hsz]; exact of_decide_eq_true rfl) d2)]
                    refine grow_same (v := .int .i64 (p : Int)) ?_ rfl
                    clear old dep ho hsz hb
                    go_simp
                  | 10, ho =>
                    obtain rfl := Option.some.inj ho
                    have d7 : a.tmps.getD 52 undef = .slice (some ⟨g, 0, none⟩) N cap := dep 7 _ _ (by kernel_rfl) rfl rfl
                    have e7 : a.tmps[52]?.getD undef = _ := (Array.getD_eq_getD_getElem? ..).symm.trans d7
                    have d9 : a.tmps.getD 54 undef = .int .i64 (p : Int) := dep 9 _ _ (by kernel_rfl) rfl rfl
                    have e9 : a.tmps[54]?.getD undef = _ := (Array.getD_eq_getD_getElem? ..).symm.trans d9
                    have d2 : a.tmps.getD 47 undef = .bool true := dep 2 _ _ (by kernel_rfl) rfl rfl
                    have e2 : a.tmps[47]?.getD undef = _ := (Array.getD_eq_getD_getElem? ..).symm.trans d2
                    rw [if_pos (wanted_some rfl rfl rfl (by rw [hsz]; exact of_decide_eq_true rfl) d2)]
                    refine grow_same (v := .pointer (some ⟨g, p * 3, none⟩)) ?_ rfl
                    clear old dep ho hsz hb
                    go_simp
                  | 11, ho =>
                    obtain rfl := Option.some.inj ho
                    have d10 : a.tmps.getD 55 undef = .pointer (some ⟨g, p * 3, none⟩) := dep 10 _ _ (by kernel_rfl) rfl rfl
                    have e10 : a.tmps[55]?.getD undef = _ := (Array.getD_eq_getD_getElem? ..).symm.trans d10
                    have d2 : a.tmps.getD 47 undef = .bool true := dep 2 _ _ (by kernel_rfl) rfl rfl
                    have e2 : a.tmps[47]?.getD undef = _ := (Array.getD_eq_getD_getElem? ..).symm.trans d2
                    rw [if_pos (wanted_some rfl rfl rfl (by rw [hsz]; exact of_decide_eq_true rfl) d2)]
                    have g0 := (hb.cell (p := ⟨g, p * 3, none⟩) HG.out).trans f0
                    have g1 := (hb.cell (p := ⟨g, p * 3 + 1, none⟩) HG.out).trans f1
                    have g2 := (hb.cell (p := ⟨g, p * 3 + 2, none⟩) HG.out).trans f2
                    refine grow_same (v := .agg #[.int .i64 y.t, .string y.k, .string y.v]) ?_ rfl
                    clear old dep ho hsz hb
                    go_simp
                  | 12, ho =>
                    obtain rfl := Option.some.inj ho
                    have d6 : a.tmps.getD 51 undef = .agg #[.int .i64 x.t, .string x.k, .string x.v] := dep 6 _ _ (by kernel_rfl) rfl rfl
                    have e6 : a.tmps[51]?.getD undef = _ := (Array.getD_eq_getD_getElem? ..).symm.trans d6
                    have d11 : a.tmps.getD 56 undef = .agg #[.int .i64 y.t, .string y.k, .string y.v] := dep 11 _ _ (by kernel_rfl) rfl rfl
                    have e11 : a.tmps[56]?.getD undef = _ := (Array.getD_eq_getD_getElem? ..).symm.trans d11
                    have d2 : a.tmps.getD 47 undef = .bool true := dep 2 _ _ (by kernel_rfl) rfl rfl
                    have e2 : a.tmps[47]?.getD undef = _ := (Array.getD_eq_getD_getElem? ..).symm.trans d2
                    rw [if_pos (wanted_some rfl rfl rfl (by rw [hsz]; exact of_decide_eq_true rfl) d2)]
                    refine grow_enters (f := 18) (args := #[.agg #[.int .i64 x.t, .string x.k, .string x.v], .agg #[.int .i64 y.t, .string y.k, .string y.v]]) ?_ (grow_is (HLS.out _))
                    clear old dep ho hsz hb
                    go_simp
                  | 13, ho =>
                    obtain rfl := Option.some.inj ho
                    have d2 : a.tmps.getD 47 undef = .bool true := dep 2 _ _ (by kernel_rfl) rfl rfl
                    have e2 : a.tmps[47]?.getD undef = _ := (Array.getD_eq_getD_getElem? ..).symm.trans d2
                    have d12 : a.tmps.getD 57 undef = .bool true := dep 12 _ _ (by kernel_rfl) rfl rfl
                    have e12 : a.tmps[57]?.getD undef = _ := (Array.getD_eq_getD_getElem? ..).symm.trans d12
                    rw [if_pos (wanted_none rfl)]
                    refine grow_same (v := .bool true) ?_ rfl
                    clear old dep ho hsz hb
                    go_simp
                  | i + 14, ho => exact absurd ho (by simp)
                · intro a W hb hsz hdf fin keep
                  obtain ⟨tm, df⟩ := a
                  have hx := frame_of [45, 46, 47, 48, 49, 50, 51, 52, 53, 54, 55, 56, 57, 58] (by kernel_rfl) hsz keep
                  dsimp only at hdf hx
                  simp only [List.foldl_cons, List.foldl_nil] at hx
                  subst hdf
                  clear hsz keep
                  have kn : tm.getD 45 undef = .int .i64 ((p + 1 : Nat) : Int) := fin 0 _ _ rfl rfl
                  rw [kn] at hx
                  clear kn
                  have kn : tm.getD 46 undef = .bool true := fin 1 _ _ rfl rfl
                  rw [kn] at hx
                  clear kn
                  have kn : tm.getD 47 undef = .bool true := fin 2 _ _ rfl rfl
                  rw [kn] at hx
                  clear kn
                  have kn : tm.getD 48 undef = .slice (some ⟨g, 0, none⟩) N cap := fin 3 _ _ rfl rfl
                  rw [kn] at hx
                  clear kn
                  have kn : tm.getD 49 undef = .int .i64 ((p + 1 : Nat) : Int) := fin 4 _ _ rfl rfl
                  rw [kn] at hx
                  clear kn
                  have kn : tm.getD 50 undef = .pointer (some ⟨g, (p + 1) * 3, none⟩) := fin 5 _ _ rfl rfl
                  rw [kn] at hx
                  clear kn
                  have kn : tm.getD 51 undef = .agg #[.int .i64 x.t, .string x.k, .string x.v] := fin 6 _ _ rfl rfl
                  rw [kn] at hx
                  clear kn
                  have kn : tm.getD 52 undef = .slice (some ⟨g, 0, none⟩) N cap := fin 7 _ _ rfl rfl
                  rw [kn] at hx
                  clear kn
                  have kn : tm.getD 53 undef = .int .i64 ((p + 1 : Nat) : Int) := fin 8 _ _ rfl rfl
                  rw [kn] at hx
                  clear kn
                  have kn : tm.getD 54 undef = .int .i64 (p : Int) := fin 9 _ _ rfl rfl
                  rw [kn] at hx
                  clear kn
                  have kn : tm.getD 55 undef = .pointer (some ⟨g, p * 3, none⟩) := fin 10 _ _ rfl rfl
                  rw [kn] at hx
                  clear kn
                  have kn : tm.getD 56 undef = .agg #[.int .i64 y.t, .string y.k, .string y.v] := fin 11 _ _ rfl rfl
                  rw [kn] at hx
                  clear kn
                  have kn : tm.getD 57 undef = .bool true := fin 12 _ _ rfl rfl
                  rw [kn] at hx
                  clear kn
                  have kn : tm.getD 58 undef = .bool true := fin 13 _ _ rfl rfl
                  rw [kn] at hx
                  clear kn
                  clear fin
                  simp only [List.setIfInBounds_toArray, List.set_cons_succ, List.set_cons_zero] at hx
                  subst hx
                  have hSQ := HSQ.out.below hb
                  clear HSQ hb c0 c1 c2 f0 f1 f2 HG
                  have HSQ := hide hSQ
                  clear hSQ
                  go_upto_region 10 with (fail)
                  have hr := HSQ.out.krow (i := 0) rfl
                  have HI := hide hr
                  have HLa := hide HM0.out
                  have HLx := hide HM1.out
                  have HI2 := hide (row_put3 hr (j := p + 1) (by rw [mid_len (by omega)]; omega) y)
                  have HLa2 : Hid (((acc.take (p + 1) ++ x :: acc.drop (p + 1)).set (p + 1) y)[p]? = some y) := hide (by rw [List.getElem?_set_ne (by omega)]; exact HM0.out)
                  have HI3 := hide (show rwK.Row (set3 (set3 W g ((p + 1) * 3) y) g (p * 3) x) (.slice (some ⟨g, 0, none⟩) N cap) (acc.take p ++ x :: acc.drop p) from by
                    have h := row_put3 HI2.out (j := p) (by rw [List.length_set, mid_len (by omega)]; omega) x
                    rw [swap_down14 HAT.out] at h
                    exact h)
                  clear hr
                  refine region_phases (ops := _) (valV [some (.slice (some ⟨g, 0, none⟩) N cap), some (.int .i64 ((p + 1 : Nat) : Int)), some (.slice (some ⟨g, 0, none⟩) N cap), some (.int .i64 ((p + 1 : Nat) : Int)), some (.int .i64 (p : Int)), some (.slice (some ⟨g, 0, none⟩) N cap), some (.int .i64 ((p + 1 : Nat) : Int)), some (.int .i64 (p : Int)), some (.pointer (some ⟨g, p * 3, none⟩)), some (.agg #[.int .i64 y.t, .string y.k, .string y.v]), some (.slice (some ⟨g, 0, none⟩) N cap), some (.int .i64 ((p + 1 : Nat) : Int)), some (.pointer (some ⟨g, (p + 1) * 3, none⟩)), some (.agg #[.int .i64 x.t, .string x.k, .string x.v]), some (.pointer (some ⟨g, (p + 1) * 3, none⟩)), none, some (.pointer (some ⟨g, p * 3, none⟩)), none]) (phased [⟨17, 16, fun _ w => Heaps (set3 (set3 W g ((p + 1) * 3) y) g (p * 3) x) w⟩, ⟨15, 14, fun _ w => Heaps (set3 W g ((p + 1) * 3) y) w⟩] (fun w => Heaps W w)) (by kernel_rfl) (by kernel_rfl) (by kernel_rfl) (by kernel_rfl) (phased_ext (by kernel_rfl)) ?_ ?_ ?_
                  · exact Heaps.drew W
                  · intro i o ho L a w2 hph hsz hLi hnot hyes old dep
                    match i, ho with
                    | 0, ho =>
                      obtain rfl := Option.some.inj ho
                      rw [if_pos (wanted_none rfl)]
                      have o3 := old 3 (by kernel_rfl)
                      refine wp_yields (v := .slice (some ⟨g, 0, none⟩) N cap) (w' := w2) ?_ (fun u hu => Option.some.inj (Option.some.inj hu)) (phased_quiet hLi (by rfl) hph)
                      clear dep old ho hsz hph hnot hyes hLi
                      go_simp
                    | 1, ho =>
                      obtain rfl := Option.some.inj ho
                      rw [if_pos (wanted_none rfl)]
                      have o6 := old 6 (by kernel_rfl)
                      refine wp_yields (v := .int .i64 ((p + 1 : Nat) : Int)) (w' := w2) ?_ (fun u hu => Option.some.inj (Option.some.inj hu)) (phased_quiet hLi (by rfl) hph)
                      clear dep old ho hsz hph hnot hyes hLi
                      go_simp
                    | 2, ho =>
                      obtain rfl := Option.some.inj ho
                      rw [if_pos (wanted_none rfl)]
                      have o3 := old 3 (by kernel_rfl)
                      refine wp_yields (v := .slice (some ⟨g, 0, none⟩) N cap) (w' := w2) ?_ (fun u hu => Option.some.inj (Option.some.inj hu)) (phased_quiet hLi (by rfl) hph)
                      clear dep old ho hsz hph hnot hyes hLi
                      go_simp
                    | 3, ho =>
                      obtain rfl := Option.some.inj ho
                      rw [if_pos (wanted_none rfl)]
                      have o6 := old 6 (by kernel_rfl)
                      refine wp_yields (v := .int .i64 ((p + 1 : Nat) : Int)) (w' := w2) ?_ (fun u hu => Option.some.inj (Option.some.inj hu)) (phased_quiet hLi (by rfl) hph)
                      clear dep old ho hsz hph hnot hyes hLi
                      go_simp
                    | 4, ho =>
                      obtain rfl := Option.some.inj ho
                      rw [if_pos (wanted_none rfl)]
                      have d3 : a.tmps.getD 64 undef = .int .i64 ((p + 1 : Nat) : Int) := dep 3 _ _ (by kernel_rfl) rfl rfl _ rfl
                      have e3 : a.tmps[64]?.getD undef = .int .i64 ((p + 1 : Nat) : Int) := (Array.getD_eq_getD_getElem? ..).symm.trans d3
                      refine wp_yields (v := .int .i64 (p : Int)) (w' := w2) ?_ (fun u hu => Option.some.inj (Option.some.inj hu)) (phased_quiet hLi (by rfl) hph)
                      clear dep old ho hsz hph hnot hyes hLi
                      go_simp
                    | 5, ho =>
                      obtain rfl := Option.some.inj ho
                      rw [if_pos (wanted_none rfl)]
                      have o3 := old 3 (by kernel_rfl)
                      refine wp_yields (v := .slice (some ⟨g, 0, none⟩) N cap) (w' := w2) ?_ (fun u hu => Option.some.inj (Option.some.inj hu)) (phased_quiet hLi (by rfl) hph)
                      clear dep old ho hsz hph hnot hyes hLi
                      go_simp
                    | 6, ho =>
                      obtain rfl := Option.some.inj ho
                      rw [if_pos (wanted_none rfl)]
                      have o6 := old 6 (by kernel_rfl)
                      refine wp_yields (v := .int .i64 ((p + 1 : Nat) : Int)) (w' := w2) ?_ (fun u hu => Option.some.inj (Option.some.inj hu)) (phased_quiet hLi (by rfl) hph)
                      clear dep old ho hsz hph hnot hyes hLi
                      go_simp
                    | 7, ho =>
                      obtain rfl := Option.some.inj ho
                      rw [if_pos (wanted_none rfl)]
                      have d6 : a.tmps.getD 67 undef = .int .i64 ((p + 1 : Nat) : Int) := dep 6 _ _ (by kernel_rfl) rfl rfl _ rfl
                      have e6 : a.tmps[67]?.getD undef = .int .i64 ((p + 1 : Nat) : Int) := (Array.getD_eq_getD_getElem? ..).symm.trans d6
                      refine wp_yields (v := .int .i64 (p : Int)) (w' := w2) ?_ (fun u hu => Option.some.inj (Option.some.inj hu)) (phased_quiet hLi (by rfl) hph)
                      clear dep old ho hsz hph hnot hyes hLi
                      go_simp
                    | 8, ho =>
                      obtain rfl := Option.some.inj ho
                      rw [if_pos (wanted_none rfl)]
                      have d5 : a.tmps.getD 66 undef = .slice (some ⟨g, 0, none⟩) N cap := dep 5 _ _ (by kernel_rfl) rfl rfl _ rfl
                      have e5 : a.tmps[66]?.getD undef = .slice (some ⟨g, 0, none⟩) N cap := (Array.getD_eq_getD_getElem? ..).symm.trans d5
                      have d7 : a.tmps.getD 68 undef = .int .i64 (p : Int) := dep 7 _ _ (by kernel_rfl) rfl rfl _ rfl
                      have e7 : a.tmps[68]?.getD undef = .int .i64 (p : Int) := (Array.getD_eq_getD_getElem? ..).symm.trans d7
                      refine wp_yields (v := .pointer (some ⟨g, p * 3, none⟩)) (w' := w2) ?_ (fun u hu => Option.some.inj (Option.some.inj hu)) (phased_quiet hLi (by rfl) hph)
                      clear dep old ho hsz hph hnot hyes hLi
                      go_simp
                    | 9, ho =>
                      obtain rfl := Option.some.inj ho
                      rw [if_pos (wanted_none rfl)]
                      have d8 : a.tmps.getD 69 undef = .pointer (some ⟨g, p * 3, none⟩) := dep 8 _ _ (by kernel_rfl) rfl rfl _ rfl
                      have e8 : a.tmps[69]?.getD undef = .pointer (some ⟨g, p * 3, none⟩) := (Array.getD_eq_getD_getElem? ..).symm.trans d8
                      have hA : Heaps W w2 := phased_first (fun p hp => by simp only [List.mem_cons, List.not_mem_nil, or_false] at hp; rcases hp with rfl | rfl; exact hnot 17 (by kernel_rfl); exact hnot 15 (by kernel_rfl)) hph
                      obtain ⟨c0, c1, c2⟩ := row_at (HI.out.below hA.below) HLa.out
                      refine wp_yields (v := .agg #[.int .i64 y.t, .string y.k, .string y.v]) (w' := w2) ?_ (fun u hu => Option.some.inj (Option.some.inj hu)) (phased_quiet hLi (by rfl) hph)
                      clear dep old ho hsz hph hnot hyes hLi hA
                      go_simp
                    | 10, ho =>
                      obtain rfl := Option.some.inj ho
                      rw [if_pos (wanted_none rfl)]
                      have o3 := old 3 (by kernel_rfl)
                      refine wp_yields (v := .slice (some ⟨g, 0, none⟩) N cap) (w' := w2) ?_ (fun u hu => Option.some.inj (Option.some.inj hu)) (phased_quiet hLi (by rfl) hph)
                      clear dep old ho hsz hph hnot hyes hLi
                      go_simp
                    | 11, ho =>
                      obtain rfl := Option.some.inj ho
                      rw [if_pos (wanted_none rfl)]
                      have o6 := old 6 (by kernel_rfl)
                      refine wp_yields (v := .int .i64 ((p + 1 : Nat) : Int)) (w' := w2) ?_ (fun u hu => Option.some.inj (Option.some.inj hu)) (phased_quiet hLi (by rfl) hph)
                      clear dep old ho hsz hph hnot hyes hLi
                      go_simp
                    | 12, ho =>
                      obtain rfl := Option.some.inj ho
                      rw [if_pos (wanted_none rfl)]
                      have d10 : a.tmps.getD 71 undef = .slice (some ⟨g, 0, none⟩) N cap := dep 10 _ _ (by kernel_rfl) rfl rfl _ rfl
                      have e10 : a.tmps[71]?.getD undef = .slice (some ⟨g, 0, none⟩) N cap := (Array.getD_eq_getD_getElem? ..).symm.trans d10
                      have d11 : a.tmps.getD 72 undef = .int .i64 ((p + 1 : Nat) : Int) := dep 11 _ _ (by kernel_rfl) rfl rfl _ rfl
                      have e11 : a.tmps[72]?.getD undef = .int .i64 ((p + 1 : Nat) : Int) := (Array.getD_eq_getD_getElem? ..).symm.trans d11
                      refine wp_yields (v := .pointer (some ⟨g, (p + 1) * 3, none⟩)) (w' := w2) ?_ (fun u hu => Option.some.inj (Option.some.inj hu)) (phased_quiet hLi (by rfl) hph)
                      clear dep old ho hsz hph hnot hyes hLi
                      go_simp
                    | 13, ho =>
                      obtain rfl := Option.some.inj ho
                      rw [if_pos (wanted_none rfl)]
                      have d12 : a.tmps.getD 73 undef = .pointer (some ⟨g, (p + 1) * 3, none⟩) := dep 12 _ _ (by kernel_rfl) rfl rfl _ rfl
                      have e12 : a.tmps[73]?.getD undef = .pointer (some ⟨g, (p + 1) * 3, none⟩) := (Array.getD_eq_getD_getElem? ..).symm.trans d12
                      have hA : Heaps W w2 := phased_first (fun p hp => by simp only [List.mem_cons, List.not_mem_nil, or_false] at hp; rcases hp with rfl | rfl; exact hnot 17 (by kernel_rfl); exact hnot 15 (by kernel_rfl)) hph
                      obtain ⟨c0, c1, c2⟩ := row_at (HI.out.below hA.below) HLx.out
                      refine wp_yields (v := .agg #[.int .i64 x.t, .string x.k, .string x.v]) (w' := w2) ?_ (fun u hu => Option.some.inj (Option.some.inj hu)) (phased_quiet hLi (by rfl) hph)
                      clear dep old ho hsz hph hnot hyes hLi hA
                      go_simp
                    | 14, ho =>
                      obtain rfl := Option.some.inj ho
                      rw [if_pos (wanted_none rfl)]
                      have d0 : a.tmps.getD 61 undef = .slice (some ⟨g, 0, none⟩) N cap := dep 0 _ _ (by kernel_rfl) rfl rfl _ rfl
                      have e0 : a.tmps[61]?.getD undef = .slice (some ⟨g, 0, none⟩) N cap := (Array.getD_eq_getD_getElem? ..).symm.trans d0
                      have d1 : a.tmps.getD 62 undef = .int .i64 ((p + 1 : Nat) : Int) := dep 1 _ _ (by kernel_rfl) rfl rfl _ rfl
                      have e1 : a.tmps[62]?.getD undef = .int .i64 ((p + 1 : Nat) : Int) := (Array.getD_eq_getD_getElem? ..).symm.trans d1
                      refine wp_yields (v := .pointer (some ⟨g, (p + 1) * 3, none⟩)) (w' := w2) ?_ (fun u hu => Option.some.inj (Option.some.inj hu)) (phased_quiet hLi (by rfl) hph)
                      clear dep old ho hsz hph hnot hyes hLi
                      go_simp
                    | 15, ho =>
                      obtain rfl := Option.some.inj ho
                      rw [if_pos (wanted_none rfl)]
                      have d9 : a.tmps.getD 70 undef = .agg #[.int .i64 y.t, .string y.k, .string y.v] := dep 9 _ _ (by kernel_rfl) rfl rfl _ rfl
                      have e9 : a.tmps[70]?.getD undef = .agg #[.int .i64 y.t, .string y.k, .string y.v] := (Array.getD_eq_getD_getElem? ..).symm.trans d9
                      have d14 : a.tmps.getD 75 undef = .pointer (some ⟨g, (p + 1) * 3, none⟩) := dep 14 _ _ (by kernel_rfl) rfl rfl _ rfl
                      have e14 : a.tmps[75]?.getD undef = .pointer (some ⟨g, (p + 1) * 3, none⟩) := (Array.getD_eq_getD_getElem? ..).symm.trans d14
                      have hA : Heaps W w2 := phased_first (fun p hp => by simp only [List.mem_cons, List.not_mem_nil, or_false] at hp; rcases hp with rfl | rfl; exact hnot 17 (by kernel_rfl); exact hLi) hph
                      obtain ⟨c0, c1, c2⟩ := row_at (HI.out.below hA.below) HLx.out
                      have z0 := (HI.out.below hA.below).frozen ((p + 1) * 3)
                      have z1 := (HI.out.below hA.below).frozen ((p + 1) * 3 + 1)
                      have z2 := (HI.out.below hA.below).frozen ((p + 1) * 3 + 2)
                      refine wp_skips (w' := set3 w2 g ((p + 1) * 3) y) ?_ (fun u hu => by cases Option.some.inj hu) ?_
                      · clear dep old ho hsz hnot hyes hLi hph hA
                        unfold set3
                        go_simp
                      · unfold phased phased
                        rw [if_neg (by simp [also, hnot 17 (by kernel_rfl)]), if_pos (by simp [also])]
                        exact ⟨by simp [also, hyes 14 (by kernel_rfl)], hA.set3 _ _ _⟩
                    | 16, ho =>
                      obtain rfl := Option.some.inj ho
                      rw [if_pos (wanted_none rfl)]
                      have d2 : a.tmps.getD 63 undef = .slice (some ⟨g, 0, none⟩) N cap := dep 2 _ _ (by kernel_rfl) rfl rfl _ rfl
                      have e2 : a.tmps[63]?.getD undef = .slice (some ⟨g, 0, none⟩) N cap := (Array.getD_eq_getD_getElem? ..).symm.trans d2
                      have d4 : a.tmps.getD 65 undef = .int .i64 (p : Int) := dep 4 _ _ (by kernel_rfl) rfl rfl _ rfl
                      have e4 : a.tmps[65]?.getD undef = .int .i64 (p : Int) := (Array.getD_eq_getD_getElem? ..).symm.trans d4
                      refine wp_yields (v := .pointer (some ⟨g, p * 3, none⟩)) (w' := w2) ?_ (fun u hu => Option.some.inj (Option.some.inj hu)) (phased_quiet hLi (by rfl) hph)
                      clear dep old ho hsz hph hnot hyes hLi
                      go_simp
                    | 17, ho =>
                      obtain rfl := Option.some.inj ho
                      rw [if_pos (wanted_none rfl)]
                      have d13 : a.tmps.getD 74 undef = .agg #[.int .i64 x.t, .string x.k, .string x.v] := dep 13 _ _ (by kernel_rfl) rfl rfl _ rfl
                      have e13 : a.tmps[74]?.getD undef = .agg #[.int .i64 x.t, .string x.k, .string x.v] := (Array.getD_eq_getD_getElem? ..).symm.trans d13
                      have d16 : a.tmps.getD 76 undef = .pointer (some ⟨g, p * 3, none⟩) := dep 16 _ _ (by kernel_rfl) rfl rfl _ rfl
                      have e16 : a.tmps[76]?.getD undef = .pointer (some ⟨g, p * 3, none⟩) := (Array.getD_eq_getD_getElem? ..).symm.trans d16
                      unfold phased phased at hph
                      rw [if_neg (by rw [hLi]; decide), if_pos (hyes 15 (by kernel_rfl))] at hph
                      have hA : Heaps (set3 W g ((p + 1) * 3) y) w2 := hph.2
                      obtain ⟨c0, c1, c2⟩ := row_at (HI2.out.below hA.below) HLa2.out
                      have z0 := (HI2.out.below hA.below).frozen (p * 3)
                      have z1 := (HI2.out.below hA.below).frozen (p * 3 + 1)
                      have z2 := (HI2.out.below hA.below).frozen (p * 3 + 2)
                      refine wp_skips (w' := set3 w2 g (p * 3) x) ?_ (fun u hu => by cases Option.some.inj hu) ?_
                      · clear dep old ho hsz hnot hyes hLi hph hA
                        unfold set3
                        go_simp
                      · unfold phased
                        rw [if_pos (by simp [also])]
                        exact ⟨by simp [also, hyes 16 (by kernel_rfl)], hA.set3 _ _ _⟩
                    | i + 18, ho => exact absurd ho (by simp)
                  · intro a w2 hph hsz hdf fin keep
                    unfold phased at hph
                    rw [if_pos rfl] at hph
                    have HPH := hide (show Ow w (fun _ => False) w2 [Res.row rwK (.slice (some ⟨g, 0, none⟩) N cap) (acc.take p ++ x :: acc.drop p)] from by
                      have hK := (set3_kept W g ((p + 1) * 3) y).trans_same (set3_kept _ g (p * 3) x)
                      exact (HSQ.out.rowset (i := 0) rfl HI3.out (hK.mono (fun k e => .inl (by rw [e]; rfl))) (fun k e => e)).below hph.2.below)
                    obtain ⟨tm, df⟩ := a
                    dsimp only at hdf
                    subst hdf
                    have hx := frame_of [61, 62, 63, 64, 65, 66, 67, 68, 69, 70, 71, 72, 73, 74, 75, 76] (by kernel_rfl) hsz keep
                    dsimp only at hx
                    simp only [List.foldl_cons, List.foldl_nil] at hx
                    clear hsz keep hph fin
                    generalize tm.getD 61 undef = y61 at hx
                    generalize tm.getD 62 undef = y62 at hx
                    generalize tm.getD 63 undef = y63 at hx
                    generalize tm.getD 64 undef = y64 at hx
                    generalize tm.getD 65 undef = y65 at hx
                    generalize tm.getD 66 undef = y66 at hx
                    generalize tm.getD 67 undef = y67 at hx
                    generalize tm.getD 68 undef = y68 at hx
                    generalize tm.getD 69 undef = y69 at hx
                    generalize tm.getD 70 undef = y70 at hx
                    generalize tm.getD 71 undef = y71 at hx
                    generalize tm.getD 72 undef = y72 at hx
                    generalize tm.getD 73 undef = y73 at hx
                    generalize tm.getD 74 undef = y74 at hx
                    generalize tm.getD 75 undef = y75 at hx
                    generalize tm.getD 76 undef = y76 at hx
                    simp only [List.setIfInBounds_toArray, List.set_cons_succ, List.set_cons_zero] at hx
                    subst hx
                    clear HI HLa HLx HI2 HLa2 HI3
                    go_wp2
                    go_roundw
                    case rel => exact ⟨p, by omega, by first | rfl | go_num | simp, HDN, HPH⟩
                    case measure => simp [intOf]
    · have q1 : ¬ (j : Int) < (l.length : Int) := by omega
      go_wp2
      go_ret
      exact ⟨_, rfl, HPP.out _ _ acc HRIS.out H30.out hs.out⟩
end Go.Proofs.Ythkocbfioegcnaa
