/-
  RestartAgain's walk (written by r12/mkagain12.py).
-/
import Derived.Test.YtoifghofkjomnaaMute12
import Derived.BigQuiet
import Derived.Deep.CutBlock
namespace Go.Proofs.Ytoifghofkjomnaa
open Go.RowKit
set_option maxRecDepth 20000
set_option linter.unusedSimpArgs false
set_option linter.unusedVariables false

theorem and_u64 (x y : Int) : ∃ M : Nat, bits .and .u64 x y = (M : Int) := by
  refine ⟨(BitVec.ofInt 64 x &&& BitVec.ofInt 64 y).toNat, ?_⟩
  have h1 : bits .and .u64 x y = IntKind.u64.wrap (((BitVec.ofInt 64 x &&& BitVec.ofInt 64 y).toNat : Int)) := rfl
  rw [h1, IntKind.wrap_u64]
  have := (BitVec.ofInt 64 x &&& BitVec.ofInt 64 y).isLt
  omega
theorem an_all (HAN : AnSaid) {A0 W : World} {F0 : Nat → Prop} {L : List Res} {i : Nat} {v : Value} {es : List Ei} (h : Ow A0 F0 W L) (hi : L[i]? = some (Res.row eiK v es)) (hd : ∀ x ∈ es, DOk W x) (hl : es.length ≤ 1000) :
    Calls Try.prog 12 #[v] W fun e W' => ∃ (f5 : Nat) (A5 : Nat → Option Addr) (n5 c5 : Nat → Nat) (o5 : Nat → Bool), e = .returned (.agg #[.int .u64 (f5 : Int), .slice (A5 0) (n5 0) (c5 0), .slice (A5 1) (n5 1) (c5 1), .slice (A5 2) (n5 2) (c5 2), .slice (A5 3) (n5 3) (c5 3), .bool (o5 0), .bool (o5 1), .bool (o5 2), .bool (o5 3)]) ∧ Ow A0 F0 W' L := by
  refine (an_any HAN (h.krow hi) hd hl).mono ?_
  rintro e W' ⟨A, c, rfl, hb, hk⟩
  exact ⟨frP es, A, fun t => (loP es t).length, c, opP es, rfl, h.below hb⟩
theorem ag_any (HAG : AgSaid) (W : World) (f5 : Nat) (A5 : Nat → Option Addr) (n5 c5 : Nat → Nat) (o5 : Nat → Bool) (x : Ei) (M : Nat) (tb : Bool) {b : Bool} (hb : againB f5 x.r x.pl M tb = b) :
    Calls Try.prog 13 #[.agg #[.int .u64 (f5 : Int), .slice (A5 0) (n5 0) (c5 0), .slice (A5 1) (n5 1) (c5 1), .slice (A5 2) (n5 2) (c5 2), .slice (A5 3) (n5 3) (c5 3), .bool (o5 0), .bool (o5 1), .bool (o5 2), .bool (o5 3)], .agg #[.int .i64 (x.r.k : Int), .int .i64 (x.r.t : Int), .int .i64 (x.r.p : Int), .int .i64 (x.r.s : Int), .string x.r.b, .string x.r.a, .string x.r.i, .slice x.A x.r.ds.length x.c, .int .u64 (x.pl : Int)], .int .u64 (M : Int), .bool tb] W fun e W' => e = .returned (.bool b) ∧ Hid (Below W.heap.size W W') := by
  refine (HAG W f5 A5 n5 c5 o5 x M tb).mono ?_
  rintro e W' ⟨rfl, h⟩
  exact ⟨by rw [hb], hide h⟩
theorem ag_end (HAG : AgSaid) (W : World) (f5 : Nat) (A5 : Nat → Option Addr) (n5 c5 : Nat → Nat) (o5 : Nat → Bool) (tb : Bool) :
    Calls Try.prog 13 #[.agg #[.int .u64 (f5 : Int), .slice (A5 0) (n5 0) (c5 0), .slice (A5 1) (n5 1) (c5 1), .slice (A5 2) (n5 2) (c5 2), .slice (A5 3) (n5 3) (c5 3), .bool (o5 0), .bool (o5 1), .bool (o5 2), .bool (o5 3)], .agg #[.int .i64 5, .int .i64 0, .int .i64 0, .int .i64 0, .string ⟨#[]⟩, .string ⟨#[]⟩, .string ⟨#[]⟩, .slice none 0 0, .int .u64 1152921504606846976], .int .u64 0, .bool tb] W fun e W' => e = .returned (.bool false) ∧ Hid (Below W.heap.size W W') :=
  ag_any HAG W f5 A5 n5 c5 o5 ⟨⟨5, 0, 0, 0, ⟨#[]⟩, ⟨#[]⟩, ⟨#[]⟩, []⟩, 1152921504606846976, none, 0⟩ 0 tb (b := false) rfl
set_option maxHeartbeats 32000000 in
theorem again_t (HAN2 : Hid AnSaid) (HAG2 : Hid AgSaid) {v : Value} {l : List SeedD} {z : Int} {M : Nat} {w : World} (HV : Hid (SeedRow w w.heap.size v l)) (hlb : lightB l = true) (hq : bits .and .u64 z 1023 = (M : Int)) :
    Calls Try.prog 4 #[v, .int .u64 z, .bool true] w fun e w' => e = .returned (.bool true) ∧ Below w.heap.size w w' := by
  have HL := hide (lightB_iff.1 hlb).1
  go_enter Try.func4, Try.ntmps4
  go_wp2_with (first
    | (go_at_call 9; (with_reducible refine (fit_any HAN2.out _).mono ?_); rintro e w1 ⟨rfl, hb1⟩; have HB := hide hb1; have HK1 := hide (light_any ((SeedRow.below HV.out hb1).more hb1.size)); clear hb1; rw [hlb] at HK1)
    | (go_at_call 10; (with_reducible refine HK1.out.mono ?_); rintro e w2 ⟨rfl, hb2⟩; clear HK1; have HB := hide (HB.out.trans (hb2.mono HB.out.size)); clear hb2; have HK2 := hide (entries_any ((SeedRow.below HV.out HB.out).more HB.out.size) HL.out))
    | (go_at_call 11; (with_reducible refine HK2.out.mono ?_); rintro e w3 ⟨u, es, rfl, hes, hs⟩; clear HK2; obtain ⟨Au, cu, rfl⟩ := (hs.krow (i := 0) rfl).form
       have HLN := hide (show es.length ≤ 100 by rw [hes.len]; exact HL.out)
       have HKP := hide (an_all HAN2.out hs (i := 0) rfl (hs.dirt (i := 1) rfl) (by rw [hes.len]; have := HL.out; omega)); clear hs hes)
    | (go_at_call 12; (with_reducible refine HKP.out.mono ?_); rintro e w5 ⟨f5, A5, n5, c5, o5, rfl, h5⟩; clear HKP; have S5 := hide (h5.box 32 #[.int .u64 (f5 : Int), .slice (A5 0) (n5 0) (c5 0), .slice (A5 1) (n5 1) (c5 1), .slice (A5 2) (n5 2) (c5 2), .slice (A5 3) (n5 3) (c5 3), .bool (o5 0), .bool (o5 1), .bool (o5 2), .bool (o5 3)]); clear h5))
  go_loopw [25] (fun i wr => ∃ j : Nat, j ≤ es.length ∧ i = .int .i64 j ∧ Hid (Ow w2 (fun _ => False) wr [Res.row eiK (.slice Au es.length cu) es, Res.dirt es, Res.blk w5.heap.size 32 #[.int .u64 (f5 : Int), .slice (A5 0) (n5 0) (c5 0), .slice (A5 1) (n5 1) (c5 1), .slice (A5 2) (n5 2) (c5 2), .slice (A5 3) (n5 3) (c5 3), .bool (o5 0), .bool (o5 1), .bool (o5 2), .bool (o5 3)]])) (fun i _ => es.length - (intOf i).toNat)
  case atStart => exact ⟨0, by omega, rfl, S5⟩
  case round =>
    clear S5
    obtain ⟨j, hj, rfl, hs⟩ := hrel
    obtain ⟨p0, p1, p2, p3, p4, p5, p6, p7, p8⟩ := (hs.out.blk (i := 2) rfl).nine
    by_cases hlt : j < es.length
    · obtain ⟨x, hc⟩ : ∃ x, es[j]? = some x := ⟨_, List.getElem?_eq_getElem hlt⟩
      obtain ⟨b1, rfl, i0, i1, i2, i3, i4, i5, i6, i7, i8⟩ := hs.out.entry (i := 0) rfl hc
      have q0 : (0 : Int) ≤ (j : Int) := by omega
      have q1 : (j : Int) < (es.length : Int) := by omega
      have HLT := hide hlt
      have qn : (es.length : Int) ≤ 100 := by have := HLN.out; omega
      clear hlt hc
      have SB := hide (hs.out.box 40 #[.int .i64 (x.r.k : Int), .int .i64 (x.r.t : Int), .int .i64 (x.r.p : Int), .int .i64 (x.r.s : Int), .string x.r.b, .string x.r.a, .string x.r.i, .slice x.A x.r.ds.length x.c, .int .u64 (x.pl : Int)])
      obtain ⟨p0, p1, p2, p3, p4, p5, p6, p7, p8⟩ := (SB.out.blk (i := 2) rfl).nine
      by_cases k3 : x.r.k = 3
      · have g3 : ((x.r.k : Int) == 3) = true := by rw [k3]; rfl
        by_cases hf : f5 ≤ x.pl
        · have gf : (f5 : Int) ≤ (x.pl : Int) := by omega
          by_cases hi : 0 < x.r.i.size
          · have gi : (0 : Int) < (x.r.i.size : Int) := by omega
            have HKA : Hid (againB f5 x.r x.pl M true = true) := hide (by unfold againB; simp [k3, hf, hi])
            try clear hf
            try clear k4
            try clear k3
            go_wp2_with (go_at_call 13; (with_reducible refine (ag_any HAG2.out _ _ _ _ _ _ _ _ _ HKA.out).mono ?_); rintro e w9 ⟨rfl, hb9⟩; have SE := hide ((SB.out.below hb9.out).take 3); clear hb9)
            go_roundw
            case rel => exact ⟨j + 1, by have := HLT.out; omega, by go_num, SE⟩
            case measure => simp [intOf]; have := HLT.out; omega
          · have gi : ¬ (0 : Int) < (x.r.i.size : Int) := by omega
            have HKA : Hid (againB f5 x.r x.pl M true = false) := hide (by unfold againB; simp [k3, hf, hi])
            try clear hf
            try clear k4
            try clear k3
            go_wp2_with (go_at_call 13; (with_reducible refine (ag_any HAG2.out _ _ _ _ _ _ _ _ _ HKA.out).mono ?_); rintro e w9 ⟨rfl, hb9⟩; have SE := hide ((SB.out.below hb9.out).take 3); clear hb9)
            go_roundw
            case rel => exact ⟨j + 1, by have := HLT.out; omega, by go_num, SE⟩
            case measure => simp [intOf]; have := HLT.out; omega
        · have gf : ¬ (f5 : Int) ≤ (x.pl : Int) := by omega
          have HKA : Hid (againB f5 x.r x.pl M true = false) := hide (by unfold againB; simp [k3, hf])
          try clear hf
          try clear k4
          try clear k3
          go_wp2_with (go_at_call 13; (with_reducible refine (ag_any HAG2.out _ _ _ _ _ _ _ _ _ HKA.out).mono ?_); rintro e w9 ⟨rfl, hb9⟩; have SE := hide ((SB.out.below hb9.out).take 3); clear hb9)
          go_roundw
          case rel => exact ⟨j + 1, by have := HLT.out; omega, by go_num, SE⟩
          case measure => simp [intOf]; have := HLT.out; omega
      · have g3 : ((x.r.k : Int) == 3) = false := by rw [beq_eq_false_iff_ne]; omega
        by_cases k4 : x.r.k = 4
        · have g4 : ((x.r.k : Int) == 4) = true := by rw [k4]; rfl
          by_cases hf : f5 ≤ x.pl
          · have gf : (f5 : Int) ≤ (x.pl : Int) := by omega
            by_cases hi : 0 < x.r.i.size
            · have gi : (0 : Int) < (x.r.i.size : Int) := by omega
              have HKA : Hid (againB f5 x.r x.pl M true = true) := hide (by unfold againB; simp [k3, k4, hf, hi])
              try clear hf
              try clear k4
              try clear k3
              go_wp2_with (go_at_call 13; (with_reducible refine (ag_any HAG2.out _ _ _ _ _ _ _ _ _ HKA.out).mono ?_); rintro e w9 ⟨rfl, hb9⟩; have SE := hide ((SB.out.below hb9.out).take 3); clear hb9)
              go_roundw
              case rel => exact ⟨j + 1, by have := HLT.out; omega, by go_num, SE⟩
              case measure => simp [intOf]; have := HLT.out; omega
            · have gi : ¬ (0 : Int) < (x.r.i.size : Int) := by omega
              have HKA : Hid (againB f5 x.r x.pl M true = false) := hide (by unfold againB; simp [k3, k4, hf, hi])
              try clear hf
              try clear k4
              try clear k3
              go_wp2_with (go_at_call 13; (with_reducible refine (ag_any HAG2.out _ _ _ _ _ _ _ _ _ HKA.out).mono ?_); rintro e w9 ⟨rfl, hb9⟩; have SE := hide ((SB.out.below hb9.out).take 3); clear hb9)
              go_roundw
              case rel => exact ⟨j + 1, by have := HLT.out; omega, by go_num, SE⟩
              case measure => simp [intOf]; have := HLT.out; omega
          · have gf : ¬ (f5 : Int) ≤ (x.pl : Int) := by omega
            have HKA : Hid (againB f5 x.r x.pl M true = false) := hide (by unfold againB; simp [k3, k4, hf])
            try clear hf
            try clear k4
            try clear k3
            go_wp2_with (go_at_call 13; (with_reducible refine (ag_any HAG2.out _ _ _ _ _ _ _ _ _ HKA.out).mono ?_); rintro e w9 ⟨rfl, hb9⟩; have SE := hide ((SB.out.below hb9.out).take 3); clear hb9)
            go_roundw
            case rel => exact ⟨j + 1, by have := HLT.out; omega, by go_num, SE⟩
            case measure => simp [intOf]; have := HLT.out; omega
        · have g4 : ((x.r.k : Int) == 4) = false := by rw [beq_eq_false_iff_ne]; omega
          have HKA : Hid (againB f5 x.r x.pl M true = false) := hide (by unfold againB; simp [k3, k4])
          try clear hf
          try clear k4
          try clear k3
          go_wp2_with (go_at_call 13; (with_reducible refine (ag_any HAG2.out _ _ _ _ _ _ _ _ _ HKA.out).mono ?_); rintro e w9 ⟨rfl, hb9⟩; have SE := hide ((SB.out.below hb9.out).take 3); clear hb9)
          go_roundw
          case rel => exact ⟨j + 1, by have := HLT.out; omega, by go_num, SE⟩
          case measure => simp [intOf]; have := HLT.out; omega

    · obtain rfl : j = es.length := by omega
      clear hlt hj
      go_wp2_with (go_at_call 13; (with_reducible refine (ag_end HAG2.out _ f5 A5 n5 c5 o5 true).mono ?_); rintro e w9 ⟨rfl, hb9⟩)
      go_ret
      exact ⟨rfl, HB.out.trans ((hs.out.below hb9.out).bel.mono HB.out.size)⟩
set_option maxHeartbeats 32000000 in
theorem again_f (HAN2 : Hid AnSaid) (HAG2 : Hid AgSaid) {v : Value} {l : List SeedD} {z : Int} {M : Nat} {w : World} (HV : Hid (SeedRow w w.heap.size v l)) (hlb : lightB l = true) (hq : bits .and .u64 z 1023 = (M : Int)) :
    Calls Try.prog 4 #[v, .int .u64 z, .bool false] w fun e w' => e = .returned (.bool true) ∧ Below w.heap.size w w' := by
  have HL := hide (lightB_iff.1 hlb).1
  go_enter Try.func4, Try.ntmps4
  go_wp2_with (first
    | (go_at_call 9; (with_reducible refine (fit_any HAN2.out _).mono ?_); rintro e w1 ⟨rfl, hb1⟩; have HB := hide hb1; have HK1 := hide (light_any ((SeedRow.below HV.out hb1).more hb1.size)); clear hb1; rw [hlb] at HK1)
    | (go_at_call 10; (with_reducible refine HK1.out.mono ?_); rintro e w2 ⟨rfl, hb2⟩; clear HK1; have HB := hide (HB.out.trans (hb2.mono HB.out.size)); clear hb2; have HK2 := hide (entries_any ((SeedRow.below HV.out HB.out).more HB.out.size) HL.out))
    | (go_at_call 11; (with_reducible refine HK2.out.mono ?_); rintro e w3 ⟨u, es, rfl, hes, hs⟩; clear HK2; obtain ⟨Au, cu, rfl⟩ := (hs.krow (i := 0) rfl).form
       have HLN := hide (show es.length ≤ 100 by rw [hes.len]; exact HL.out)
       have HKP := hide (an_all HAN2.out hs (i := 0) rfl (hs.dirt (i := 1) rfl) (by rw [hes.len]; have := HL.out; omega)); clear hs hes)
    | (go_at_call 12; (with_reducible refine HKP.out.mono ?_); rintro e w5 ⟨f5, A5, n5, c5, o5, rfl, h5⟩; clear HKP; have S5 := hide (h5.box 32 #[.int .u64 (f5 : Int), .slice (A5 0) (n5 0) (c5 0), .slice (A5 1) (n5 1) (c5 1), .slice (A5 2) (n5 2) (c5 2), .slice (A5 3) (n5 3) (c5 3), .bool (o5 0), .bool (o5 1), .bool (o5 2), .bool (o5 3)]); clear h5))
  go_loopw [25] (fun i wr => ∃ j : Nat, j ≤ es.length ∧ i = .int .i64 j ∧ Hid (Ow w2 (fun _ => False) wr [Res.row eiK (.slice Au es.length cu) es, Res.dirt es, Res.blk w5.heap.size 32 #[.int .u64 (f5 : Int), .slice (A5 0) (n5 0) (c5 0), .slice (A5 1) (n5 1) (c5 1), .slice (A5 2) (n5 2) (c5 2), .slice (A5 3) (n5 3) (c5 3), .bool (o5 0), .bool (o5 1), .bool (o5 2), .bool (o5 3)]])) (fun i _ => es.length - (intOf i).toNat)
  case atStart => exact ⟨0, by omega, rfl, S5⟩
  case round =>
    clear S5
    obtain ⟨j, hj, rfl, hs⟩ := hrel
    obtain ⟨p0, p1, p2, p3, p4, p5, p6, p7, p8⟩ := (hs.out.blk (i := 2) rfl).nine
    by_cases hlt : j < es.length
    · obtain ⟨x, hc⟩ : ∃ x, es[j]? = some x := ⟨_, List.getElem?_eq_getElem hlt⟩
      obtain ⟨b1, rfl, i0, i1, i2, i3, i4, i5, i6, i7, i8⟩ := hs.out.entry (i := 0) rfl hc
      have q0 : (0 : Int) ≤ (j : Int) := by omega
      have q1 : (j : Int) < (es.length : Int) := by omega
      have HLT := hide hlt
      have qn : (es.length : Int) ≤ 100 := by have := HLN.out; omega
      clear hlt hc
      have SB := hide (hs.out.box 40 #[.int .i64 (x.r.k : Int), .int .i64 (x.r.t : Int), .int .i64 (x.r.p : Int), .int .i64 (x.r.s : Int), .string x.r.b, .string x.r.a, .string x.r.i, .slice x.A x.r.ds.length x.c, .int .u64 (x.pl : Int)])
      obtain ⟨p0, p1, p2, p3, p4, p5, p6, p7, p8⟩ := (SB.out.blk (i := 2) rfl).nine
      by_cases k3 : x.r.k = 3
      · have g3 : ((x.r.k : Int) == 3) = true := by rw [k3]; rfl
        by_cases hf : f5 ≤ x.pl
        · have gf : (f5 : Int) ≤ (x.pl : Int) := by omega
          by_cases hi : M < x.pl
          · have gi : (M : Int) < (x.pl : Int) := by omega
            have HKA : Hid (againB f5 x.r x.pl M false = true) := hide (by unfold againB; simp [k3, hf, hi])
            try clear hf
            try clear k4
            try clear k3
            go_wp2_with (go_at_call 13; (with_reducible refine (ag_any HAG2.out _ _ _ _ _ _ _ _ _ HKA.out).mono ?_); rintro e w9 ⟨rfl, hb9⟩; have SE := hide ((SB.out.below hb9.out).take 3); clear hb9)
            go_roundw
            case rel => exact ⟨j + 1, by have := HLT.out; omega, by go_num, SE⟩
            case measure => simp [intOf]; have := HLT.out; omega
          · have gi : ¬ (M : Int) < (x.pl : Int) := by omega
            have HKA : Hid (againB f5 x.r x.pl M false = false) := hide (by unfold againB; simp [k3, hf, hi])
            try clear hf
            try clear k4
            try clear k3
            go_wp2_with (go_at_call 13; (with_reducible refine (ag_any HAG2.out _ _ _ _ _ _ _ _ _ HKA.out).mono ?_); rintro e w9 ⟨rfl, hb9⟩; have SE := hide ((SB.out.below hb9.out).take 3); clear hb9)
            go_roundw
            case rel => exact ⟨j + 1, by have := HLT.out; omega, by go_num, SE⟩
            case measure => simp [intOf]; have := HLT.out; omega
        · have gf : ¬ (f5 : Int) ≤ (x.pl : Int) := by omega
          have HKA : Hid (againB f5 x.r x.pl M false = false) := hide (by unfold againB; simp [k3, hf])
          try clear hf
          try clear k4
          try clear k3
          go_wp2_with (go_at_call 13; (with_reducible refine (ag_any HAG2.out _ _ _ _ _ _ _ _ _ HKA.out).mono ?_); rintro e w9 ⟨rfl, hb9⟩; have SE := hide ((SB.out.below hb9.out).take 3); clear hb9)
          go_roundw
          case rel => exact ⟨j + 1, by have := HLT.out; omega, by go_num, SE⟩
          case measure => simp [intOf]; have := HLT.out; omega
      · have g3 : ((x.r.k : Int) == 3) = false := by rw [beq_eq_false_iff_ne]; omega
        by_cases k4 : x.r.k = 4
        · have g4 : ((x.r.k : Int) == 4) = true := by rw [k4]; rfl
          by_cases hf : f5 ≤ x.pl
          · have gf : (f5 : Int) ≤ (x.pl : Int) := by omega
            by_cases hi : M < x.pl
            · have gi : (M : Int) < (x.pl : Int) := by omega
              have HKA : Hid (againB f5 x.r x.pl M false = true) := hide (by unfold againB; simp [k3, k4, hf, hi])
              try clear hf
              try clear k4
              try clear k3
              go_wp2_with (go_at_call 13; (with_reducible refine (ag_any HAG2.out _ _ _ _ _ _ _ _ _ HKA.out).mono ?_); rintro e w9 ⟨rfl, hb9⟩; have SE := hide ((SB.out.below hb9.out).take 3); clear hb9)
              go_roundw
              case rel => exact ⟨j + 1, by have := HLT.out; omega, by go_num, SE⟩
              case measure => simp [intOf]; have := HLT.out; omega
            · have gi : ¬ (M : Int) < (x.pl : Int) := by omega
              have HKA : Hid (againB f5 x.r x.pl M false = false) := hide (by unfold againB; simp [k3, k4, hf, hi])
              try clear hf
              try clear k4
              try clear k3
              go_wp2_with (go_at_call 13; (with_reducible refine (ag_any HAG2.out _ _ _ _ _ _ _ _ _ HKA.out).mono ?_); rintro e w9 ⟨rfl, hb9⟩; have SE := hide ((SB.out.below hb9.out).take 3); clear hb9)
              go_roundw
              case rel => exact ⟨j + 1, by have := HLT.out; omega, by go_num, SE⟩
              case measure => simp [intOf]; have := HLT.out; omega
          · have gf : ¬ (f5 : Int) ≤ (x.pl : Int) := by omega
            have HKA : Hid (againB f5 x.r x.pl M false = false) := hide (by unfold againB; simp [k3, k4, hf])
            try clear hf
            try clear k4
            try clear k3
            go_wp2_with (go_at_call 13; (with_reducible refine (ag_any HAG2.out _ _ _ _ _ _ _ _ _ HKA.out).mono ?_); rintro e w9 ⟨rfl, hb9⟩; have SE := hide ((SB.out.below hb9.out).take 3); clear hb9)
            go_roundw
            case rel => exact ⟨j + 1, by have := HLT.out; omega, by go_num, SE⟩
            case measure => simp [intOf]; have := HLT.out; omega
        · have g4 : ((x.r.k : Int) == 4) = false := by rw [beq_eq_false_iff_ne]; omega
          have HKA : Hid (againB f5 x.r x.pl M false = false) := hide (by unfold againB; simp [k3, k4])
          try clear hf
          try clear k4
          try clear k3
          go_wp2_with (go_at_call 13; (with_reducible refine (ag_any HAG2.out _ _ _ _ _ _ _ _ _ HKA.out).mono ?_); rintro e w9 ⟨rfl, hb9⟩; have SE := hide ((SB.out.below hb9.out).take 3); clear hb9)
          go_roundw
          case rel => exact ⟨j + 1, by have := HLT.out; omega, by go_num, SE⟩
          case measure => simp [intOf]; have := HLT.out; omega

    · obtain rfl : j = es.length := by omega
      clear hlt hj
      go_wp2_with (go_at_call 13; (with_reducible refine (ag_end HAG2.out _ f5 A5 n5 c5 o5 false).mono ?_); rintro e w9 ⟨rfl, hb9⟩)
      go_ret
      exact ⟨rfl, HB.out.trans ((hs.out.below hb9.out).bel.mono HB.out.size)⟩
set_option maxHeartbeats 4000000 in
theorem again_walk (HAN : AnSaid) (HAG : AgSaid) (v : Value) (l : List SeedD) (z : Int) (tb : Bool) (w : World) (hv : SeedRow w w.heap.size v l) : Calls Try.prog 4 #[v, .int .u64 z, .bool tb] w fun e w' => e = .returned (.bool true) ∧ Below w.heap.size w w' := by
  have HAN2 := hide HAN
  have HAG2 := hide HAG
  clear HAN HAG
  have HV := hide hv
  clear hv
  cases hlb : lightB l with
  | false =>
    go_enter Try.func4, Try.ntmps4
    go_wp2_with (first
      | (go_at_call 9; (with_reducible refine (fit_any HAN2.out _).mono ?_); rintro e w1 ⟨rfl, hb1⟩; have HB := hide hb1; have HK1 := hide (light_any ((SeedRow.below HV.out hb1).more hb1.size)); clear hb1; rw [hlb] at HK1)
      | (go_at_call 10; (with_reducible refine HK1.out.mono ?_); rintro e w2 ⟨rfl, hb2⟩; clear HK1; have HB := hide (HB.out.trans (hb2.mono HB.out.size)); clear hb2))
    go_ret
    exact ⟨rfl, HB.out⟩
  | true =>
    obtain ⟨M, hq⟩ := and_u64 z 1023
    cases tb with
    | true => exact again_t HAN2 HAG2 HV hlb hq
    | false => exact again_f HAN2 HAG2 HV hlb hq
end Go.Proofs.Ytoifghofkjomnaa
