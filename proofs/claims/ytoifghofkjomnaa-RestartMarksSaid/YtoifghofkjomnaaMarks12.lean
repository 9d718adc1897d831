/-
  RestartMarks' walk (written by r12/mkmarks12.py).
-/
import Derived.Test.YtoifghofkjomnaaSix12
import Derived.Test.YtoifghofkjomnaaFrom12
import Derived.BigQuiet
import Derived.Deep.CutBlock
namespace Go.Proofs.Ytoifghofkjomnaa
open Go.RowKit
set_option maxRecDepth 20000
set_option linter.unusedSimpArgs false
set_option linter.unusedVariables false

theorem and_m (x y : Int) : ∃ M : Nat, bits .and .u64 x y = (M : Int) := by
  refine ⟨(BitVec.ofInt 64 x &&& BitVec.ofInt 64 y).toNat, ?_⟩
  have h1 : bits .and .u64 x y = IntKind.u64.wrap (((BitVec.ofInt 64 x &&& BitVec.ofInt 64 y).toNat : Int)) := rfl
  rw [h1, IntKind.wrap_u64]
  have := (BitVec.ofInt 64 x &&& BitVec.ofInt 64 y).isLt
  omega
theorem an_from (HAN : AnSaid) {W : World} {v : Value} {es : List Ei} {f : Nat} (hr : eiK.Row W v es) (hd : ∀ x ∈ es, DOk W x) (hl : es.length ≤ 1000) (hf : frP es = f) :
    Calls Try.prog 12 #[v] W fun e W' => ∃ (A5 : Nat → Option Addr) (n5 c5 : Nat → Nat) (o5 : Nat → Bool), e = .returned (.agg #[.int .u64 (f : Int), .slice (A5 0) (n5 0) (c5 0), .slice (A5 1) (n5 1) (c5 1), .slice (A5 2) (n5 2) (c5 2), .slice (A5 3) (n5 3) (c5 3), .bool (o5 0), .bool (o5 1), .bool (o5 2), .bool (o5 3)]) ∧ Hid (Below W.heap.size W W') := by
  refine (an_any HAN hr hd hl).mono ?_
  rintro e W' ⟨A, c, rfl, hb, _⟩
  refine ⟨A, fun t => (loP es t).length, c, opP es, ?_, hide hb⟩
  unfold planC
  rw [hf]
theorem field_from {z : Int} {A5 : Nat → Option Addr} {n5 c5 : Nat → Nat} {o5 : Nat → Bool} (w : World) : (Instr.field 32 (.agg #[.int .u64 z, .slice (A5 0) (n5 0) (c5 0), .slice (A5 1) (n5 1) (c5 1), .slice (A5 2) (n5 2) (c5 2), .slice (A5 3) (n5 3) (c5 3), .bool (o5 0), .bool (o5 1), .bool (o5 2), .bool (o5 3)]) 0).run Try.prog w = .ok (.int .u64 z) w := by kernel_rfl
/-- Two entries in a block. -/
def sayTwo (cs : Array Value) : Say := ⟨fun w v => ∃ g, v = .slice (some ⟨g, 0, none⟩) 2 2 ∧ Blk w g 40 cs, fun _ _ _ ⟨g, e, h⟩ hb => ⟨g, e, h.below hb⟩⟩
/-- Entries in a row. -/
def sayEs (es : List Ei) : Say := ⟨fun w v => eiK.Row w v es, fun _ _ _ h hb => h.below hb⟩
/-- A plan from there. -/
def sayPlan (f : Nat) : Say := ⟨fun w v => ∃ (A5 : Nat → Option Addr) (n5 c5 : Nat → Nat) (o5 : Nat → Bool), v = .agg #[.int .u64 (f : Int), .slice (A5 0) (n5 0) (c5 0), .slice (A5 1) (n5 1) (c5 1), .slice (A5 2) (n5 2) (c5 2), .slice (A5 3) (n5 3) (c5 3), .bool (o5 0), .bool (o5 1), .bool (o5 2), .bool (o5 3)], fun _ _ _ h _ => h⟩
theorem run_cutE (A : Option Addr) (n c : Nat) (hc : n ≤ c) (w : World) : (Instr.slice 25 (.slice A n c) none (some (.int .i64 (n : Int))) (some (.int .i64 (n : Int)))).run Try.prog w = .ok (.slice A n n) w := by
  have hT : Try.prog.underlying 25 = some (.slice (Try.prog.elem 25)) := by kernel_rfl
  have hz : (sizeOf (Try.prog.elem 25)).run Try.prog w = .ok 9 w := by kernel_rfl
  rw [run_slice_hm w 25 A n c hT .i64 .i64 (n : Int) (n : Int) (by omega) (by omega) (by omega), hz]
  by_cases h : n = 0
  · subst h
    simp [Result.andThen, sliced]
  · simp [Result.andThen, sliced, h]
    cases A <;> simp [Addr.add]
theorem index6 {a0 a1 a2 a3 a4 a5 v : Value} {q : Nat} (hq : q < 6) (h : #[a0, a1, a2, a3, a4, a5][q]? = some v) (w : World) : (Instr.index 47 (.agg #[a0, a1, a2, a3, a4, a5]) (.int .i64 (q : Int))).run Try.prog w = .ok v w := by
  have i0 : ∀ w : World, (Instr.index 47 (.agg #[a0, a1, a2, a3, a4, a5]) (.int .i64 0)).run Try.prog w = .ok a0 w := fun _ => by kernel_rfl
  have i1 : ∀ w : World, (Instr.index 47 (.agg #[a0, a1, a2, a3, a4, a5]) (.int .i64 1)).run Try.prog w = .ok a1 w := fun _ => by kernel_rfl
  have i2 : ∀ w : World, (Instr.index 47 (.agg #[a0, a1, a2, a3, a4, a5]) (.int .i64 2)).run Try.prog w = .ok a2 w := fun _ => by kernel_rfl
  have i3 : ∀ w : World, (Instr.index 47 (.agg #[a0, a1, a2, a3, a4, a5]) (.int .i64 3)).run Try.prog w = .ok a3 w := fun _ => by kernel_rfl
  have i4 : ∀ w : World, (Instr.index 47 (.agg #[a0, a1, a2, a3, a4, a5]) (.int .i64 4)).run Try.prog w = .ok a4 w := fun _ => by kernel_rfl
  have i5 : ∀ w : World, (Instr.index 47 (.agg #[a0, a1, a2, a3, a4, a5]) (.int .i64 5)).run Try.prog w = .ok a5 w := fun _ => by kernel_rfl
  rcases (by omega : q = 0 ∨ q = 1 ∨ q = 2 ∨ q = 3 ∨ q = 4 ∨ q = 5) with rfl | rfl | rfl | rfl | rfl | rfl
  · obtain rfl : a0 = v := by simpa using h
    exact i0 w
  · obtain rfl : a1 = v := by simpa using h
    exact i1 w
  · obtain rfl : a2 = v := by simpa using h
    exact i2 w
  · obtain rfl : a3 = v := by simpa using h
    exact i3 w
  · obtain rfl : a4 = v := by simpa using h
    exact i4 w
  · obtain rfl : a5 = v := by simpa using h
    exact i5 w
theorem six_low (M : Nat → Nat) (m : Nat → Int) {j : Nat} : setN (fun q => Value.int .u64 (if q < j then (M q : Int) else m q)) j (.int .u64 (M j : Int)) = fun q => Value.int .u64 (if q < j + 1 then (M q : Int) else m q) := by
  funext q
  by_cases e : q = j
  · subst e
    rw [setN_at, if_pos (Nat.lt_succ_self _)]
  · rw [setN_ne _ _ e]
    by_cases h : q < j
    · rw [if_pos h, if_pos (by omega)]
    · rw [if_neg h, if_neg (by omega)]
theorem fr_two (es : List Ei) (a b : Ei) (hb : b.r.k = 7) : frP (es ++ [a, b]) = markN b.r.ds b.pl := by
  rw [show es ++ [a, b] = (es ++ [a]) ++ [b] by simp, frP_snoc]
  exact if_pos hb
theorem two_cells {w : World} {g : Nat} {a b : Ei} {cs : Array Value} (h : Blk w g 40 cs) (hcs : cs.toList = eiK.flat [a, b]) : ∀ j u, (eiK.flat [a, b])[j]? = some u → w.cell? ⟨g, j, none⟩ = some u := fun j u hu => h.cell j u (by rw [← hu, ← hcs, ← Array.getElem?_toList])
set_option maxHeartbeats 32000000 in
theorem marks_walk (HAN : AnSaid) (v : Value) (l : List SeedD) (m : Nat → Int) (w : World) (hv : SeedRow w w.heap.size v l) : Calls Try.prog 7 #[v, .agg #[.int .u64 (m 0), .int .u64 (m 1), .int .u64 (m 2), .int .u64 (m 3), .int .u64 (m 4), .int .u64 (m 5)]] w fun e w' => e = .returned (.bool true) ∧ Below w.heap.size w w' := by
  have HAN2 := hide HAN
  clear HAN
  have HV := hide hv
  clear hv
  have S0 : Hid (Ow w (fun _ => False) (w.alloc (.cells #[.int .u64 (m 0), .int .u64 (m 1), .int .u64 (m 2), .int .u64 (m 3), .int .u64 (m 4), .int .u64 (m 5)] 47)) [Res.blk w.heap.size 47 (cellsN 6 (fun q => .int .u64 (if q < 0 then (0 : Int) else m q)))]) := hide ((Ow.start w).box 47 #[.int .u64 (m 0), .int .u64 (m 1), .int .u64 (m 2), .int .u64 (m 3), .int .u64 (m 4), .int .u64 (m 5)])
  cases hlb : lightB l with
  | false =>
    go_enter Try.func7, Try.ntmps7
    go_wp2_with (first
      | (go_at_call 9; (with_reducible refine (fit_any HAN2.out _).mono ?_); rintro e w1 ⟨rfl, hb1⟩; have S1 := hide (S0.out.below hb1); have HK1 := hide (light_any ((SeedRow.below HV.out S1.out.bel).more S1.out.bel.size)); clear hb1; rw [hlb] at HK1)
      | (go_at_call 10; (with_reducible refine HK1.out.mono ?_); rintro e w2 ⟨rfl, hb2⟩; clear HK1; have S2 := hide (S1.out.below hb2); clear hb2))
    go_ret
    exact ⟨rfl, S2.out.bel⟩
  | true =>
    have HL := hide (lightB_iff.1 hlb).1
    have HMM : Hid (∃ M : Nat → Nat, ∀ q, bits .and .u64 (m q) 4095 = (M q : Int)) := hide ⟨fun q => Classical.choose (and_m (m q) 4095), fun q => Classical.choose_spec (and_m (m q) 4095)⟩
    go_enter Try.func7, Try.ntmps7
    go_wp2_with (first
      | (go_at_call 9; (with_reducible refine (fit_any HAN2.out _).mono ?_); rintro e w1 ⟨rfl, hb1⟩; have S1 := hide (S0.out.below hb1); have HK1 := hide (light_any ((SeedRow.below HV.out S1.out.bel).more S1.out.bel.size)); clear hb1; rw [hlb] at HK1)
      | (go_at_call 10; (with_reducible refine HK1.out.mono ?_); rintro e w2 ⟨rfl, hb2⟩; clear HK1; have S2 := hide (S1.out.below hb2); clear hb2; have HK2 := hide (entries_any ((SeedRow.below HV.out S2.out.bel).more S2.out.bel.size) HL.out))
      | (go_at_call 11; (with_reducible refine HK2.out.mono ?_); rintro e w3 ⟨u, es, rfl, hes, hs⟩; clear HK2; obtain ⟨Au, cu, rfl⟩ := (hs.krow (i := 0) rfl).form))
    have R0 := hide (hs.newrow eiK)
    have HES := hide hes
    have HLN := hide (show es.length ≤ 100 by rw [hes.len]; exact HL.out)
    clear hs hes
    go_loopw [5, 22] (fun u i wr => ∃ (j : Nat) (es' : List Ei), j ≤ es.length ∧ i = .int .i64 j ∧ Hid (Ow w2 (fun _ => False) wr [Res.row eiK (.slice Au es.length cu) es, Res.dirt es, Res.row eiK u es']) ∧ Hid (∀ x ∈ es', x.r.k ≠ 7) ∧ Hid (∀ x ∈ es', x.r.ds = []) ∧ Hid (es'.length ≤ j)) (fun _ i _ => es.length - (intOf i).toNat)
    case atStart => exact ⟨0, [], by omega, rfl, R0, hide (fun x hx => by cases hx), hide (fun x hx => by cases hx), hide (Nat.le_refl _)⟩
    case round =>
      clear R0
      obtain ⟨j, es', hj, rfl, hs, hm, hd, HLE⟩ := hrel
      obtain ⟨A3, c3, rfl⟩ := (hs.out.krow (i := 2) rfl).form
      by_cases hlt : j < es.length
      · obtain ⟨x, hc⟩ : ∃ x, es[j]? = some x := ⟨_, List.getElem?_eq_getElem hlt⟩
        obtain ⟨b1, rfl, i0, i1, i2, i3, i4, i5, i6, i7, i8⟩ := hs.out.entry (i := 0) rfl hc
        have q0 : (0 : Int) ≤ (j : Int) := by omega
        have q1 : (j : Int) < (es.length : Int) := by omega
        have HOK := hide (HES.out.ok (List.mem_of_getElem? hc))
        have HLT := hide (show j < es.length ∧ es.length ≤ 100 from ⟨hlt, HLN.out⟩)
        have qn : (es.length : Int) ≤ 100 := by have := HLN.out; omega
        clear hlt hc
        by_cases h7 : x.r.k = 7
        · have g7 : ((x.r.k : Int) == 7) = true := by rw [h7]; rfl
          have gb : ((x.r.k : Int) != 7) = false := by rw [h7]; rfl
          clear h7
          have SB := hide ((hs.out.box 40 #[.int .i64 (x.r.k : Int), .int .i64 (x.r.t : Int), .int .i64 (x.r.p : Int), .int .i64 (x.r.s : Int), .string x.r.b, .string x.r.a, .string x.r.i, .slice x.A x.r.ds.length x.c, .int .u64 (x.pl : Int)]).take 3)
          go_wp2
          go_roundw
          case rel => exact ⟨j + 1, es', by have := HLT.out; omega, by go_num, SB, hm, hd, hide (by have := HLE.out; omega)⟩
          case measure => simp [intOf]; have := HLT.out; omega
        · have g7 : ((x.r.k : Int) == 7) = false := by rw [beq_eq_false_iff_ne]; omega
          have gb : ((x.r.k : Int) != 7) = true := by rw [bne_iff_ne]; omega
          have HK7 := hide h7
          have SB := hide (hs.out.box 40 #[.int .i64 (x.r.k : Int), .int .i64 (x.r.t : Int), .int .i64 (x.r.p : Int), .int .i64 (x.r.s : Int), .string x.r.b, .string x.r.a, .string x.r.i, .slice x.A x.r.ds.length x.c, .int .u64 (x.pl : Int)])
          clear h7
          obtain ⟨v', w4, hrun, S9⟩ := Ow.addK (x := x) (cs := #[.int .i64 (x.r.k : Int), .int .i64 (x.r.t : Int), .int .i64 (x.r.p : Int), .int .i64 (x.r.s : Int), .string x.r.b, .string x.r.a, .string x.r.i, .slice x.A x.r.ds.length x.c, .int .u64 (x.pl : Int)]) SB.out (i := 2) rfl rfl (by have := HLE.out; have := HLT.out; omega) 25
          have e9 : (wr.alloc (.cells #[.int .i64 (x.r.k : Int), .int .i64 (x.r.t : Int), .int .i64 (x.r.p : Int), .int .i64 (x.r.s : Int), .string x.r.b, .string x.r.a, .string x.r.i, .slice x.A x.r.ds.length x.c, .int .u64 (x.pl : Int)] 40)).heap.size = wr.heap.size + 1 := by simp
          rw [e9] at hrun
          have HRUN := hide hrun
          have HE := hide (S9.take 3)
          clear hrun S9
          go_wp2_with (at_builtin; refine Lib.wpList_append_run _ rfl (.tmp 30) (.tmp 32) _ _ rfl _ _ rfl rfl _ _ HRUN.out ?_)
          go_roundw
          case rel => exact ⟨j + 1, _, by have := HLT.out; omega, by go_num, HE, hide (fun y hy => (List.mem_append.1 hy).elim (hm.out y) (fun hy => by obtain rfl := List.mem_singleton.1 hy; exact HK7.out)), hide (fun y hy => (List.mem_append.1 hy).elim (hd.out y) (fun hy => by obtain rfl := List.mem_singleton.1 hy; exact HOK.out.2.2 HK7.out)), hide (by rw [List.length_append, List.length_singleton]; have := HLE.out; omega)⟩
          case measure => simp [intOf]; have := HLT.out; omega
      · obtain rfl : j = es.length := by omega
        have S3 := hide (S2.out.adoptNew hs.out (i := 2) rfl)
        have HLE : Hid (es'.length ≤ 100) := hide (by have := HLE.out; have := HLN.out; omega)
        clear hlt hj hs HES
        obtain ⟨M, hM⟩ := HMM.out
        have HM := hide hM
        clear hM HMM
        go_wp2
        go_loopw [35] (fun i wr => ∃ j : Nat, j ≤ 6 ∧ i = .int .i64 j ∧ Hid (Ow w (fun _ => False) wr [Res.blk w.heap.size 47 (cellsN 6 (fun q => .int .u64 (if q < j then (M q : Int) else m q))), Res.row eiK (.slice A3 es'.length c3) es'])) (fun i _ => 6 - (intOf i).toNat)
        case atStart => exact ⟨0, by omega, rfl, S3⟩
        case round =>
          clear S3
          obtain ⟨j, hj, rfl, hs⟩ := hrel
          by_cases hlt : j < 6
          · have hbk := hs.out.blk (i := 0) rfl
            have c0 : wr.cell? ⟨w.heap.size, j, none⟩ = some (.int .u64 (m j)) := hbk.cell j _ (by rw [cellsN_at _ hlt, if_neg (by omega)])
            have f0 := hbk.frozen j
            have q0 : (0 : Int) ≤ (j : Int) := by omega
            have q1 : (j : Int) < 6 := by omega
            have hq := HM.out j
            have HS : Hid (Ow w (fun _ => False) (wr.setCell ⟨w.heap.size, j, none⟩ (.int .u64 (M j : Int))) [Res.blk w.heap.size 47 (cellsN 6 (fun q => .int .u64 (if q < j + 1 then (M q : Int) else m q))), Res.row eiK (.slice A3 es'.length c3) es']) := hide (by
              have h1 := hs.out.set_ (i := 0) rfl j (.int .u64 (M j : Int))
              rw [cellsN_set, six_low] at h1
              exact h1)
            have HLT := hide hlt
            clear hlt hbk
            go_wp2
            go_roundw
            case rel => exact ⟨j + 1, by have := HLT.out; omega, by go_num, HS⟩
            case measure => simp [intOf]; have := HLT.out; omega
          · obtain rfl : j = 6 := by omega
            have S4 : Hid (Ow w (fun _ => False) wr [Res.blk w.heap.size 47 #[.int .u64 (M 0 : Int), .int .u64 (M 1 : Int), .int .u64 (M 2 : Int), .int .u64 (M 3 : Int), .int .u64 (M 4 : Int), .int .u64 (M 5 : Int)], Res.row eiK (.slice A3 es'.length c3) es']) := hs
            have HKA := hide (an_from HAN2.out (S4.out.krow (i := 1) rfl) (fun x hx => DOk.none (hd.out x hx)) (by have := HLE.out; omega) (frP_no hm.out))
            clear hlt hj hs
            go_wp2_with (first
              | (go_at_call 12
                 (with_reducible refine HKA.out.mono ?_)
                 rintro e w5 ⟨A5, n5, c5, o5, rfl, hb5⟩
                 clear HKA
                 have hfl := fun W => field_from (z := 0) (A5 := A5) (n5 := n5) (c5 := c5) (o5 := o5) W
                 have S6 : Hid (Ow w (fun _ => False) (((w5.alloc (.cells #[.int .u64 1, .int .u64 1, .int .u64 1, .int .u64 1, .int .u64 1, .int .u64 1] 27)).alloc (.cells #[.int .i64 7, .int .i64 0, .int .i64 0, .int .i64 0, .string ⟨#[]⟩, .string ⟨#[]⟩, .string ⟨#[]⟩, .slice (some ⟨w5.heap.size, 0, none⟩) 6 6, .int .u64 6000] 40)).alloc (.cells #[.int .i64 7, .int .i64 0, .int .i64 0, .int .i64 0, .string ⟨#[]⟩, .string ⟨#[]⟩, .string ⟨#[]⟩, .slice (some ⟨w.heap.size, 0, none⟩) 6 6, .int .u64 7000] 40)) [Res.blk w.heap.size 47 #[.int .u64 (M 0 : Int), .int .u64 (M 1 : Int), .int .u64 (M 2 : Int), .int .u64 (M 3 : Int), .int .u64 (M 4 : Int), .int .u64 (M 5 : Int)], Res.row eiK (.slice A3 es'.length c3) es', Res.blk w5.heap.size 27 #[.int .u64 1, .int .u64 1, .int .u64 1, .int .u64 1, .int .u64 1, .int .u64 1], Res.blk (w5.heap.size + 1) 40 #[.int .i64 7, .int .i64 0, .int .i64 0, .int .i64 0, .string ⟨#[]⟩, .string ⟨#[]⟩, .string ⟨#[]⟩, .slice (some ⟨w5.heap.size, 0, none⟩) 6 6, .int .u64 6000], Res.blk (w5.heap.size + 2) 40 #[.int .i64 7, .int .i64 0, .int .i64 0, .int .i64 0, .string ⟨#[]⟩, .string ⟨#[]⟩, .string ⟨#[]⟩, .slice (some ⟨w.heap.size, 0, none⟩) 6 6, .int .u64 7000]]) := hide (by
                   have h1 := (S4.out.below hb5.out).box 27 #[.int .u64 1, .int .u64 1, .int .u64 1, .int .u64 1, .int .u64 1, .int .u64 1]
                   have h2 := h1.box 40 #[.int .i64 7, .int .i64 0, .int .i64 0, .int .i64 0, .string ⟨#[]⟩, .string ⟨#[]⟩, .string ⟨#[]⟩, .slice (some ⟨w5.heap.size, 0, none⟩) 6 6, .int .u64 6000]
                   rw [show (w5.alloc (.cells #[.int .u64 1, .int .u64 1, .int .u64 1, .int .u64 1, .int .u64 1, .int .u64 1] 27)).heap.size = w5.heap.size + 1 by simp] at h2
                   have h3 := h2.box 40 #[.int .i64 7, .int .i64 0, .int .i64 0, .int .i64 0, .string ⟨#[]⟩, .string ⟨#[]⟩, .string ⟨#[]⟩, .slice (some ⟨w.heap.size, 0, none⟩) 6 6, .int .u64 7000]
                   rw [show ((w5.alloc (.cells #[.int .u64 1, .int .u64 1, .int .u64 1, .int .u64 1, .int .u64 1, .int .u64 1] 27)).alloc (.cells #[.int .i64 7, .int .i64 0, .int .i64 0, .int .i64 0, .string ⟨#[]⟩, .string ⟨#[]⟩, .string ⟨#[]⟩, .slice (some ⟨w5.heap.size, 0, none⟩) 6 6, .int .u64 6000] 40)).heap.size = w5.heap.size + 2 by simp] at h3
                   exact h3)
                 have hbk := S6.out.blk (i := 0) rfl
                 have z0 := hbk.cell 0 _ rfl
                 have z1 := hbk.cell 1 _ rfl
                 have z2 := hbk.cell 2 _ rfl
                 have z3 := hbk.cell 3 _ rfl
                 have z4 := hbk.cell 4 _ rfl
                 have z5 := hbk.cell 5 _ rfl
                 clear hbk S4 hb5))
            go_loopw [11, 55] (fun u i wr => ∃ (j q : Nat), j ≤ 6 ∧ i = .int .i64 j ∧ u = .int .u64 (q : Int) ∧ Hid (q = markN (List.take j [M 0, M 1, M 2, M 3, M 4, M 5]) 7000) ∧ Hid (Ow w (fun _ => False) wr [Res.blk w.heap.size 47 #[.int .u64 (M 0 : Int), .int .u64 (M 1 : Int), .int .u64 (M 2 : Int), .int .u64 (M 3 : Int), .int .u64 (M 4 : Int), .int .u64 (M 5 : Int)], Res.row eiK (.slice A3 es'.length c3) es', Res.blk w5.heap.size 27 #[.int .u64 1, .int .u64 1, .int .u64 1, .int .u64 1, .int .u64 1, .int .u64 1], Res.blk (w5.heap.size + 1) 40 #[.int .i64 7, .int .i64 0, .int .i64 0, .int .i64 0, .string ⟨#[]⟩, .string ⟨#[]⟩, .string ⟨#[]⟩, .slice (some ⟨w5.heap.size, 0, none⟩) 6 6, .int .u64 6000], Res.blk (w5.heap.size + 2) 40 #[.int .i64 7, .int .i64 0, .int .i64 0, .int .i64 0, .string ⟨#[]⟩, .string ⟨#[]⟩, .string ⟨#[]⟩, .slice (some ⟨w.heap.size, 0, none⟩) 6 6, .int .u64 7000]])) (fun _ i _ => 6 - (intOf i).toNat)
            case atStart => exact ⟨0, 7000, by omega, rfl, rfl, hide rfl, S6⟩
            case round =>
              clear S6 z0 z1 z2 z3 z4 z5
              obtain ⟨j, q, hj, rfl, rfl, hq, HL6⟩ := hrel
              by_cases hlt : j < 6
              · obtain ⟨d, hc⟩ : ∃ d, ([M 0, M 1, M 2, M 3, M 4, M 5])[j]? = some d := ⟨_, List.getElem?_eq_getElem hlt⟩
                have hidx := fun W => index6 (a0 := .int .u64 (M 0 : Int)) (a1 := .int .u64 (M 1 : Int)) (a2 := .int .u64 (M 2 : Int)) (a3 := .int .u64 (M 3 : Int)) (a4 := .int .u64 (M 4 : Int)) (a5 := .int .u64 (M 5 : Int)) (v := .int .u64 (d : Int)) hlt (by
                  rw [List.getElem?_toArray]
                  have := congrArg (Option.map (fun x : Nat => Value.int .u64 (x : Int))) hc
                  rw [← List.getElem?_map] at this
                  exact this) W
                have HMK := hide (markN_take (pl := 7000) hc)
                have q0 : (0 : Int) ≤ (j : Int) := by omega
                have q1 : (j : Int) < 6 := by omega
                have HLT := hide hlt
                clear hc hlt
                by_cases hd0 : 0 < d
                · have g0 : (0 : Int) < (d : Int) := by omega
                  by_cases hdq : d < q
                  · have g1 : (d : Int) < (q : Int) := by omega
                    have HD : Hid (d = markN (List.take (j + 1) [M 0, M 1, M 2, M 3, M 4, M 5]) 7000) := hide (by rw [HMK.out, ← hq.out, if_pos ⟨hd0, hdq⟩])
                    clear hd0 hdq
                    go_wp2
                    go_roundw
                    case rel => exact ⟨j + 1, d, by have := HLT.out; omega, by go_num, by rw [Int.min_eq_right (by omega)], HD, HL6⟩
                    case measure => simp [intOf]; have := HLT.out; omega
                  · have g1 : ¬ (d : Int) < (q : Int) := by omega
                    have HD : Hid (q = markN (List.take (j + 1) [M 0, M 1, M 2, M 3, M 4, M 5]) 7000) := hide (by rw [HMK.out, ← hq.out, if_neg (fun h => hdq h.2)])
                    clear hd0 hdq
                    go_wp2
                    go_roundw
                    case rel => exact ⟨j + 1, q, by have := HLT.out; omega, by go_num, by rw [Int.min_eq_left (by omega)], HD, HL6⟩
                    case measure => simp [intOf]; have := HLT.out; omega
                · have g0 : ¬ (0 : Int) < (d : Int) := by omega
                  have HD : Hid (q = markN (List.take (j + 1) [M 0, M 1, M 2, M 3, M 4, M 5]) 7000) := hide (by rw [HMK.out, ← hq.out, if_neg (fun h => hd0 h.1)])
                  clear hd0
                  go_wp2
                  go_roundw
                  case rel => exact ⟨j + 1, q, by have := HLT.out; omega, by go_num, rfl, HD, HL6⟩
                  case measure => simp [intOf]; have := HLT.out; omega
              · obtain rfl : j = 6 := by omega
                have HDK : Hid (∀ w2, Below wr.heap.size wr w2 → ∀ x, (x ∈ es' ∨ x = (⟨⟨7, 0, 0, 0, ⟨#[]⟩, ⟨#[]⟩, ⟨#[]⟩, [1, 1, 1, 1, 1, 1]⟩, 6000, some ⟨w5.heap.size, 0, none⟩, 6⟩ : Ei) ∨ x = (⟨⟨7, 0, 0, 0, ⟨#[]⟩, ⟨#[]⟩, ⟨#[]⟩, [M 0, M 1, M 2, M 3, M 4, M 5]⟩, 7000, some ⟨w.heap.size, 0, none⟩, 6⟩ : Ei)) → DOk w2 x) := hide (fun w2 hb x hx => by
                  rcases hx with hx | rfl | rfl
                  · exact DOk.none (hd.out x hx)
                  · exact ⟨Blk.rd ((HL6.out.blk (i := 2) rfl).below hb) rfl (Nat.le_refl _), Nat.le_refl _⟩
                  · exact ⟨Blk.rd ((HL6.out.blk (i := 0) rfl).below hb) rfl (Nat.le_refl _), Nat.le_refl _⟩)
                have HA1 : Hid (∀ w2 v, Below wr.heap.size wr w2 → eiK.Row w2 v (es' ++ [(⟨⟨7, 0, 0, 0, ⟨#[]⟩, ⟨#[]⟩, ⟨#[]⟩, [1, 1, 1, 1, 1, 1]⟩, 6000, some ⟨w5.heap.size, 0, none⟩, 6⟩ : Ei), (⟨⟨7, 0, 0, 0, ⟨#[]⟩, ⟨#[]⟩, ⟨#[]⟩, [M 0, M 1, M 2, M 3, M 4, M 5]⟩, 7000, some ⟨w.heap.size, 0, none⟩, 6⟩ : Ei)]) → Calls Try.prog 12 #[v] w2 fun e w' => ∃ v, e = .returned v ∧ (sayPlan q).p w' v ∧ Below w2.heap.size w2 w') := hide (fun w2 v hb hr =>
                  (an_from HAN2.out hr (fun x hx => HDK.out w2 hb x (by simpa using hx)) (by rw [List.length_append]; have := HLE.out; simp only [List.length_cons, List.length_nil]; omega) ((fr_two es' _ _ rfl).trans hq.out.symm)).mono (fun e w' ⟨A5, n5, c5, o5, e1, h1⟩ => ⟨_, e1, ⟨A5, n5, c5, o5, rfl⟩, h1.out⟩))
                have HA2 : Hid (∀ w2 v, Below wr.heap.size wr w2 → eiK.Row w2 v (es' ++ [(⟨⟨7, 0, 0, 0, ⟨#[]⟩, ⟨#[]⟩, ⟨#[]⟩, [M 0, M 1, M 2, M 3, M 4, M 5]⟩, 7000, some ⟨w.heap.size, 0, none⟩, 6⟩ : Ei), (⟨⟨7, 0, 0, 0, ⟨#[]⟩, ⟨#[]⟩, ⟨#[]⟩, [1, 1, 1, 1, 1, 1]⟩, 6000, some ⟨w5.heap.size, 0, none⟩, 6⟩ : Ei)]) → Calls Try.prog 12 #[v] w2 fun e w' => ∃ v, e = .returned v ∧ (sayPlan 1).p w' v ∧ Below w2.heap.size w2 w') := hide (fun w2 v hb hr =>
                  (an_from HAN2.out hr (fun x hx => HDK.out w2 hb x (by simp only [List.mem_append, List.mem_cons, List.not_mem_nil, or_false] at hx; exact hx.imp id Or.symm)) (by rw [List.length_append]; have := HLE.out; simp only [List.length_cons, List.length_nil]; omega) ((fr_two es' _ _ rfl).trans rfl)).mono (fun e w' ⟨A5, n5, c5, o5, e1, h1⟩ => ⟨_, e1, ⟨A5, n5, c5, o5, rfl⟩, h1.out⟩))
                have HCUT := hide (fun W => run_cutE A3 es'.length c3 (HL6.out.krow (i := 1) rfl).cap.2 W)
                clear hlt hj hq
                go_upto_region 28 with (fail)
                refine region_grows [Say.is (.slice A3 es'.length c3), Say.is (.slice A3 es'.length c3), Say.is (.int .i64 (es'.length : Int)), Say.is (.slice A3 es'.length c3), Say.is (.int .i64 (es'.length : Int)), Say.is (.slice A3 es'.length es'.length), Say.is (.agg #[.int .i64 7, .int .i64 0, .int .i64 0, .int .i64 0, .string ⟨#[]⟩, .string ⟨#[]⟩, .string ⟨#[]⟩, .slice (some ⟨w5.heap.size, 0, none⟩) 6 6, .int .u64 6000]), Say.is (.agg #[.int .i64 7, .int .i64 0, .int .i64 0, .int .i64 0, .string ⟨#[]⟩, .string ⟨#[]⟩, .string ⟨#[]⟩, .slice (some ⟨w.heap.size, 0, none⟩) 6 6, .int .u64 7000]), sayTwo (#[.int .i64 7, .int .i64 0, .int .i64 0, .int .i64 0, .string ⟨#[]⟩, .string ⟨#[]⟩, .string ⟨#[]⟩, .slice (some ⟨w5.heap.size, 0, none⟩) 6 6, .int .u64 6000, .int .i64 7, .int .i64 0, .int .i64 0, .int .i64 0, .string ⟨#[]⟩, .string ⟨#[]⟩, .string ⟨#[]⟩, .slice (some ⟨w.heap.size, 0, none⟩) 6 6, .int .u64 7000]), sayEs (es' ++ [(⟨⟨7, 0, 0, 0, ⟨#[]⟩, ⟨#[]⟩, ⟨#[]⟩, [1, 1, 1, 1, 1, 1]⟩, 6000, some ⟨w5.heap.size, 0, none⟩, 6⟩ : Ei), (⟨⟨7, 0, 0, 0, ⟨#[]⟩, ⟨#[]⟩, ⟨#[]⟩, [M 0, M 1, M 2, M 3, M 4, M 5]⟩, 7000, some ⟨w.heap.size, 0, none⟩, 6⟩ : Ei)]), sayPlan (q), Say.is (.int .u64 (q : Int)), Say.is (.int .u64 (q : Int)), Say.is (.bool true), Say.is (.bool true), Say.is (.slice A3 es'.length c3), Say.is (.slice A3 es'.length c3), Say.is (.int .i64 (es'.length : Int)), Say.is (.slice A3 es'.length c3), Say.is (.int .i64 (es'.length : Int)), Say.is (.slice A3 es'.length es'.length), Say.is (.agg #[.int .i64 7, .int .i64 0, .int .i64 0, .int .i64 0, .string ⟨#[]⟩, .string ⟨#[]⟩, .string ⟨#[]⟩, .slice (some ⟨w.heap.size, 0, none⟩) 6 6, .int .u64 7000]), Say.is (.agg #[.int .i64 7, .int .i64 0, .int .i64 0, .int .i64 0, .string ⟨#[]⟩, .string ⟨#[]⟩, .string ⟨#[]⟩, .slice (some ⟨w5.heap.size, 0, none⟩) 6 6, .int .u64 6000]), sayTwo (#[.int .i64 7, .int .i64 0, .int .i64 0, .int .i64 0, .string ⟨#[]⟩, .string ⟨#[]⟩, .string ⟨#[]⟩, .slice (some ⟨w.heap.size, 0, none⟩) 6 6, .int .u64 7000, .int .i64 7, .int .i64 0, .int .i64 0, .int .i64 0, .string ⟨#[]⟩, .string ⟨#[]⟩, .string ⟨#[]⟩, .slice (some ⟨w5.heap.size, 0, none⟩) 6 6, .int .u64 6000]), sayEs (es' ++ [(⟨⟨7, 0, 0, 0, ⟨#[]⟩, ⟨#[]⟩, ⟨#[]⟩, [M 0, M 1, M 2, M 3, M 4, M 5]⟩, 7000, some ⟨w.heap.size, 0, none⟩, 6⟩ : Ei), (⟨⟨7, 0, 0, 0, ⟨#[]⟩, ⟨#[]⟩, ⟨#[]⟩, [1, 1, 1, 1, 1, 1]⟩, 6000, some ⟨w5.heap.size, 0, none⟩, 6⟩ : Ei)]), sayPlan (1), Say.is (.int .u64 1), Say.is (.bool true), Say.is (.bool true), Say.is (.bool true)] (by kernel_rfl) (by kernel_rfl) (by kernel_rfl) (by kernel_rfl) ?_ ?_
                · intro i o ho a w2 hb hsz old dep
                  match i, ho with
                  | 0, ho =>
                    obtain rfl := Option.some.inj ho
                    have o5 : a.tmps.getD 5 undef = _ := old 5 (by kernel_rfl)
                    rw [if_pos (wanted_none rfl)]
                    refine grow_same (v := .slice A3 es'.length c3) ?_ rfl
                    clear old dep ho hsz hb
                    go_simp
                  | 1, ho =>
                    obtain rfl := Option.some.inj ho
                    have o5 : a.tmps.getD 5 undef = _ := old 5 (by kernel_rfl)
                    rw [if_pos (wanted_none rfl)]
                    refine grow_same (v := .slice A3 es'.length c3) ?_ rfl
                    clear old dep ho hsz hb
                    go_simp
                  | 2, ho =>
                    obtain rfl := Option.some.inj ho
                    have d1 : a.tmps.getD 65 undef = .slice A3 es'.length c3 := dep 1 _ _ (by kernel_rfl) rfl rfl
                    have e1 : a.tmps[65]?.getD undef = _ := (Array.getD_eq_getD_getElem? ..).symm.trans d1
                    rw [if_pos (wanted_none rfl)]
                    refine grow_same (v := .int .i64 (es'.length : Int)) ?_ rfl
                    clear old dep ho hsz hb
                    go_simp
                  | 3, ho =>
                    obtain rfl := Option.some.inj ho
                    have o5 : a.tmps.getD 5 undef = _ := old 5 (by kernel_rfl)
                    rw [if_pos (wanted_none rfl)]
                    refine grow_same (v := .slice A3 es'.length c3) ?_ rfl
                    clear old dep ho hsz hb
                    go_simp
                  | 4, ho =>
                    obtain rfl := Option.some.inj ho
                    have d3 : a.tmps.getD 67 undef = .slice A3 es'.length c3 := dep 3 _ _ (by kernel_rfl) rfl rfl
                    have e3 : a.tmps[67]?.getD undef = _ := (Array.getD_eq_getD_getElem? ..).symm.trans d3
                    rw [if_pos (wanted_none rfl)]
                    refine grow_same (v := .int .i64 (es'.length : Int)) ?_ rfl
                    clear old dep ho hsz hb
                    go_simp
                  | 5, ho =>
                    obtain rfl := Option.some.inj ho
                    have d0 : a.tmps.getD 64 undef = .slice A3 es'.length c3 := dep 0 _ _ (by kernel_rfl) rfl rfl
                    have e0 : a.tmps[64]?.getD undef = _ := (Array.getD_eq_getD_getElem? ..).symm.trans d0
                    have d2 : a.tmps.getD 66 undef = .int .i64 (es'.length : Int) := dep 2 _ _ (by kernel_rfl) rfl rfl
                    have e2 : a.tmps[66]?.getD undef = _ := (Array.getD_eq_getD_getElem? ..).symm.trans d2
                    have d4 : a.tmps.getD 68 undef = .int .i64 (es'.length : Int) := dep 4 _ _ (by kernel_rfl) rfl rfl
                    have e4 : a.tmps[68]?.getD undef = _ := (Array.getD_eq_getD_getElem? ..).symm.trans d4
                    rw [if_pos (wanted_none rfl)]
                    have hcut := HCUT.out w2
                    refine grow_same (v := .slice A3 es'.length es'.length) ?_ rfl
                    clear old dep ho hsz hb
                    go_simp
                  | 6, ho =>
                    obtain rfl := Option.some.inj ho
                    have o9 : a.tmps.getD 9 undef = _ := old 9 (by kernel_rfl)
                    rw [if_pos (wanted_none rfl)]
                    have hx := (HL6.out.blk (i := 3) rfl).below hb
                    obtain ⟨x0, x1, x2, x3, x4, x5, x6, x7, x8⟩ := hx.nine
                    clear hx
                    refine grow_same (v := .agg #[.int .i64 7, .int .i64 0, .int .i64 0, .int .i64 0, .string ⟨#[]⟩, .string ⟨#[]⟩, .string ⟨#[]⟩, .slice (some ⟨w5.heap.size, 0, none⟩) 6 6, .int .u64 6000]) ?_ rfl
                    clear old dep ho hsz hb
                    go_simp
                  | 7, ho =>
                    obtain rfl := Option.some.inj ho
                    have o10 : a.tmps.getD 10 undef = _ := old 10 (by kernel_rfl)
                    rw [if_pos (wanted_none rfl)]
                    have hx := (HL6.out.blk (i := 4) rfl).below hb
                    obtain ⟨x0, x1, x2, x3, x4, x5, x6, x7, x8⟩ := hx.nine
                    clear hx
                    refine grow_same (v := .agg #[.int .i64 7, .int .i64 0, .int .i64 0, .int .i64 0, .string ⟨#[]⟩, .string ⟨#[]⟩, .string ⟨#[]⟩, .slice (some ⟨w.heap.size, 0, none⟩) 6 6, .int .u64 7000]) ?_ rfl
                    clear old dep ho hsz hb
                    go_simp
                  | 8, ho =>
                    obtain rfl := Option.some.inj ho
                    have d6 : a.tmps.getD 70 undef = .agg #[.int .i64 7, .int .i64 0, .int .i64 0, .int .i64 0, .string ⟨#[]⟩, .string ⟨#[]⟩, .string ⟨#[]⟩, .slice (some ⟨w5.heap.size, 0, none⟩) 6 6, .int .u64 6000] := dep 6 _ _ (by kernel_rfl) rfl rfl
                    have e6 : a.tmps[70]?.getD undef = _ := (Array.getD_eq_getD_getElem? ..).symm.trans d6
                    have d7 : a.tmps.getD 71 undef = .agg #[.int .i64 7, .int .i64 0, .int .i64 0, .int .i64 0, .string ⟨#[]⟩, .string ⟨#[]⟩, .string ⟨#[]⟩, .slice (some ⟨w.heap.size, 0, none⟩) 6 6, .int .u64 7000] := dep 7 _ _ (by kernel_rfl) rfl rfl
                    have e7 : a.tmps[71]?.getD undef = _ := (Array.getD_eq_getD_getElem? ..).symm.trans d7
                    rw [if_pos (wanted_none rfl)]
                    refine grow_yields (v := .slice (some ⟨w2.heap.size, 0, none⟩) 2 2) (w' := w2.alloc (.cells (#[.int .i64 7, .int .i64 0, .int .i64 0, .int .i64 0, .string ⟨#[]⟩, .string ⟨#[]⟩, .string ⟨#[]⟩, .slice (some ⟨w5.heap.size, 0, none⟩) 6 6, .int .u64 6000, .int .i64 7, .int .i64 0, .int .i64 0, .int .i64 0, .string ⟨#[]⟩, .string ⟨#[]⟩, .string ⟨#[]⟩, .slice (some ⟨w.heap.size, 0, none⟩) 6 6, .int .u64 7000]) 40)) ?_ ⟨w2.heap.size, rfl, heap_new w2 _⟩ ((Below.refl _ _).alloc (Nat.le_refl _) _)
                    clear old dep ho hsz hb
                    go_simp
                  | 9, ho =>
                    obtain rfl := Option.some.inj ho
                    have d5 : a.tmps.getD 69 undef = .slice A3 es'.length es'.length := dep 5 _ _ (by kernel_rfl) rfl rfl
                    have e5 : a.tmps[69]?.getD undef = _ := (Array.getD_eq_getD_getElem? ..).symm.trans d5
                    have s8 : (sayTwo (#[.int .i64 7, .int .i64 0, .int .i64 0, .int .i64 0, .string ⟨#[]⟩, .string ⟨#[]⟩, .string ⟨#[]⟩, .slice (some ⟨w5.heap.size, 0, none⟩) 6 6, .int .u64 6000, .int .i64 7, .int .i64 0, .int .i64 0, .int .i64 0, .string ⟨#[]⟩, .string ⟨#[]⟩, .string ⟨#[]⟩, .slice (some ⟨w.heap.size, 0, none⟩) 6 6, .int .u64 7000])).p w2 (a.tmps.getD 72 undef) := dep 8 _ _ (by kernel_rfl) rfl rfl
                    rw [if_pos (wanted_none rfl)]
                    obtain ⟨g2, eg, hg2⟩ := s8
                    have eg2 : a.tmps.getD 72 undef = .slice (some ⟨g2, 0, none⟩) 2 2 := eg
                    obtain ⟨v', w', hrun, hr, hbl, _⟩ := run_append_cut (K := eiK) (xs := [(⟨⟨7, 0, 0, 0, ⟨#[]⟩, ⟨#[]⟩, ⟨#[]⟩, [1, 1, 1, 1, 1, 1]⟩, 6000, some ⟨w5.heap.size, 0, none⟩, 6⟩ : Ei), (⟨⟨7, 0, 0, 0, ⟨#[]⟩, ⟨#[]⟩, ⟨#[]⟩, [M 0, M 1, M 2, M 3, M 4, M 5]⟩, 7000, some ⟨w.heap.size, 0, none⟩, 6⟩ : Ei)]) (m := 2) ((HL6.out.krow (i := 1) rfl).below hb) (two_cells hg2 rfl) rfl (by decide) (by have := HLE.out; omega) 25
                    exact grow_yields (v := v') (w' := w') (exec_append_run (.tmp 69) (.tmp 72) _ rfl d5 eg2 hrun) hr hbl
                  | 10, ho =>
                    obtain rfl := Option.some.inj ho
                    have s9 : (sayEs (es' ++ [(⟨⟨7, 0, 0, 0, ⟨#[]⟩, ⟨#[]⟩, ⟨#[]⟩, [1, 1, 1, 1, 1, 1]⟩, 6000, some ⟨w5.heap.size, 0, none⟩, 6⟩ : Ei), (⟨⟨7, 0, 0, 0, ⟨#[]⟩, ⟨#[]⟩, ⟨#[]⟩, [M 0, M 1, M 2, M 3, M 4, M 5]⟩, 7000, some ⟨w.heap.size, 0, none⟩, 6⟩ : Ei)])).p w2 (a.tmps.getD 73 undef) := dep 9 _ _ (by kernel_rfl) rfl rfl
                    rw [if_pos (wanted_none rfl)]
                    obtain ⟨vr, hvr⟩ : ∃ vr, a.tmps.getD 73 undef = vr := ⟨_, rfl⟩
                    rw [hvr] at s9
                    have e9 : a.tmps[73]?.getD undef = vr := (Array.getD_eq_getD_getElem? ..).symm.trans hvr
                    refine grow_enters (f := 12) (args := #[vr]) ?_ (HA1.out w2 vr hb s9)
                    clear old dep ho hsz hb
                    go_simp
                  | 11, ho =>
                    obtain rfl := Option.some.inj ho
                    have s10 : (sayPlan (q)).p w2 (a.tmps.getD 74 undef) := dep 10 _ _ (by kernel_rfl) rfl rfl
                    rw [if_pos (wanted_none rfl)]
                    obtain ⟨A5, n5, c5, o5, e10⟩ := s10
                    have e11 : a.tmps[74]?.getD undef = _ := (Array.getD_eq_getD_getElem? ..).symm.trans e10
                    have hfl := fun W => field_from (z := (q : Int)) (A5 := A5) (n5 := n5) (c5 := c5) (o5 := o5) W
                    refine grow_same (v := .int .u64 (q : Int)) ?_ rfl
                    clear old dep ho hsz hb
                    go_simp
                  | 12, ho =>
                    obtain rfl := Option.some.inj ho
                    have o11 : a.tmps.getD 11 undef = _ := old 11 (by kernel_rfl)
                    rw [if_pos (wanted_none rfl)]
                    refine grow_same (v := .int .u64 (q : Int)) ?_ rfl
                    clear old dep ho hsz hb
                    go_simp
                  | 13, ho =>
                    obtain rfl := Option.some.inj ho
                    have d11 : a.tmps.getD 75 undef = .int .u64 (q : Int) := dep 11 _ _ (by kernel_rfl) rfl rfl
                    have e11 : a.tmps[75]?.getD undef = _ := (Array.getD_eq_getD_getElem? ..).symm.trans d11
                    have d12 : a.tmps.getD 76 undef = .int .u64 (q : Int) := dep 12 _ _ (by kernel_rfl) rfl rfl
                    have e12 : a.tmps[76]?.getD undef = _ := (Array.getD_eq_getD_getElem? ..).symm.trans d12
                    rw [if_pos (wanted_none rfl)]
                    refine grow_same (v := .bool true) ?_ rfl
                    clear old dep ho hsz hb
                    go_simp
                  | 14, ho =>
                    obtain rfl := Option.some.inj ho
                    have d13 : a.tmps.getD 77 undef = .bool true := dep 13 _ _ (by kernel_rfl) rfl rfl
                    have e13 : a.tmps[77]?.getD undef = _ := (Array.getD_eq_getD_getElem? ..).symm.trans d13
                    rw [if_pos (wanted_none rfl)]
                    refine grow_same (v := .bool true) ?_ rfl
                    clear old dep ho hsz hb
                    go_simp
                  | 15, ho =>
                    obtain rfl := Option.some.inj ho
                    have o5 : a.tmps.getD 5 undef = _ := old 5 (by kernel_rfl)
                    have d14 : a.tmps.getD 78 undef = .bool true := dep 14 _ _ (by kernel_rfl) rfl rfl
                    have e14 : a.tmps[78]?.getD undef = _ := (Array.getD_eq_getD_getElem? ..).symm.trans d14
                    rw [if_pos (wanted_some rfl rfl rfl (by rw [hsz]; exact of_decide_eq_true rfl) d14)]
                    refine grow_same (v := .slice A3 es'.length c3) ?_ rfl
                    clear old dep ho hsz hb
                    go_simp
                  | 16, ho =>
                    obtain rfl := Option.some.inj ho
                    have o5 : a.tmps.getD 5 undef = _ := old 5 (by kernel_rfl)
                    have d14 : a.tmps.getD 78 undef = .bool true := dep 14 _ _ (by kernel_rfl) rfl rfl
                    have e14 : a.tmps[78]?.getD undef = _ := (Array.getD_eq_getD_getElem? ..).symm.trans d14
                    rw [if_pos (wanted_some rfl rfl rfl (by rw [hsz]; exact of_decide_eq_true rfl) d14)]
                    refine grow_same (v := .slice A3 es'.length c3) ?_ rfl
                    clear old dep ho hsz hb
                    go_simp
                  | 17, ho =>
                    obtain rfl := Option.some.inj ho
                    have d16 : a.tmps.getD 80 undef = .slice A3 es'.length c3 := dep 16 _ _ (by kernel_rfl) rfl rfl
                    have e16 : a.tmps[80]?.getD undef = _ := (Array.getD_eq_getD_getElem? ..).symm.trans d16
                    have d14 : a.tmps.getD 78 undef = .bool true := dep 14 _ _ (by kernel_rfl) rfl rfl
                    have e14 : a.tmps[78]?.getD undef = _ := (Array.getD_eq_getD_getElem? ..).symm.trans d14
                    rw [if_pos (wanted_some rfl rfl rfl (by rw [hsz]; exact of_decide_eq_true rfl) d14)]
                    refine grow_same (v := .int .i64 (es'.length : Int)) ?_ rfl
                    clear old dep ho hsz hb
                    go_simp
                  | 18, ho =>
                    obtain rfl := Option.some.inj ho
                    have o5 : a.tmps.getD 5 undef = _ := old 5 (by kernel_rfl)
                    have d14 : a.tmps.getD 78 undef = .bool true := dep 14 _ _ (by kernel_rfl) rfl rfl
                    have e14 : a.tmps[78]?.getD undef = _ := (Array.getD_eq_getD_getElem? ..).symm.trans d14
                    rw [if_pos (wanted_some rfl rfl rfl (by rw [hsz]; exact of_decide_eq_true rfl) d14)]
                    refine grow_same (v := .slice A3 es'.length c3) ?_ rfl
                    clear old dep ho hsz hb
                    go_simp
                  | 19, ho =>
                    obtain rfl := Option.some.inj ho
                    have d18 : a.tmps.getD 82 undef = .slice A3 es'.length c3 := dep 18 _ _ (by kernel_rfl) rfl rfl
                    have e18 : a.tmps[82]?.getD undef = _ := (Array.getD_eq_getD_getElem? ..).symm.trans d18
                    have d14 : a.tmps.getD 78 undef = .bool true := dep 14 _ _ (by kernel_rfl) rfl rfl
                    have e14 : a.tmps[78]?.getD undef = _ := (Array.getD_eq_getD_getElem? ..).symm.trans d14
                    rw [if_pos (wanted_some rfl rfl rfl (by rw [hsz]; exact of_decide_eq_true rfl) d14)]
                    refine grow_same (v := .int .i64 (es'.length : Int)) ?_ rfl
                    clear old dep ho hsz hb
                    go_simp
                  | 20, ho =>
                    obtain rfl := Option.some.inj ho
                    have d15 : a.tmps.getD 79 undef = .slice A3 es'.length c3 := dep 15 _ _ (by kernel_rfl) rfl rfl
                    have e15 : a.tmps[79]?.getD undef = _ := (Array.getD_eq_getD_getElem? ..).symm.trans d15
                    have d17 : a.tmps.getD 81 undef = .int .i64 (es'.length : Int) := dep 17 _ _ (by kernel_rfl) rfl rfl
                    have e17 : a.tmps[81]?.getD undef = _ := (Array.getD_eq_getD_getElem? ..).symm.trans d17
                    have d19 : a.tmps.getD 83 undef = .int .i64 (es'.length : Int) := dep 19 _ _ (by kernel_rfl) rfl rfl
                    have e19 : a.tmps[83]?.getD undef = _ := (Array.getD_eq_getD_getElem? ..).symm.trans d19
                    have d14 : a.tmps.getD 78 undef = .bool true := dep 14 _ _ (by kernel_rfl) rfl rfl
                    have e14 : a.tmps[78]?.getD undef = _ := (Array.getD_eq_getD_getElem? ..).symm.trans d14
                    rw [if_pos (wanted_some rfl rfl rfl (by rw [hsz]; exact of_decide_eq_true rfl) d14)]
                    have hcut := HCUT.out w2
                    refine grow_same (v := .slice A3 es'.length es'.length) ?_ rfl
                    clear old dep ho hsz hb
                    go_simp
                  | 21, ho =>
                    obtain rfl := Option.some.inj ho
                    have o10 : a.tmps.getD 10 undef = _ := old 10 (by kernel_rfl)
                    have d14 : a.tmps.getD 78 undef = .bool true := dep 14 _ _ (by kernel_rfl) rfl rfl
                    have e14 : a.tmps[78]?.getD undef = _ := (Array.getD_eq_getD_getElem? ..).symm.trans d14
                    rw [if_pos (wanted_some rfl rfl rfl (by rw [hsz]; exact of_decide_eq_true rfl) d14)]
                    have hx := (HL6.out.blk (i := 4) rfl).below hb
                    obtain ⟨x0, x1, x2, x3, x4, x5, x6, x7, x8⟩ := hx.nine
                    clear hx
                    refine grow_same (v := .agg #[.int .i64 7, .int .i64 0, .int .i64 0, .int .i64 0, .string ⟨#[]⟩, .string ⟨#[]⟩, .string ⟨#[]⟩, .slice (some ⟨w.heap.size, 0, none⟩) 6 6, .int .u64 7000]) ?_ rfl
                    clear old dep ho hsz hb
                    go_simp
                  | 22, ho =>
                    obtain rfl := Option.some.inj ho
                    have o9 : a.tmps.getD 9 undef = _ := old 9 (by kernel_rfl)
                    have d14 : a.tmps.getD 78 undef = .bool true := dep 14 _ _ (by kernel_rfl) rfl rfl
                    have e14 : a.tmps[78]?.getD undef = _ := (Array.getD_eq_getD_getElem? ..).symm.trans d14
                    rw [if_pos (wanted_some rfl rfl rfl (by rw [hsz]; exact of_decide_eq_true rfl) d14)]
                    have hx := (HL6.out.blk (i := 3) rfl).below hb
                    obtain ⟨x0, x1, x2, x3, x4, x5, x6, x7, x8⟩ := hx.nine
                    clear hx
                    refine grow_same (v := .agg #[.int .i64 7, .int .i64 0, .int .i64 0, .int .i64 0, .string ⟨#[]⟩, .string ⟨#[]⟩, .string ⟨#[]⟩, .slice (some ⟨w5.heap.size, 0, none⟩) 6 6, .int .u64 6000]) ?_ rfl
                    clear old dep ho hsz hb
                    go_simp
                  | 23, ho =>
                    obtain rfl := Option.some.inj ho
                    have d21 : a.tmps.getD 85 undef = .agg #[.int .i64 7, .int .i64 0, .int .i64 0, .int .i64 0, .string ⟨#[]⟩, .string ⟨#[]⟩, .string ⟨#[]⟩, .slice (some ⟨w.heap.size, 0, none⟩) 6 6, .int .u64 7000] := dep 21 _ _ (by kernel_rfl) rfl rfl
                    have e21 : a.tmps[85]?.getD undef = _ := (Array.getD_eq_getD_getElem? ..).symm.trans d21
                    have d22 : a.tmps.getD 86 undef = .agg #[.int .i64 7, .int .i64 0, .int .i64 0, .int .i64 0, .string ⟨#[]⟩, .string ⟨#[]⟩, .string ⟨#[]⟩, .slice (some ⟨w5.heap.size, 0, none⟩) 6 6, .int .u64 6000] := dep 22 _ _ (by kernel_rfl) rfl rfl
                    have e22 : a.tmps[86]?.getD undef = _ := (Array.getD_eq_getD_getElem? ..).symm.trans d22
                    have d14 : a.tmps.getD 78 undef = .bool true := dep 14 _ _ (by kernel_rfl) rfl rfl
                    have e14 : a.tmps[78]?.getD undef = _ := (Array.getD_eq_getD_getElem? ..).symm.trans d14
                    rw [if_pos (wanted_some rfl rfl rfl (by rw [hsz]; exact of_decide_eq_true rfl) d14)]
                    refine grow_yields (v := .slice (some ⟨w2.heap.size, 0, none⟩) 2 2) (w' := w2.alloc (.cells (#[.int .i64 7, .int .i64 0, .int .i64 0, .int .i64 0, .string ⟨#[]⟩, .string ⟨#[]⟩, .string ⟨#[]⟩, .slice (some ⟨w.heap.size, 0, none⟩) 6 6, .int .u64 7000, .int .i64 7, .int .i64 0, .int .i64 0, .int .i64 0, .string ⟨#[]⟩, .string ⟨#[]⟩, .string ⟨#[]⟩, .slice (some ⟨w5.heap.size, 0, none⟩) 6 6, .int .u64 6000]) 40)) ?_ ⟨w2.heap.size, rfl, heap_new w2 _⟩ ((Below.refl _ _).alloc (Nat.le_refl _) _)
                    clear old dep ho hsz hb
                    go_simp
                  | 24, ho =>
                    obtain rfl := Option.some.inj ho
                    have d20 : a.tmps.getD 84 undef = .slice A3 es'.length es'.length := dep 20 _ _ (by kernel_rfl) rfl rfl
                    have e20 : a.tmps[84]?.getD undef = _ := (Array.getD_eq_getD_getElem? ..).symm.trans d20
                    have s23 : (sayTwo (#[.int .i64 7, .int .i64 0, .int .i64 0, .int .i64 0, .string ⟨#[]⟩, .string ⟨#[]⟩, .string ⟨#[]⟩, .slice (some ⟨w.heap.size, 0, none⟩) 6 6, .int .u64 7000, .int .i64 7, .int .i64 0, .int .i64 0, .int .i64 0, .string ⟨#[]⟩, .string ⟨#[]⟩, .string ⟨#[]⟩, .slice (some ⟨w5.heap.size, 0, none⟩) 6 6, .int .u64 6000])).p w2 (a.tmps.getD 87 undef) := dep 23 _ _ (by kernel_rfl) rfl rfl
                    have d14 : a.tmps.getD 78 undef = .bool true := dep 14 _ _ (by kernel_rfl) rfl rfl
                    have e14 : a.tmps[78]?.getD undef = _ := (Array.getD_eq_getD_getElem? ..).symm.trans d14
                    rw [if_pos (wanted_some rfl rfl rfl (by rw [hsz]; exact of_decide_eq_true rfl) d14)]
                    obtain ⟨g2, eg, hg2⟩ := s23
                    have eg2 : a.tmps.getD 87 undef = .slice (some ⟨g2, 0, none⟩) 2 2 := eg
                    obtain ⟨v', w', hrun, hr, hbl, _⟩ := run_append_cut (K := eiK) (xs := [(⟨⟨7, 0, 0, 0, ⟨#[]⟩, ⟨#[]⟩, ⟨#[]⟩, [M 0, M 1, M 2, M 3, M 4, M 5]⟩, 7000, some ⟨w.heap.size, 0, none⟩, 6⟩ : Ei), (⟨⟨7, 0, 0, 0, ⟨#[]⟩, ⟨#[]⟩, ⟨#[]⟩, [1, 1, 1, 1, 1, 1]⟩, 6000, some ⟨w5.heap.size, 0, none⟩, 6⟩ : Ei)]) (m := 2) ((HL6.out.krow (i := 1) rfl).below hb) (two_cells hg2 rfl) rfl (by decide) (by have := HLE.out; omega) 25
                    exact grow_yields (v := v') (w' := w') (exec_append_run (.tmp 84) (.tmp 87) _ rfl d20 eg2 hrun) hr hbl
                  | 25, ho =>
                    obtain rfl := Option.some.inj ho
                    have s24 : (sayEs (es' ++ [(⟨⟨7, 0, 0, 0, ⟨#[]⟩, ⟨#[]⟩, ⟨#[]⟩, [M 0, M 1, M 2, M 3, M 4, M 5]⟩, 7000, some ⟨w.heap.size, 0, none⟩, 6⟩ : Ei), (⟨⟨7, 0, 0, 0, ⟨#[]⟩, ⟨#[]⟩, ⟨#[]⟩, [1, 1, 1, 1, 1, 1]⟩, 6000, some ⟨w5.heap.size, 0, none⟩, 6⟩ : Ei)])).p w2 (a.tmps.getD 88 undef) := dep 24 _ _ (by kernel_rfl) rfl rfl
                    have d14 : a.tmps.getD 78 undef = .bool true := dep 14 _ _ (by kernel_rfl) rfl rfl
                    have e14 : a.tmps[78]?.getD undef = _ := (Array.getD_eq_getD_getElem? ..).symm.trans d14
                    rw [if_pos (wanted_some rfl rfl rfl (by rw [hsz]; exact of_decide_eq_true rfl) d14)]
                    obtain ⟨vr, hvr⟩ : ∃ vr, a.tmps.getD 88 undef = vr := ⟨_, rfl⟩
                    rw [hvr] at s24
                    have e9 : a.tmps[88]?.getD undef = vr := (Array.getD_eq_getD_getElem? ..).symm.trans hvr
                    refine grow_enters (f := 12) (args := #[vr]) ?_ (HA2.out w2 vr hb s24)
                    clear old dep ho hsz hb
                    go_simp
                  | 26, ho =>
                    obtain rfl := Option.some.inj ho
                    have s25 : (sayPlan (1)).p w2 (a.tmps.getD 89 undef) := dep 25 _ _ (by kernel_rfl) rfl rfl
                    have d14 : a.tmps.getD 78 undef = .bool true := dep 14 _ _ (by kernel_rfl) rfl rfl
                    have e14 : a.tmps[78]?.getD undef = _ := (Array.getD_eq_getD_getElem? ..).symm.trans d14
                    rw [if_pos (wanted_some rfl rfl rfl (by rw [hsz]; exact of_decide_eq_true rfl) d14)]
                    obtain ⟨A5, n5, c5, o5, e10⟩ := s25
                    have e11 : a.tmps[89]?.getD undef = _ := (Array.getD_eq_getD_getElem? ..).symm.trans e10
                    have hfl := fun W => field_from (z := 1) (A5 := A5) (n5 := n5) (c5 := c5) (o5 := o5) W
                    refine grow_same (v := .int .u64 1) ?_ rfl
                    clear old dep ho hsz hb
                    go_simp
                  | 27, ho =>
                    obtain rfl := Option.some.inj ho
                    have d26 : a.tmps.getD 90 undef = .int .u64 1 := dep 26 _ _ (by kernel_rfl) rfl rfl
                    have e26 : a.tmps[90]?.getD undef = _ := (Array.getD_eq_getD_getElem? ..).symm.trans d26
                    have d14 : a.tmps.getD 78 undef = .bool true := dep 14 _ _ (by kernel_rfl) rfl rfl
                    have e14 : a.tmps[78]?.getD undef = _ := (Array.getD_eq_getD_getElem? ..).symm.trans d14
                    rw [if_pos (wanted_some rfl rfl rfl (by rw [hsz]; exact of_decide_eq_true rfl) d14)]
                    refine grow_same (v := .bool true) ?_ rfl
                    clear old dep ho hsz hb
                    go_simp
                  | 28, ho =>
                    obtain rfl := Option.some.inj ho
                    have d14 : a.tmps.getD 78 undef = .bool true := dep 14 _ _ (by kernel_rfl) rfl rfl
                    have e14 : a.tmps[78]?.getD undef = _ := (Array.getD_eq_getD_getElem? ..).symm.trans d14
                    have d27 : a.tmps.getD 91 undef = .bool true := dep 27 _ _ (by kernel_rfl) rfl rfl
                    have e27 : a.tmps[91]?.getD undef = _ := (Array.getD_eq_getD_getElem? ..).symm.trans d27
                    rw [if_pos (wanted_none rfl)]
                    refine grow_same (v := .bool true) ?_ rfl
                    clear old dep ho hsz hb
                    go_simp
                  | 29, ho =>
                    obtain rfl := Option.some.inj ho
                    have d28 : a.tmps.getD 92 undef = .bool true := dep 28 _ _ (by kernel_rfl) rfl rfl
                    have e28 : a.tmps[92]?.getD undef = _ := (Array.getD_eq_getD_getElem? ..).symm.trans d28
                    rw [if_pos (wanted_none rfl)]
                    refine grow_same (v := .bool true) ?_ rfl
                    clear old dep ho hsz hb
                    go_simp
                  | i + 30, ho => exact absurd ho (by simp)
                · intro a w2 hb hsz hdf fin keep
                  obtain ⟨tm, df⟩ := a
                  have hx := frame_of [64, 65, 66, 67, 68, 69, 70, 71, 72, 73, 74, 75, 76, 77, 78, 79, 80, 81, 82, 83, 84, 85, 86, 87, 88, 89, 90, 91, 92, 4] (by kernel_rfl) hsz keep
                  dsimp only at hdf hx
                  simp only [List.foldl_cons, List.foldl_nil] at hx
                  subst hdf
                  clear hsz keep
                  have kn : tm.getD 64 undef = .slice A3 es'.length c3 := fin 0 _ _ rfl rfl
                  rw [kn] at hx
                  clear kn
                  have kn : tm.getD 65 undef = .slice A3 es'.length c3 := fin 1 _ _ rfl rfl
                  rw [kn] at hx
                  clear kn
                  have kn : tm.getD 66 undef = .int .i64 (es'.length : Int) := fin 2 _ _ rfl rfl
                  rw [kn] at hx
                  clear kn
                  have kn : tm.getD 67 undef = .slice A3 es'.length c3 := fin 3 _ _ rfl rfl
                  rw [kn] at hx
                  clear kn
                  have kn : tm.getD 68 undef = .int .i64 (es'.length : Int) := fin 4 _ _ rfl rfl
                  rw [kn] at hx
                  clear kn
                  have kn : tm.getD 69 undef = .slice A3 es'.length es'.length := fin 5 _ _ rfl rfl
                  rw [kn] at hx
                  clear kn
                  have kn : tm.getD 70 undef = .agg #[.int .i64 7, .int .i64 0, .int .i64 0, .int .i64 0, .string ⟨#[]⟩, .string ⟨#[]⟩, .string ⟨#[]⟩, .slice (some ⟨w5.heap.size, 0, none⟩) 6 6, .int .u64 6000] := fin 6 _ _ rfl rfl
                  rw [kn] at hx
                  clear kn
                  have kn : tm.getD 71 undef = .agg #[.int .i64 7, .int .i64 0, .int .i64 0, .int .i64 0, .string ⟨#[]⟩, .string ⟨#[]⟩, .string ⟨#[]⟩, .slice (some ⟨w.heap.size, 0, none⟩) 6 6, .int .u64 7000] := fin 7 _ _ rfl rfl
                  rw [kn] at hx
                  clear kn
                  generalize tm.getD 72 undef = y72 at hx
                  generalize tm.getD 73 undef = y73 at hx
                  generalize tm.getD 74 undef = y74 at hx
                  have kn : tm.getD 75 undef = .int .u64 (q : Int) := fin 11 _ _ rfl rfl
                  rw [kn] at hx
                  clear kn
                  have kn : tm.getD 76 undef = .int .u64 (q : Int) := fin 12 _ _ rfl rfl
                  rw [kn] at hx
                  clear kn
                  have kn : tm.getD 77 undef = .bool true := fin 13 _ _ rfl rfl
                  rw [kn] at hx
                  clear kn
                  have kn : tm.getD 78 undef = .bool true := fin 14 _ _ rfl rfl
                  rw [kn] at hx
                  clear kn
                  have kn : tm.getD 79 undef = .slice A3 es'.length c3 := fin 15 _ _ rfl rfl
                  rw [kn] at hx
                  clear kn
                  have kn : tm.getD 80 undef = .slice A3 es'.length c3 := fin 16 _ _ rfl rfl
                  rw [kn] at hx
                  clear kn
                  have kn : tm.getD 81 undef = .int .i64 (es'.length : Int) := fin 17 _ _ rfl rfl
                  rw [kn] at hx
                  clear kn
                  have kn : tm.getD 82 undef = .slice A3 es'.length c3 := fin 18 _ _ rfl rfl
                  rw [kn] at hx
                  clear kn
                  have kn : tm.getD 83 undef = .int .i64 (es'.length : Int) := fin 19 _ _ rfl rfl
                  rw [kn] at hx
                  clear kn
                  have kn : tm.getD 84 undef = .slice A3 es'.length es'.length := fin 20 _ _ rfl rfl
                  rw [kn] at hx
                  clear kn
                  have kn : tm.getD 85 undef = .agg #[.int .i64 7, .int .i64 0, .int .i64 0, .int .i64 0, .string ⟨#[]⟩, .string ⟨#[]⟩, .string ⟨#[]⟩, .slice (some ⟨w.heap.size, 0, none⟩) 6 6, .int .u64 7000] := fin 21 _ _ rfl rfl
                  rw [kn] at hx
                  clear kn
                  have kn : tm.getD 86 undef = .agg #[.int .i64 7, .int .i64 0, .int .i64 0, .int .i64 0, .string ⟨#[]⟩, .string ⟨#[]⟩, .string ⟨#[]⟩, .slice (some ⟨w5.heap.size, 0, none⟩) 6 6, .int .u64 6000] := fin 22 _ _ rfl rfl
                  rw [kn] at hx
                  clear kn
                  generalize tm.getD 87 undef = y87 at hx
                  generalize tm.getD 88 undef = y88 at hx
                  generalize tm.getD 89 undef = y89 at hx
                  have kn : tm.getD 90 undef = .int .u64 1 := fin 26 _ _ rfl rfl
                  rw [kn] at hx
                  clear kn
                  have kn : tm.getD 91 undef = .bool true := fin 27 _ _ rfl rfl
                  rw [kn] at hx
                  clear kn
                  have kn : tm.getD 92 undef = .bool true := fin 28 _ _ rfl rfl
                  rw [kn] at hx
                  clear kn
                  have kn : tm.getD 4 undef = .bool true := fin 29 _ _ rfl rfl
                  rw [kn] at hx
                  clear kn
                  clear fin
                  simp only [List.setIfInBounds_toArray, List.set_cons_succ, List.set_cons_zero] at hx
                  subst hx
                  go_wp2
                  go_ret
                  exact ⟨rfl, (HL6.out.below hb).bel⟩
end Go.Proofs.Ytoifghofkjomnaa
