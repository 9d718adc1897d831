/-
  Contract of Analyse (written by r12/mkan12.py).
-/
import Derived.Test.YtoifghofkjomnaaFol12
import Derived.Test.YtoifghofkjomnaaMute12
namespace Go.Proofs.Ytoifghofkjomnaa
open Go.RowKit
set_option maxRecDepth 20000
set_option linter.unusedSimpArgs false
set_option linter.unusedVariables false

theorem Ow.getNew {A0 W : World} {L : List Res} {i : Nat} {r : Res} (h : Ow A0 (fun _ => False) W L) (hi : L[i]? = some r) : ∃ S, r.At W S ∧ ∀ k, S k → A0.heap.size ≤ k := by
  obtain ⟨F, ⟨lab, h1, h2, h3⟩, h4, h5⟩ := h
  exact ⟨_, h3 i r hi, fun k hk => (h5 k ((h1 k).2 (by rw [hk]; omega))).elim False.elim id⟩
theorem from_lit {w : World} {x : Ei} (hd : DOk w x) : Calls Try.prog 16 #[.agg #[.int .i64 (x.r.k : Int), .int .i64 (x.r.t : Int), .int .i64 (x.r.p : Int), .int .i64 (x.r.s : Int), .string x.r.b, .string x.r.a, .string x.r.i, .slice x.A x.r.ds.length x.c, .int .u64 (x.pl : Int)]] w fun e w' => e = .returned (.int .u64 (markN x.r.ds x.pl : Int)) ∧ Below w.heap.size w w' := from_any hd
theorem follow_lit {A0 w : World} {F0 : Nat → Prop} {R : Res} {pb fr : Nat} {vs : Nat → Value} {os : Nat → Bool} {ls : Nat → List Ch} {x : Ei} (h : Ow A0 F0 w (PL R pb fr vs vs os ls)) (h4 : x.r.t < 4) (hl : (ls x.r.t).length ≤ 100000) :
    Calls Try.prog 17 #[.pointer (some ⟨pb, 0, none⟩), .agg #[.int .i64 (x.r.k : Int), .int .i64 (x.r.t : Int), .int .i64 (x.r.p : Int), .int .i64 (x.r.s : Int), .string x.r.b, .string x.r.a, .string x.r.i, .slice x.A x.r.ds.length x.c, .int .u64 (x.pl : Int)]] w fun e w' => e = .returned (.tuple #[]) ∧ ∃ vs', Ow A0 F0 w' (PL R pb fr vs' vs' (setN os x.r.t (opS x.r.t (os x.r.t) x.r)) (setN ls x.r.t (loS x.r.t (ls x.r.t) x.r))) := follow_any h rfl h4 hl
/-- A record more. -/
theorem plan_in (es : List Ei) (x : Ei) (h1 : 1 ≤ x.r.t) (h4 : x.r.t < 4) : setN (loP es) x.r.t (loS x.r.t (loP es x.r.t) x.r) = loP (es ++ [x]) ∧ setN (opP es) x.r.t (opS x.r.t (opP es x.r.t) x.r) = opP (es ++ [x]) := by
  constructor <;> funext t
  · by_cases e : t = x.r.t
    · subst e
      rw [setN_at, loP_snoc _ _ (by omega)]
    · rw [setN_ne _ _ e]
      by_cases ht : 1 ≤ t ∧ t ≤ 3
      · rw [loP_snoc _ _ ht]
        exact (if_neg (fun h => e h.symm)).symm
      · rw [loP_out _ ht, loP_out _ ht]
  · by_cases e : t = x.r.t
    · subst e
      rw [setN_at, opP_snoc _ _ (by omega)]
    · rw [setN_ne _ _ e]
      by_cases ht : 1 ≤ t ∧ t ≤ 3
      · rw [opP_snoc _ _ ht]
        exact (if_neg (fun h => e h.symm)).symm
      · rw [opP_out _ ht, opP_out _ ht]
theorem plan_out (es : List Ei) (x : Ei) (h : ¬ (1 ≤ x.r.t ∧ x.r.t ≤ 3)) : loP es = loP (es ++ [x]) ∧ opP es = opP (es ++ [x]) := by
  constructor <;> funext t
  · by_cases ht : 1 ≤ t ∧ t ≤ 3
    · rw [loP_snoc _ _ ht]
      exact (if_neg (fun e => h (by omega))).symm
    · rw [loP_out _ ht, loP_out _ ht]
  · by_cases ht : 1 ≤ t ∧ t ≤ 3
    · rw [opP_snoc _ _ ht]
      exact (if_neg (fun e => h (by omega))).symm
    · rw [opP_out _ ht, opP_out _ ht]
set_option maxHeartbeats 16000000 in
theorem an_said : AnSaid := by
  intro W v es hr hd hl
  obtain ⟨A, c, rfl⟩ := hr.form
  obtain ⟨n, hn⟩ : ∃ n, es.length = n := ⟨_, rfl⟩
  have HR := hide hr
  have HD := hide hd
  have HN := hide hn
  have qn : (n : Int) ≤ 1000 := by omega
  have qn2 : n ≤ 1000 := by omega
  rw [hn]
  have S0 : Hid (Ow W (fun _ => False) ((W.alloc (.cells #[.int .u64 0, .slice none 0 0, .slice none 0 0, .slice none 0 0, .slice none 0 0, .bool false, .bool false, .bool false, .bool false] 32)).alloc (.cells #[.int .u64 0, .slice none 0 0, .slice none 0 0, .slice none 0 0, .slice none 0 0, .bool false, .bool false, .bool false, .bool false] 32)) (PL (Res.blk W.heap.size 32 #[.int .u64 0, .slice none 0 0, .slice none 0 0, .slice none 0 0, .slice none 0 0, .bool false, .bool false, .bool false, .bool false]) (W.heap.size + 1) (frP (es.take 0)) (fun _ => .slice none 0 0) (fun _ => .slice none 0 0) (opP (es.take 0)) (loP (es.take 0)))) := hide (by
    rw [List.take_zero, show opP [] = fun _ => false from funext opP_nil, show loP [] = fun _ => [] from funext loP_nil]
    have h1 := (((Ow.start W).box 32 #[.int .u64 0, .slice none 0 0, .slice none 0 0, .slice none 0 0, .slice none 0 0, .bool false, .bool false, .bool false, .bool false]).box 32 #[.int .u64 0, .slice none 0 0, .slice none 0 0, .slice none 0 0, .slice none 0 0, .bool false, .bool false, .bool false, .bool false]).newrows chK 4
    have e : (W.alloc (.cells #[.int .u64 0, .slice none 0 0, .slice none 0 0, .slice none 0 0, .slice none 0 0, .bool false, .bool false, .bool false, .bool false] 32)).heap.size = W.heap.size + 1 := by simp
    rw [e] at h1
    exact h1)
  clear hr hd hn hl
  go_enter Try.func12, Try.ntmps12
  go_wp2
  go_loopw [8] (fun i wr => ∃ (j : Nat) (vs : Nat → Value), j ≤ n ∧ i = .int .i64 j ∧ Hid (Ow W (fun _ => False) wr (PL (Res.blk W.heap.size 32 #[.int .u64 0, .slice none 0 0, .slice none 0 0, .slice none 0 0, .slice none 0 0, .bool false, .bool false, .bool false, .bool false]) (W.heap.size + 1) (frP (es.take j)) vs vs (opP (es.take j)) (loP (es.take j))))) (fun i _ => n - (intOf i).toNat)
  case atStart => exact ⟨0, _, by omega, rfl, S0⟩
  case round =>
    clear S0
    obtain ⟨j, vs, hj, rfl, hs⟩ := hrel
    by_cases hlt : j < n
    · obtain ⟨x, hc⟩ : ∃ x, es[j]? = some x := ⟨_, List.getElem?_eq_getElem (by have := HN.out; omega)⟩
      obtain ⟨b1, cb, e1, _⟩ := HR.out.block (by have := HN.out; omega)
      injection e1 with e1 e2 e3
      subst e1
      clear e2 e3
      have g := fun (k : Nat) (u : Value) hu => (HR.out.below hs.out.bel).cells hc k u hu
      have i0 : wr.cell? ⟨b1, j * 9, none⟩ = some (.int .i64 (x.r.k : Int)) := g 0 _ rfl
      have i1 : wr.cell? ⟨b1, j * 9 + 1, none⟩ = some (.int .i64 (x.r.t : Int)) := g 1 _ rfl
      have i2 : wr.cell? ⟨b1, j * 9 + 2, none⟩ = some (.int .i64 (x.r.p : Int)) := g 2 _ rfl
      have i3 : wr.cell? ⟨b1, j * 9 + 3, none⟩ = some (.int .i64 (x.r.s : Int)) := g 3 _ rfl
      have i4 : wr.cell? ⟨b1, j * 9 + 4, none⟩ = some (.string x.r.b) := g 4 _ rfl
      have i5 : wr.cell? ⟨b1, j * 9 + 5, none⟩ = some (.string x.r.a) := g 5 _ rfl
      have i6 : wr.cell? ⟨b1, j * 9 + 6, none⟩ = some (.string x.r.i) := g 6 _ rfl
      have i7 : wr.cell? ⟨b1, j * 9 + 7, none⟩ = some (.slice x.A x.r.ds.length x.c) := g 7 _ rfl
      have i8 : wr.cell? ⟨b1, j * 9 + 8, none⟩ = some (.int .u64 (x.pl : Int)) := g 8 _ rfl
      have HDX : Hid (DOk (wr.alloc (.cells #[.int .i64 (x.r.k : Int), .int .i64 (x.r.t : Int), .int .i64 (x.r.p : Int), .int .i64 (x.r.s : Int), .string x.r.b, .string x.r.a, .string x.r.i, .slice x.A x.r.ds.length x.c, .int .u64 (x.pl : Int)] 40)) x) := hide ⟨Rd.alloc (Rd.below (HD.out x (List.mem_of_getElem? hc)).1 hs.out.bel) _, (HD.out x (List.mem_of_getElem? hc)).2⟩
      have SB := hide (hs.out.box 40 #[.int .i64 (x.r.k : Int), .int .i64 (x.r.t : Int), .int .i64 (x.r.p : Int), .int .i64 (x.r.s : Int), .string x.r.b, .string x.r.a, .string x.r.i, .slice x.A x.r.ds.length x.c, .int .u64 (x.pl : Int)])
      have q0 : (0 : Int) ≤ (j : Int) := by omega
      have q1 : (j : Int) < (n : Int) := by omega
      have HTK : Hid (es.take (j + 1) = es.take j ++ [x]) := hide (by rw [List.take_add_one, hc]; rfl)
      have HLT := hide hlt
      have HLO : Hid ((loP (es.take j) x.r.t).length ≤ 100000) := hide (Nat.le_trans (loP_length (es.take j) x.r.t) (by rw [List.length_take]; omega))
      clear g hlt hc
      by_cases k7 : x.r.k = 7
      · obtain ht | ht | ht : x.r.t < 1 ∨ 3 < x.r.t ∨ (1 ≤ x.r.t ∧ x.r.t ≤ 3) := by omega
        · have g7 : ((x.r.k : Int) == 7) = true := by rw [k7]; rfl
          have HFR : Hid ((markN x.r.ds x.pl) = frP (es.take (j + 1))) := hide (by rw [HTK.out, frP_snoc]; exact (if_pos k7).symm)
          have t1 : ¬ (1 : Int) ≤ (x.r.t : Int) := by omega
          have HPO := hide (plan_out (es.take j) x (by omega))
          have HK := hide (from_lit HDX.out)
          clear k7
          clear ht
          go_wp2_with (first
            | (go_at_call 16; (with_reducible refine HK.out.mono ?_); rintro e wf ⟨rfl, hbf⟩; clear HK; have SF := SB.out.below hbf; have S2 := hide (SF.set_ (i := 1) rfl 0 (.int .u64 (markN x.r.ds x.pl : Int))); obtain ⟨u0, u1, u2, u3, u4, u5, u6, u7, u8⟩ := (S2.out.blk (i := 3) rfl).nine; have hbp := SF.blk (i := 1) rfl; have c0 : wf.cell? ⟨W.heap.size + 1, 0, none⟩ = some (.int .u64 (frP (es.take j) : Int)) := hbp.cell 0 _ rfl; have f0 := hbp.frozen 0; have S3 : Hid (Ow W (fun _ => False) (wf.setCell ⟨W.heap.size + 1, 0, none⟩ (.int .u64 (markN x.r.ds x.pl : Int))) (PL (Res.blk W.heap.size 32 #[.int .u64 0, .slice none 0 0, .slice none 0 0, .slice none 0 0, .slice none 0 0, .bool false, .bool false, .bool false, .bool false]) (W.heap.size + 1) (markN x.r.ds x.pl) vs vs (opP (es.take j)) (loP (es.take j)))) := hide (S2.out.take 3); clear SF S2 hbp hbf))
          go_roundw
          case rel => exact ⟨j + 1, vs, by have := HLT.out; omega, by go_num, hide (by have h9 := S3.out; obtain ⟨e1, e2⟩ := HPO.out; rw [e1, e2, ← HTK.out] at h9; rw [← HFR.out]; exact h9)⟩
          case measure => simp [intOf]; have := HLT.out; omega
        · have g7 : ((x.r.k : Int) == 7) = true := by rw [k7]; rfl
          have HFR : Hid ((markN x.r.ds x.pl) = frP (es.take (j + 1))) := hide (by rw [HTK.out, frP_snoc]; exact (if_pos k7).symm)
          have t1 : (1 : Int) ≤ (x.r.t : Int) := by omega
          have t3 : decide ((x.r.t : Int) ≤ 3) = false := decide_eq_false (by omega)
          have HPO := hide (plan_out (es.take j) x (by omega))
          have HK := hide (from_lit HDX.out)
          clear k7
          clear ht
          go_wp2_with (first
            | (go_at_call 16; (with_reducible refine HK.out.mono ?_); rintro e wf ⟨rfl, hbf⟩; clear HK; have SF := SB.out.below hbf; have S2 := hide (SF.set_ (i := 1) rfl 0 (.int .u64 (markN x.r.ds x.pl : Int))); obtain ⟨u0, u1, u2, u3, u4, u5, u6, u7, u8⟩ := (S2.out.blk (i := 3) rfl).nine; have hbp := SF.blk (i := 1) rfl; have c0 : wf.cell? ⟨W.heap.size + 1, 0, none⟩ = some (.int .u64 (frP (es.take j) : Int)) := hbp.cell 0 _ rfl; have f0 := hbp.frozen 0; have S3 : Hid (Ow W (fun _ => False) (wf.setCell ⟨W.heap.size + 1, 0, none⟩ (.int .u64 (markN x.r.ds x.pl : Int))) (PL (Res.blk W.heap.size 32 #[.int .u64 0, .slice none 0 0, .slice none 0 0, .slice none 0 0, .slice none 0 0, .bool false, .bool false, .bool false, .bool false]) (W.heap.size + 1) (markN x.r.ds x.pl) vs vs (opP (es.take j)) (loP (es.take j)))) := hide (S2.out.take 3); clear SF S2 hbp hbf))
          go_roundw
          case rel => exact ⟨j + 1, vs, by have := HLT.out; omega, by go_num, hide (by have h9 := S3.out; obtain ⟨e1, e2⟩ := HPO.out; rw [e1, e2, ← HTK.out] at h9; rw [← HFR.out]; exact h9)⟩
          case measure => simp [intOf]; have := HLT.out; omega
        · have g7 : ((x.r.k : Int) == 7) = true := by rw [k7]; rfl
          have HFR : Hid ((markN x.r.ds x.pl) = frP (es.take (j + 1))) := hide (by rw [HTK.out, frP_snoc]; exact (if_pos k7).symm)
          have t1 : (1 : Int) ≤ (x.r.t : Int) := by omega
          have t3 : decide ((x.r.t : Int) ≤ 3) = true := decide_eq_true (by omega)
          have HPI : Hid (1 ≤ x.r.t ∧ x.r.t < 4) := hide (by omega)
          have HK := hide (from_lit HDX.out)
          clear k7
          clear ht
          go_wp2_with (first
            | (go_at_call 16; (with_reducible refine HK.out.mono ?_); rintro e wf ⟨rfl, hbf⟩; clear HK; have SF := SB.out.below hbf; have S2 := hide (SF.set_ (i := 1) rfl 0 (.int .u64 (markN x.r.ds x.pl : Int))); obtain ⟨u0, u1, u2, u3, u4, u5, u6, u7, u8⟩ := (S2.out.blk (i := 3) rfl).nine; have hbp := SF.blk (i := 1) rfl; have c0 : wf.cell? ⟨W.heap.size + 1, 0, none⟩ = some (.int .u64 (frP (es.take j) : Int)) := hbp.cell 0 _ rfl; have f0 := hbp.frozen 0; have S3 : Hid (Ow W (fun _ => False) (wf.setCell ⟨W.heap.size + 1, 0, none⟩ (.int .u64 (markN x.r.ds x.pl : Int))) (PL (Res.blk W.heap.size 32 #[.int .u64 0, .slice none 0 0, .slice none 0 0, .slice none 0 0, .slice none 0 0, .bool false, .bool false, .bool false, .bool false]) (W.heap.size + 1) (markN x.r.ds x.pl) vs vs (opP (es.take j)) (loP (es.take j)))) := hide (S2.out.take 3); clear SF S2 hbp hbf; have HF := hide (follow_lit (x := x) S3.out HPI.out.2 HLO.out))
            | (go_at_call 17; (with_reducible refine HF.out.mono ?_); rintro e w9 ⟨rfl, vs', h9⟩; have S9 := hide h9; clear h9))
          go_roundw
          case rel => exact ⟨j + 1, vs', by have := HLT.out; omega, by go_num, hide (by have h9 := S9.out; obtain ⟨e1, e2⟩ := plan_in (es.take j) x HPI.out.1 HPI.out.2; rw [e1, e2, ← HTK.out] at h9; rw [← HFR.out]; exact h9)⟩
          case measure => simp [intOf]; have := HLT.out; omega
      · obtain ht | ht | ht : x.r.t < 1 ∨ 3 < x.r.t ∨ (1 ≤ x.r.t ∧ x.r.t ≤ 3) := by omega
        · have g7 : ((x.r.k : Int) == 7) = false := by rw [beq_eq_false_iff_ne]; omega
          have HFR : Hid ((frP (es.take j)) = frP (es.take (j + 1))) := hide (by rw [HTK.out, frP_snoc]; exact (if_neg k7).symm)
          have t1 : ¬ (1 : Int) ≤ (x.r.t : Int) := by omega
          have HPO := hide (plan_out (es.take j) x (by omega))
          have S3 : Hid (Ow W (fun _ => False) (wr.alloc (.cells #[.int .i64 (x.r.k : Int), .int .i64 (x.r.t : Int), .int .i64 (x.r.p : Int), .int .i64 (x.r.s : Int), .string x.r.b, .string x.r.a, .string x.r.i, .slice x.A x.r.ds.length x.c, .int .u64 (x.pl : Int)] 40)) (PL (Res.blk W.heap.size 32 #[.int .u64 0, .slice none 0 0, .slice none 0 0, .slice none 0 0, .slice none 0 0, .bool false, .bool false, .bool false, .bool false]) (W.heap.size + 1) (frP (es.take j)) vs vs (opP (es.take j)) (loP (es.take j)))) := hide (SB.out.take 3)
          clear k7
          clear ht
          go_wp2
          go_roundw
          case rel => exact ⟨j + 1, vs, by have := HLT.out; omega, by go_num, hide (by have h9 := S3.out; obtain ⟨e1, e2⟩ := HPO.out; rw [e1, e2, ← HTK.out] at h9; rw [← HFR.out]; exact h9)⟩
          case measure => simp [intOf]; have := HLT.out; omega
        · have g7 : ((x.r.k : Int) == 7) = false := by rw [beq_eq_false_iff_ne]; omega
          have HFR : Hid ((frP (es.take j)) = frP (es.take (j + 1))) := hide (by rw [HTK.out, frP_snoc]; exact (if_neg k7).symm)
          have t1 : (1 : Int) ≤ (x.r.t : Int) := by omega
          have t3 : decide ((x.r.t : Int) ≤ 3) = false := decide_eq_false (by omega)
          have HPO := hide (plan_out (es.take j) x (by omega))
          have S3 : Hid (Ow W (fun _ => False) (wr.alloc (.cells #[.int .i64 (x.r.k : Int), .int .i64 (x.r.t : Int), .int .i64 (x.r.p : Int), .int .i64 (x.r.s : Int), .string x.r.b, .string x.r.a, .string x.r.i, .slice x.A x.r.ds.length x.c, .int .u64 (x.pl : Int)] 40)) (PL (Res.blk W.heap.size 32 #[.int .u64 0, .slice none 0 0, .slice none 0 0, .slice none 0 0, .slice none 0 0, .bool false, .bool false, .bool false, .bool false]) (W.heap.size + 1) (frP (es.take j)) vs vs (opP (es.take j)) (loP (es.take j)))) := hide (SB.out.take 3)
          clear k7
          clear ht
          go_wp2
          go_roundw
          case rel => exact ⟨j + 1, vs, by have := HLT.out; omega, by go_num, hide (by have h9 := S3.out; obtain ⟨e1, e2⟩ := HPO.out; rw [e1, e2, ← HTK.out] at h9; rw [← HFR.out]; exact h9)⟩
          case measure => simp [intOf]; have := HLT.out; omega
        · have g7 : ((x.r.k : Int) == 7) = false := by rw [beq_eq_false_iff_ne]; omega
          have HFR : Hid ((frP (es.take j)) = frP (es.take (j + 1))) := hide (by rw [HTK.out, frP_snoc]; exact (if_neg k7).symm)
          have t1 : (1 : Int) ≤ (x.r.t : Int) := by omega
          have t3 : decide ((x.r.t : Int) ≤ 3) = true := decide_eq_true (by omega)
          have HPI : Hid (1 ≤ x.r.t ∧ x.r.t < 4) := hide (by omega)
          have S3 : Hid (Ow W (fun _ => False) (wr.alloc (.cells #[.int .i64 (x.r.k : Int), .int .i64 (x.r.t : Int), .int .i64 (x.r.p : Int), .int .i64 (x.r.s : Int), .string x.r.b, .string x.r.a, .string x.r.i, .slice x.A x.r.ds.length x.c, .int .u64 (x.pl : Int)] 40)) (PL (Res.blk W.heap.size 32 #[.int .u64 0, .slice none 0 0, .slice none 0 0, .slice none 0 0, .slice none 0 0, .bool false, .bool false, .bool false, .bool false]) (W.heap.size + 1) (frP (es.take j)) vs vs (opP (es.take j)) (loP (es.take j)))) := hide (SB.out.take 3)
          have HF := hide (follow_lit (x := x) S3.out HPI.out.2 HLO.out)
          clear k7
          clear ht
          go_wp2_with (first
            | (go_at_call 17; (with_reducible refine HF.out.mono ?_); rintro e w9 ⟨rfl, vs', h9⟩; have S9 := hide h9; clear h9))
          go_roundw
          case rel => exact ⟨j + 1, vs', by have := HLT.out; omega, by go_num, hide (by have h9 := S9.out; obtain ⟨e1, e2⟩ := plan_in (es.take j) x HPI.out.1 HPI.out.2; rw [e1, e2, ← HTK.out] at h9; rw [← HFR.out]; exact h9)⟩
          case measure => simp [intOf]; have := HLT.out; omega
    · obtain rfl : j = n := by omega
      have ET : Hid (es.take j = es) := hide (List.take_of_length_le (by have := HN.out; omega))
      rw [ET.out] at hs
      have q1 : ¬ (j : Int) < (j : Int) := by omega
      have hP : Blk wr (W.heap.size + 1) 32 #[.int .u64 (frP es : Int), vs 0, vs 1, vs 2, vs 3, .bool (opP es 0), .bool (opP es 1), .bool (opP es 2), .bool (opP es 3)] := hs.out.blk (i := 1) rfl
      obtain ⟨A0, l0, c0, v0⟩ : ∃ A l c, vs 0 = .slice A l c := let ⟨A, c, e⟩ := (hs.out.rowsAt (i := 2) rfl (t := 0) (by decide)).form; ⟨A, _, c, e⟩
      obtain ⟨A1, l1, c1, v1⟩ : ∃ A l c, vs 1 = .slice A l c := let ⟨A, c, e⟩ := (hs.out.rowsAt (i := 2) rfl (t := 1) (by decide)).form; ⟨A, _, c, e⟩
      obtain ⟨A2, l2, c2, v2⟩ : ∃ A l c, vs 2 = .slice A l c := let ⟨A, c, e⟩ := (hs.out.rowsAt (i := 2) rfl (t := 2) (by decide)).form; ⟨A, _, c, e⟩
      obtain ⟨A3, l3, c3, v3⟩ : ∃ A l c, vs 3 = .slice A l c := let ⟨A, c, e⟩ := (hs.out.rowsAt (i := 2) rfl (t := 3) (by decide)).form; ⟨A, _, c, e⟩
      rw [v0, v1, v2, v3] at hP
      obtain ⟨p0, p1, p2, p3, p4, p5, p6, p7, p8⟩ := hP.nine
      have hZ := hs.out.blk (i := 0) rfl
      obtain ⟨z0, z1, z2, z3, z4, z5, z6, z7, z8⟩ := hZ.nine
      have f0 := hZ.frozen 0
      have f1 := hZ.frozen 1
      have f2 := hZ.frozen 2
      have f3 := hZ.frozen 3
      have f4 := hZ.frozen 4
      have f5 := hZ.frozen 5
      have f6 := hZ.frozen 6
      have f7 := hZ.frozen 7
      have f8 := hZ.frozen 8
      have T0 : Ow W (fun _ => False) _ [Res.blk W.heap.size 32 #[.int .u64 (frP es : Int), .slice none 0 0, .slice none 0 0, .slice none 0 0, .slice none 0 0, .bool false, .bool false, .bool false, .bool false], Res.blk (W.heap.size + 1) 32 (planC (frP es) vs (opP es)), Res.rows chK 4 vs (loP es)] := hs.out.set_ (i := 0) rfl 0 (.int .u64 (frP es : Int))
      have T1 : Ow W (fun _ => False) _ [Res.blk W.heap.size 32 #[.int .u64 (frP es : Int), .slice A0 l0 c0, .slice none 0 0, .slice none 0 0, .slice none 0 0, .bool false, .bool false, .bool false, .bool false], Res.blk (W.heap.size + 1) 32 (planC (frP es) vs (opP es)), Res.rows chK 4 vs (loP es)] := T0.set_ (i := 0) rfl 1 (.slice A0 l0 c0)
      have T2 : Ow W (fun _ => False) _ [Res.blk W.heap.size 32 #[.int .u64 (frP es : Int), .slice A0 l0 c0, .slice A1 l1 c1, .slice none 0 0, .slice none 0 0, .bool false, .bool false, .bool false, .bool false], Res.blk (W.heap.size + 1) 32 (planC (frP es) vs (opP es)), Res.rows chK 4 vs (loP es)] := T1.set_ (i := 0) rfl 2 (.slice A1 l1 c1)
      have T3 : Ow W (fun _ => False) _ [Res.blk W.heap.size 32 #[.int .u64 (frP es : Int), .slice A0 l0 c0, .slice A1 l1 c1, .slice A2 l2 c2, .slice none 0 0, .bool false, .bool false, .bool false, .bool false], Res.blk (W.heap.size + 1) 32 (planC (frP es) vs (opP es)), Res.rows chK 4 vs (loP es)] := T2.set_ (i := 0) rfl 3 (.slice A2 l2 c2)
      have T4 : Ow W (fun _ => False) _ [Res.blk W.heap.size 32 #[.int .u64 (frP es : Int), .slice A0 l0 c0, .slice A1 l1 c1, .slice A2 l2 c2, .slice A3 l3 c3, .bool false, .bool false, .bool false, .bool false], Res.blk (W.heap.size + 1) 32 (planC (frP es) vs (opP es)), Res.rows chK 4 vs (loP es)] := T3.set_ (i := 0) rfl 4 (.slice A3 l3 c3)
      have T5 : Ow W (fun _ => False) _ [Res.blk W.heap.size 32 #[.int .u64 (frP es : Int), .slice A0 l0 c0, .slice A1 l1 c1, .slice A2 l2 c2, .slice A3 l3 c3, .bool (opP es 0), .bool false, .bool false, .bool false], Res.blk (W.heap.size + 1) 32 (planC (frP es) vs (opP es)), Res.rows chK 4 vs (loP es)] := T4.set_ (i := 0) rfl 5 (.bool (opP es 0))
      have T6 : Ow W (fun _ => False) _ [Res.blk W.heap.size 32 #[.int .u64 (frP es : Int), .slice A0 l0 c0, .slice A1 l1 c1, .slice A2 l2 c2, .slice A3 l3 c3, .bool (opP es 0), .bool (opP es 1), .bool false, .bool false], Res.blk (W.heap.size + 1) 32 (planC (frP es) vs (opP es)), Res.rows chK 4 vs (loP es)] := T5.set_ (i := 0) rfl 6 (.bool (opP es 1))
      have T7 : Ow W (fun _ => False) _ [Res.blk W.heap.size 32 #[.int .u64 (frP es : Int), .slice A0 l0 c0, .slice A1 l1 c1, .slice A2 l2 c2, .slice A3 l3 c3, .bool (opP es 0), .bool (opP es 1), .bool (opP es 2), .bool false], Res.blk (W.heap.size + 1) 32 (planC (frP es) vs (opP es)), Res.rows chK 4 vs (loP es)] := T6.set_ (i := 0) rfl 7 (.bool (opP es 2))
      have T8 : Ow W (fun _ => False) _ [Res.blk W.heap.size 32 #[.int .u64 (frP es : Int), .slice A0 l0 c0, .slice A1 l1 c1, .slice A2 l2 c2, .slice A3 l3 c3, .bool (opP es 0), .bool (opP es 1), .bool (opP es 2), .bool (opP es 3)], Res.blk (W.heap.size + 1) 32 (planC (frP es) vs (opP es)), Res.rows chK 4 vs (loP es)] := T7.set_ (i := 0) rfl 8 (.bool (opP es 3))
      have HT := hide T8
      have HVS := hide (And.intro v0 (And.intro v1 (And.intro v2 v3)))
      clear v0 v1 v2 v3 hP hZ hlt hj T0 T1 T2 T3 T4 T5 T6 T7 T8
      go_wp2
      have hB : Blk _ W.heap.size 32 #[.int .u64 (frP es : Int), .slice A0 l0 c0, .slice A1 l1 c1, .slice A2 l2 c2, .slice A3 l3 c3, .bool (opP es 0), .bool (opP es 1), .bool (opP es 2), .bool (opP es 3)] := HT.out.blk (i := 0) rfl
      obtain ⟨d0, d1, d2, d3, d4, d5, d6, d7, d8⟩ := hB.nine
      refine bodyPost_ret (v := .agg #[.int .u64 (frP es : Int), .slice A0 l0 c0, .slice A1 l1 c1, .slice A2 l2 c2, .slice A3 l3 c3, .bool (opP es 0), .bool (opP es 1), .bool (opP es 2), .bool (opP es 3)]) (by simp [results, Try.results12, go_sem, d0, d1, d2, d3, d4, d5, d6, d7, d8]) rfl ⟨vs, by obtain ⟨v0, v1, v2, v3⟩ := HVS.out; unfold planC; rw [v0, v1, v2, v3], HT.out.bel, fun t ht => ?_⟩
      obtain ⟨S, hS, hS2⟩ := (HT.out.rowsRead (i := 2) rfl).getNew (i := 2) rfl
      exact (hS t ht).keep (fun _ _ _ => rfl) (Nat.le_refl _) (fun k _ hk => hS2 k hk)
end Go.Proofs.Ytoifghofkjomnaa
