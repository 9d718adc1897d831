/-
  The law's own 'same': has the table just what the model has?
-/
import Derived.Test.YtkegfedbffhnfaaKept11
namespace Go.Proofs.Ytkegfedbffhnfaa
open Go.RowKit Go.Shelf
set_option maxRecDepth 20000
set_option linter.unusedSimpArgs false
set_option linter.unusedVariables false
attribute [local go_sem] Oper.semAt_some

/-- Two tables tell the same. -/
def RelT (R M : Tb) : Prop := ∀ i, (R i).map Prod.snd = (M i).map Prod.snd
theorem RelT.none_ {R M : Tb} (h : RelT R M) {i : Nat} (hR : R i = none) : M i = none := by
  have := h i
  rw [hR] at this
  cases hM : M i with
  | none => rfl
  | some z => rw [hM] at this; cases this
theorem RelT.some_ {R M : Tb} (h : RelT R M) {i x : Nat} {t : Tx} (hR : R i = some (x, t)) : ∃ z, M i = some (z, t) := by
  have := h i
  rw [hR] at this
  cases hM : M i with
  | none => rw [hM] at this; cases this
  | some z =>
    obtain ⟨z, u⟩ := z
    rw [hM] at this
    have := Option.some.inj this
    exact ⟨z, by rw [show t = u from this]⟩
theorem index4 {a0 a1 a2 a3 v : Value} {q : Nat} (hq : q < 4) (h : #[a0, a1, a2, a3][q]? = some v) (w : World) : (Instr.index 29 (.agg #[a0, a1, a2, a3]) (.int .i64 (q : Int))).run Try.prog w = .ok v w := by
  have i0 : ∀ w : World, (Instr.index 29 (.agg #[a0, a1, a2, a3]) (.int .i64 0)).run Try.prog w = .ok a0 w := fun _ => by kernel_rfl
  have i1 : ∀ w : World, (Instr.index 29 (.agg #[a0, a1, a2, a3]) (.int .i64 1)).run Try.prog w = .ok a1 w := fun _ => by kernel_rfl
  have i2 : ∀ w : World, (Instr.index 29 (.agg #[a0, a1, a2, a3]) (.int .i64 2)).run Try.prog w = .ok a2 w := fun _ => by kernel_rfl
  have i3 : ∀ w : World, (Instr.index 29 (.agg #[a0, a1, a2, a3]) (.int .i64 3)).run Try.prog w = .ok a3 w := fun _ => by kernel_rfl
  rcases (by omega : q = 0 ∨ q = 1 ∨ q = 2 ∨ q = 3) with rfl | rfl | rfl | rfl
  · obtain rfl : a0 = v := by simpa using h
    exact i0 w
  · obtain rfl : a1 = v := by simpa using h
    exact i1 w
  · obtain rfl : a2 = v := by simpa using h
    exact i2 w
  · obtain rfl : a3 = v := by simpa using h
    exact i3 w
set_option maxHeartbeats 16000000 in
theorem same_any {w : World} {g mb : Nat} {R M : Tb} {O1 O2 : Nat → Prop} (hR : Tab layT 27 w g R O1) (hM : Tab layM 29 w mb M O2) (hrel : RelT R M) (hl : ∀ i x t, R i = some (x, t) → t.l.length ≤ 1000) :
    Calls Try.prog 17 #[.pointer (some ⟨g, 0, none⟩), .agg (cellsT M)] w fun e w' => e = .returned (.bool true) ∧ Below w.heap.size w w' := by
  have HR := hide hR
  have HM := hide hM
  have HREL := hide hrel
  have HL := hide hl
  have S0 : Hid (Ow w (fun _ => False) (((w.alloc (.cells (cellsT M) 29)).alloc (.cells #[.bool false] 4)).alloc (.cells #[.int .i64 0] 3)) [Res.blk w.heap.size 29 (cellsT M), Res.blk (w.heap.size + 1) 4 #[.bool false], Res.blk (w.heap.size + 2) 3 #[.int .i64 (cntT R 0 : Nat)]]) := hide (by
    have h := (((Ow.start w).box 29 (cellsT M)).box 4 #[.bool false]).box 3 #[.int .i64 (0 : Nat)]
    rw [World.size_alloc, World.size_alloc, World.size_alloc] at h
    exact h)
  obtain ⟨a0, a1, a2, a3, hca⟩ : ∃ a0 a1 a2 a3, cellsT M = #[a0, a1, a2, a3] := ⟨_, _, _, _, rfl⟩
  have HCA := hide hca
  have y0 := (S0.out.blk (i := 0) rfl).cell 0 a0 (by rw [hca]; rfl)
  have y1 := (S0.out.blk (i := 0) rfl).cell 1 a1 (by rw [hca]; rfl)
  have y2 := (S0.out.blk (i := 0) rfl).cell 2 a2 (by rw [hca]; rfl)
  have y3 := (S0.out.blk (i := 0) rfl).cell 3 a3 (by rw [hca]; rfl)
  have hgl := hR.blk.lt
  have HGL := hide hgl
  have hRz := hR.zero
  clear hca
  have HZ := hide hRz
  clear hR hM hrel hl hgl hRz
  refine (callsIn_wide (n := 4)).1 ?_
  refine callsIn_of_wp_marks Try.func17 rfl trivial ?_ rfl
  refine wpIn_wide.2 ?_
  simp only [Try.ntmps17, List.size_toArray, List.length_cons, List.length_nil, Nat.reduceAdd, Nat.reduceSub, Array.replicate_succ, Array.replicate_zero, List.push_toArray, List.append_toArray, List.nil_append, List.cons_append]
  go_wp2
  generalize hw5 : (((w.alloc (.cells (cellsT M) 29)).alloc (.cells #[.bool false] 4)).alloc (.cells #[.int .i64 0] 3)) = w5 at *
  clear hw5 y0 y1 y2 y3
  go_loopw [6, 15] (fun u i wr => ∃ q : Nat, q ≤ 4 ∧ i = .int .i64 q ∧ u = .int .i64 (sumT R q : Nat) ∧ Hid (Ow w (fun _ => False) wr [Res.blk w.heap.size 29 (cellsT M), Res.blk (w.heap.size + 1) 4 #[.bool false], Res.blk (w.heap.size + 2) 3 #[.int .i64 (cntT R q : Nat)]])) (fun _ i _ => 4 - (intOf i).toNat)
  case atStart => exact ⟨0, by omega, rfl, rfl, S0⟩
  case round =>
    clear S0
    obtain ⟨q, hq4, rfl, rfl, hs⟩ := hrel
    by_cases hq : q < 4
    · have HQ := hide hq
      have q0 : (0 : Int) ≤ (q : Int) := by omega
      have q1 : (q : Int) < 4 := by omega
      have qc : (cntT R q : Int) ≤ 4 := by have := cntT_le R q; omega
      have qs : (sumT R q : Int) ≤ 400000 := by have := sumT_le (T := R) (fun i x t h => Nat.le_trans (HL.out i x t h) (by omega)) q; omega
      have hRw := HR.out.below hs.out.bel
      have HRW := hide hRw
      have hcm : #[a0, a1, a2, a3][q]? = some (pv (M q)) := by rw [← HCA.out]; exact cellsT_at M hq
      cases hT : R q with
      | none =>
        have hMq := HREL.out.none_ hT
        rw [hMq] at hcm
        have hix := index4 hq (show #[a0, a1, a2, a3][q]? = some (.pointer none) from hcm)
        have HN1 := hide (cntT_none hT)
        have HN2 := hide (sumT_none hT)
        have HK0 := hide (get_blk hRw.blk (q : Int))
        have HK1 : Hid (Calls Try.prog 12 #[.pointer (some ⟨g, 0, none⟩), .int .i64 (q : Int)] wr fun e w' => e = .returned (.pointer none) ∧ wr = w') := hide (by
          have h := HK0.out
          rw [getT_nat hRw.zero hRw.top, hT] at h
          exact h)
        clear hT hMq HK0 hRw HRW hq hq4 hcm
        go_wp2_with (first
          | (go_at_call 12; (with_reducible refine HK1.out.mono ?_); rintro e w1 ⟨rfl, rfl⟩)
          | (go_at_call 22; (with_reducible refine (full_nil _).mono ?_); rintro e w2 ⟨rfl, rfl⟩)
          | (go_at_call 21; (with_reducible refine (len_nil_x _).mono ?_); rintro e w3 ⟨rfl, rfl⟩))
        go_roundw
        case rel => exact ⟨q + 1, by have := HQ.out; omega, by go_num, by rw [HN2.out], hide (by rw [HN1.out]; exact hs.out)⟩
        case measure => simp [intOf]; have := HQ.out; omega
      | some xt =>
        obtain ⟨x, t⟩ := xt
        obtain ⟨z, hMq⟩ := HREL.out.some_ hT
        rw [hMq] at hcm
        have hix := index4 hq (show #[a0, a1, a2, a3][q]? = some (.pointer (some ⟨z, 0, none⟩)) from hcm)
        have HTL : Hid (t.l.length ≤ 1000) := hide (HL.out q x t hT)
        have ql : (t.l.length : Int) ≤ 1000 := by have := HTL.out; omega
        have HN1 := hide (cntT_some hT)
        have HN2 := hide (sumT_some hT)
        have HK1 : Hid (Calls Try.prog 12 #[.pointer (some ⟨g, 0, none⟩), .int .i64 (q : Int)] wr fun e w' => e = .returned (.pointer (some ⟨x, 0, none⟩)) ∧ wr = w') := hide (by
          have h := get_blk hRw.blk (q : Int)
          rw [getT_nat hRw.zero hRw.top, hT] at h
          exact h)
        obtain ⟨Ax, Bx, htx⟩ := HR.out.tx hT
        obtain ⟨Az, Bz, htz⟩ := HM.out.tx hMq
        obtain ⟨Am, cm, rfl⟩ := htz.l.form
        have HTX := hide htx
        have HTZ := hide htz
        have HK2 := hide (list_x (htx.below hs.out.bel) (by have := HTL.out; omega))
        clear hT hMq hRw HRW hq hq4 htx htz hcm
        by_cases h8 : 8 ≤ t.ops
        · have h8i : (8 : Int) ≤ (t.ops : Int) := by omega
          have h8d : decide (8 ≤ t.ops) = true := by simp [h8]
          clear h8
          go_wp2_with (first
            | (go_at_call 12; (with_reducible refine HK1.out.mono ?_); rintro e w1 ⟨rfl, rfl⟩; clear HK1)
            | (go_at_call 24; (with_reducible refine HK2.out.mono ?_); rintro e w2 ⟨v5, rfl, hr5, hb5, hn5⟩; clear HK2; obtain ⟨Al, cl, rfl⟩ := hr5.form; have S2 := hide (hs.out.gotrow hb5 hr5 hn5); clear hr5 hb5 hn5))
          have hb2 := S2.out.bel
          have d0 := (HTZ.out.below hb2).cells.1
          have d2 : w2.cell? ⟨z, 2, none⟩ = some (.int .i64 (t.ops : Int)) := (HTZ.out.below hb2).cells.2.1
          have HF := hide (full_q (HTX.out.below hb2))
          rw [h8d] at HF
          have HLN := hide (len_q (HTX.out.below hb2))
          clear hb2 h8d
          go_quiet (first
            | (go_at_call 21; refine Calls.quiet_of_same (HLN.out _))
            | (go_at_call 22; refine Calls.quiet_of_same (HF.out _)))
          go_wp2
          have S3 := hide (S2.out.below (Below.drewsN w2 nq))
          generalize w2.drewN nq = w3 at *
          clear S2 d0 d2 HF HLN hs
          go_loopw [66] (fun i wr2 => ∃ k : Nat, k ≤ t.l.length ∧ i = .int .i64 k ∧ Hid (Ow w (fun _ => False) wr2 [Res.blk w.heap.size 29 (cellsT M), Res.blk (w.heap.size + 1) 4 #[.bool false], Res.blk (w.heap.size + 2) 3 #[.int .i64 (cntT R q : Nat)], Res.row chK (.slice Al t.l.length cl) t.l])) (fun i _ => t.l.length - (intOf i).toNat)
          case atStart => exact ⟨0, by omega, rfl, S3⟩
          case round =>
            clear S3
            rename World => w6
            obtain ⟨k, hk, rfl, hs⟩ := hrel
            by_cases hlt : k < t.l.length
            · obtain ⟨⟨pa, sa, ba⟩, hca⟩ : ∃ c, t.l[k]? = some c := ⟨_, List.getElem?_eq_getElem hlt⟩
              have hrw := hs.out.krow (i := 3) rfl
              obtain ⟨gl, cg, eg, _⟩ := hrw.block (by omega)
              injection eg with eg1 eg2 eg3
              subst eg1 eg3
              have hrm := (HTZ.out.below hs.out.bel).l
              obtain ⟨gm, ch, eh, _⟩ := hrm.block (by omega)
              injection eh with eh1 eh2 eh3
              subst eh1 eh3
              have e0 : w6.cell? ⟨gl, k * 3, none⟩ = some (.int .i64 pa) := hrw.cells hca 0 _ rfl
              have e1 : w6.cell? ⟨gl, k * 3 + 1, none⟩ = some (.int .i64 sa) := hrw.cells hca 1 _ rfl
              have e2 : w6.cell? ⟨gl, k * 3 + 2, none⟩ = some (.string ba) := hrw.cells hca 2 _ rfl
              have m0 : w6.cell? ⟨gm, k * 3, none⟩ = some (.int .i64 pa) := hrm.cells hca 0 _ rfl
              have m1 : w6.cell? ⟨gm, k * 3 + 1, none⟩ = some (.int .i64 sa) := hrm.cells hca 1 _ rfl
              have m2 : w6.cell? ⟨gm, k * 3 + 2, none⟩ = some (.string ba) := hrm.cells hca 2 _ rfl
              have d0 := (HTZ.out.below hs.out.bel).cells.1
              have HLT := hide hlt
              have k0 : (0 : Int) ≤ (k : Int) := by omega
              have k1 : (k : Int) < (t.l.length : Int) := by omega
              clear hlt hca hrw hrm eg2 eh2
              go_wp2
              go_quiet (fail)
              go_wp2
              go_roundw
              case rel => exact ⟨k + 1, by have := HLT.out; omega, by go_num, hide (hs.out.below (Below.drewsN _ _))⟩
              case measure => simp [intOf]; have := HLT.out; omega
            · obtain rfl : k = t.l.length := by omega
              clear hlt hk
              have o0 : w6.cell? ⟨w.heap.size + 2, 0, none⟩ = some (.int .i64 (cntT R q : Nat)) := (hs.out.blk (i := 2) rfl).cell 0 _ rfl
              have of := (hs.out.blk (i := 2) rfl).frozen 0
              have HE := hide ((hs.out.set_ (i := 2) rfl 0 (.int .i64 ((cntT R q : Int) + 1))).take 3)
              clear hs
              go_wp2
              go_roundw
              case rel => exact ⟨q + 1, by have := HQ.out; omega, by go_num, by rw [HN2.out]; rfl, hide (by rw [HN1.out]; exact HE.out)⟩
              case measure => simp [intOf]; have := HQ.out; omega
        · have h8i : ¬ (8 : Int) ≤ (t.ops : Int) := by omega
          have h8d : decide (8 ≤ t.ops) = false := by simp [h8]
          clear h8
          go_wp2_with (first
            | (go_at_call 12; (with_reducible refine HK1.out.mono ?_); rintro e w1 ⟨rfl, rfl⟩; clear HK1)
            | (go_at_call 24; (with_reducible refine HK2.out.mono ?_); rintro e w2 ⟨v5, rfl, hr5, hb5, hn5⟩; clear HK2; obtain ⟨Al, cl, rfl⟩ := hr5.form; have S2 := hide (hs.out.gotrow hb5 hr5 hn5); clear hr5 hb5 hn5))
          have hb2 := S2.out.bel
          have d0 := (HTZ.out.below hb2).cells.1
          have d2 : w2.cell? ⟨z, 2, none⟩ = some (.int .i64 (t.ops : Int)) := (HTZ.out.below hb2).cells.2.1
          have HF := hide (full_q (HTX.out.below hb2))
          rw [h8d] at HF
          have HLN := hide (len_q (HTX.out.below hb2))
          clear hb2 h8d
          go_quiet (first
            | (go_at_call 21; refine Calls.quiet_of_same (HLN.out _))
            | (go_at_call 22; refine Calls.quiet_of_same (HF.out _)))
          go_wp2
          have S3 := hide (S2.out.below (Below.drewsN w2 nq))
          generalize w2.drewN nq = w3 at *
          clear S2 d0 d2 HF HLN hs
          go_loopw [66] (fun i wr2 => ∃ k : Nat, k ≤ t.l.length ∧ i = .int .i64 k ∧ Hid (Ow w (fun _ => False) wr2 [Res.blk w.heap.size 29 (cellsT M), Res.blk (w.heap.size + 1) 4 #[.bool false], Res.blk (w.heap.size + 2) 3 #[.int .i64 (cntT R q : Nat)], Res.row chK (.slice Al t.l.length cl) t.l])) (fun i _ => t.l.length - (intOf i).toNat)
          case atStart => exact ⟨0, by omega, rfl, S3⟩
          case round =>
            clear S3
            rename World => w6
            obtain ⟨k, hk, rfl, hs⟩ := hrel
            by_cases hlt : k < t.l.length
            · obtain ⟨⟨pa, sa, ba⟩, hca⟩ : ∃ c, t.l[k]? = some c := ⟨_, List.getElem?_eq_getElem hlt⟩
              have hrw := hs.out.krow (i := 3) rfl
              obtain ⟨gl, cg, eg, _⟩ := hrw.block (by omega)
              injection eg with eg1 eg2 eg3
              subst eg1 eg3
              have hrm := (HTZ.out.below hs.out.bel).l
              obtain ⟨gm, ch, eh, _⟩ := hrm.block (by omega)
              injection eh with eh1 eh2 eh3
              subst eh1 eh3
              have e0 : w6.cell? ⟨gl, k * 3, none⟩ = some (.int .i64 pa) := hrw.cells hca 0 _ rfl
              have e1 : w6.cell? ⟨gl, k * 3 + 1, none⟩ = some (.int .i64 sa) := hrw.cells hca 1 _ rfl
              have e2 : w6.cell? ⟨gl, k * 3 + 2, none⟩ = some (.string ba) := hrw.cells hca 2 _ rfl
              have m0 : w6.cell? ⟨gm, k * 3, none⟩ = some (.int .i64 pa) := hrm.cells hca 0 _ rfl
              have m1 : w6.cell? ⟨gm, k * 3 + 1, none⟩ = some (.int .i64 sa) := hrm.cells hca 1 _ rfl
              have m2 : w6.cell? ⟨gm, k * 3 + 2, none⟩ = some (.string ba) := hrm.cells hca 2 _ rfl
              have d0 := (HTZ.out.below hs.out.bel).cells.1
              have HLT := hide hlt
              have k0 : (0 : Int) ≤ (k : Int) := by omega
              have k1 : (k : Int) < (t.l.length : Int) := by omega
              clear hlt hca hrw hrm eg2 eh2
              go_wp2
              go_quiet (fail)
              go_wp2
              go_roundw
              case rel => exact ⟨k + 1, by have := HLT.out; omega, by go_num, hide (hs.out.below (Below.drewsN _ _))⟩
              case measure => simp [intOf]; have := HLT.out; omega
            · obtain rfl : k = t.l.length := by omega
              clear hlt hk
              have o0 : w6.cell? ⟨w.heap.size + 2, 0, none⟩ = some (.int .i64 (cntT R q : Nat)) := (hs.out.blk (i := 2) rfl).cell 0 _ rfl
              have of := (hs.out.blk (i := 2) rfl).frozen 0
              have HE := hide ((hs.out.set_ (i := 2) rfl 0 (.int .i64 ((cntT R q : Int) + 1))).take 3)
              clear hs
              go_wp2
              go_roundw
              case rel => exact ⟨q + 1, by have := HQ.out; omega, by go_num, by rw [HN2.out]; rfl, hide (by rw [HN1.out]; exact HE.out)⟩
              case measure => simp [intOf]; have := HQ.out; omega
    · obtain rfl : q = 4 := by omega
      clear hq hq4
      have S7 : Hid (Ow w (fun _ => False) (wr.alloc (.cells #[.int .i64 0] 3)) [Res.blk w.heap.size 29 (cellsT M), Res.blk (w.heap.size + 1) 4 #[.bool false], Res.blk (w.heap.size + 2) 3 #[.int .i64 ((cntT R 4 : Int) - (cntT R 0 : Int))], Res.blk wr.heap.size 3 #[.int .i64 (0 : Nat)]]) := hide (by
        have h := hs.out.box 3 #[.int .i64 (0 : Nat)]
        have e : (cntT R 4 : Int) - (cntT R 0 : Int) = (cntT R 4 : Int) := by show _ - ((0 : Nat) : Int) = _; omega
        rw [e]
        exact h)
      have c4 : (cntT R 4 : Int) ≤ 4 := by have := cntT_le R 4; omega
      have HWB : Hid (w.heap.size + 2 < wr.heap.size) := hide (hs.out.blk (i := 2) rfl).lt
      have HRE := hide (HR.out.below S7.out.bel)
      clear hs
      go_wp2
      generalize hw7 : wr.alloc (.cells #[.int .i64 0] 3) = w7 at *
      generalize hlb : wr.heap.size = lb at *
      have HL7 : Hid (lb < w7.heap.size) := hide (S7.out.blk (i := 3) rfl).lt
      clear hw7 hlb
      obtain ⟨F, hF⟩ := S7.out
      have hwD := hF.kept.size
      refine wpIn_wide.1 (range_T (n := 4) (by omega) rfl rfl HRE.out.blk HRE.out.zero HRE.out.top (fun k F A => ∃ la : Nat, (la = 0 ∨ la < k) ∧ OwF w (fun _ => False) F A [Res.blk w.heap.size 29 (cellsT M), Res.blk (w.heap.size + 1) 4 #[.bool false], Res.blk (w.heap.size + 2) 3 #[.int .i64 ((cntT R 4 : Int) - (cntT R k : Int))], Res.blk lb 3 #[.int .i64 (la : Nat)]]) (fun _ _ _ => False)
        (fun k F A B h e1 e2 hc => let ⟨la, h1, h2⟩ := h; ⟨la, h1, h2.calm hc e1 e2 hwD⟩) (fun _ _ _ _ h _ => h) ⟨F, ⟨0, .inl rfl, hF⟩, hF.lt, fun hg => ?fg⟩ (fun k F A _ hT h => by rw [cntT_none hT]; obtain ⟨la, h1, h2⟩ := h; exact ⟨la, by omega, h2⟩) ?round ?done ?stop)
      case fg =>
        rcases hF.new g hg with h | h
        · exact h
        · have := HGL.out
          omega
      case round =>
        clear hF S7
        rintro k F x t A hk4 hT ⟨la, hla, hA⟩ e1 e2 hlA
        have hk0 : k ≠ 0 := fun e => by subst e; rw [HZ.out] at hT; cases hT
        obtain ⟨z, hMk⟩ := HREL.out.some_ hT
        have hcm : (cellsT M)[k]? = some (.pointer (some ⟨z, 0, none⟩)) := by
          rw [cellsT_at M hk4, hMk]
          rfl
        have HN1 := hide (cntT_some hT)
        have HA := hide hA
        have E1 := hide e1
        have E2 := hide e2
        have HLA := hide hlA
        have k1 : ¬ (k : Int) ≤ (la : Int) := by omega
        have k2 : (0 : Int) ≤ (k : Int) := by omega
        have k3 : (k : Int) < 4 := by omega
        have HLK : Hid (k < k + 1) := hide (by omega)
        have ck : (cntT R k : Int) ≤ 4 := by have := cntT_le R k; omega
        clear hA e1 e2 hlA hT hMk hla hk0
        gi_wp2
        refine ⟨Below.refl _ _, fun C hC hs2 => ?_⟩
        have h1 := HA.out.calm hC E1.out E2.out hwD
        have H1 := hide h1
        have c0 := (h1.restart.blk (i := 3) rfl).cell 0 _ rfl
        have cf := (h1.restart.blk (i := 3) rfl).frozen 0
        have m0 := (h1.restart.blk (i := 0) rfl).cell k _ hcm
        have o0 := (h1.restart.blk (i := 2) rfl).cell 0 _ rfl
        have of := (h1.restart.blk (i := 2) rfl).frozen 0
        have S9 := hide (h1.restart.set_ (i := 3) rfl 0 (.int .i64 (k : Int)))
        have o1 := (S9.out.blk (i := 2) rfl).cell 0 _ rfl
        have of1 := (S9.out.blk (i := 2) rfl).frozen 0
        have HCS := hide (show A.heap.size ≤ C.heap.size by rw [hs2]; exact Nat.le_refl _)
        clear h1 hC hs2
        gi_wp2
        obtain ⟨k5, F', k6, k7⟩ := H1.out.round_out (m := A.heap.size) (fun k h => .inl h) (S9.out.set_ (i := 2) rfl 0 (.int .i64 ((cntT R 4 : Int) - (cntT R k : Int) - 1))) HCS.out
        refine ⟨k5, F', .inr ⟨k, HLK.out, ?_⟩, k7⟩
        have e : (cntT R 4 : Int) - (cntT R (k + 1) : Int) = (cntT R 4 : Int) - (cntT R k : Int) - 1 := by rw [HN1.out]; omega
        rw [e]
        exact k6
      case done =>
        clear hF S7
        rintro F A ⟨la, hla, hA⟩ e1 hK
        have e0 : (cntT R 4 : Int) - (cntT R 4 : Int) = 0 := by omega
        rw [e0] at hA
        have HA := hide hA
        have HK := hide hK
        have HE1 := hide e1
        have c0 := (Ow.blk (i := 2) ⟨_, hA⟩ rfl).cell 0 _ rfl
        have HCH := hide (changes_any (HR.out.below (Ow.bel ⟨F, hA⟩)) (fun i x t h => Nat.le_trans (HL.out i x t h) (by omega)))
        clear hA hK e1 hla e0
        go_wp2_with (go_at_call 23; (with_reducible refine HCH.out.mono ?_); rintro e w9 ⟨rfl, hb9⟩; have HA9 := hide (HA.out.below hb9); have HK9 : Hid (w9.heap[w7.heap.size]? = some (.deferred (some []))) := hide ((hb9.block _ (Array.getElem?_eq_some_iff.1 HK.out).1).trans HK.out); have z0 := (Ow.blk (i := 1) ⟨_, HA9.out⟩ rfl).cell 0 _ rfl; have zf := (Ow.blk (i := 1) ⟨_, HA9.out⟩ rfl).frozen 0; clear hb9)
        have hk9 := (Below.heap_setCell w9 ⟨w.heap.size + 1, 0, none⟩ (.bool true) w7.heap.size (by show w7.heap.size ≠ w.heap.size + 1; have := HL7.out; have := HWB.out; omega)).trans HK9.out
        have R9 := Ow.set_ (i := 1) ⟨_, HA9.out⟩ rfl 0 (.bool true)
        refine ⟨by simp, .inl ⟨_, _, rfl, run_takeDeferred hk9, ?_⟩⟩
        have BZ := ((Calm.put w7.heap.size w7.heap.size (w9.setCell ⟨w.heap.size + 1, 0, none⟩ (.bool true)) (.deferred none) (.inl rfl)).blk (Ow.blk (i := 1) R9 rfl) (by have := HL7.out; have := HWB.out; omega) (by have := HL7.out; have := HWB.out; omega)).cell 0 _ rfl
        exact ⟨.bool true, by simp [results, Try.results17, go_sem, BZ], rfl, ow_end R9 hwD⟩
      case stop => intro c k A h; exact h.elim
end Go.Proofs.Ytkegfedbffhnfaa
