/-
  Contracts of package index: walk, All and Scan's function, as what a loop ranges over.
-/
import Derived.Test.YtkcomkllnhdohaaPut
import Derived.RangeFuncNested
import Derived.RangeFuncBound
import Derived.RangeFuncCalls
import Derived.RangeFuncLeaves
import Derived.Shelf.Abstract
import Derived.Shelf.RegionOpen
import Derived.WalkKit
import Derived.OwnWalkIn
import Derived.TacticsInMore
import Derived.LoopNIn
import Derived.LoopIn
namespace Go.Proofs.Ytkcomkllnhdohaa
open Go.RowKit Go.Shelf
set_option maxRecDepth 20000
set_option linter.unusedSimpArgs false
set_option linter.unusedVariables false
attribute [local go_sem] Oper.semAt_some

theorem eql_yield (f : Fn) (a b : Array Value) (w : World) : (binOp .eql 58 (.func f a b) .nilFunc).run Try.prog w = .ok (.bool false) w := by
  have h : ∀ d : Nat, (Op.equalIn (d + 1) 58 (.func f a b) .nilFunc).run Try.prog w = .ok false w := fun d => by
    simp [Op.equalIn, run_underlying Try.underlying58]
  simp only [binOp]
  simp [Op.equal, Op.maxDepth, h 9999]
/-- What the rounds over ys owe: J k F: the first k have been gone over, F being the blocks that a round may turn, beside new ones (which may become its own). -/
structure Rounds (n l : Nat) (w : World) (ys : List It) (J : Nat → (Nat → Prop) → World → Prop) (Jx : Nat → World → Prop) : Prop where
  on : ∀ k F A B, J k F A → Below A.heap.size A B → J k F B
  yd : ∀ k F x A, ys[k]? = some x → J k F A → w.heap.size ≤ A.heap.size → YieldAt Fence.wide n Try.prog l #[x.v] A fun e B => Kept F A B ∧ ((e = .returned (.bool true) ∧ ∃ F', J (k + 1) F' B ∧ ∀ j, F' j → F j ∨ A.heap.size ≤ j) ∨ (e = .returned (.bool false) ∧ Jx k B))
theorem Rounds.more {n l : Nat} {w w' : World} {ys : List It} {J : Nat → (Nat → Prop) → World → Prop} {Jx : Nat → World → Prop} (h : Rounds n l w ys J Jx) (hs : w.heap.size ≤ w'.heap.size) : Rounds n l w' ys J Jx :=
  ⟨h.on, fun k F x A h1 h2 h3 => h.yd k F x A h1 h2 (Nat.le_trans hs h3)⟩
/-- Where it begins: the blocks that a round may turn are there. -/
def Begun (J : Nat → (Nat → Prop) → World → Prop) (B : Nat) (w : World) : Prop := ∃ F, J 0 F w ∧ (∀ k, F k → k < B) ∧ B ≤ w.heap.size
/-- Of some of a list. -/
def cutL (xs : List It) (b e : Nat) : List It := (xs.take e).drop b
theorem cutL_length (xs : List It) {b e : Nat} (he : e ≤ xs.length) : (cutL xs b e).length = e - b := by
  unfold cutL
  rw [List.length_drop, List.length_take]
  omega
set_option maxRecDepth 100000 in
set_option maxHeartbeats 2000000 in
theorem walk_none {w : World} {xv : Value} (n l : Nat) (hn : 1 ≤ n) {b e : Int} (hbe : e ≤ b) : CallsIn Fence.wide n Try.prog 23 #[xv, .int .i64 b, .int .i64 e, .func (.yield l) #[] #[]] w fun e w' => e = .returned (.tuple #[]) ∧ w = w' := by
  refine callsIn_of_wp Try.func23 rfl trivial ?_ rfl
  simp only [Try.ntmps23, List.size_toArray, List.length_cons, List.length_nil, Nat.reduceAdd, Nat.reduceSub, Array.replicate_succ, Array.replicate_zero, List.push_toArray, List.append_toArray, List.nil_append, List.cons_append]
  gi_wp2
  refine bodyPost_ret (results_none rfl _ _ _) rfl ?_
  exact ⟨rfl, rfl⟩
set_option maxRecDepth 100000 in
set_option maxHeartbeats 2000000 in
theorem walk_in {w : World} {g : Nat} {r : Option Nat} {xs : List It} (n l : Nat) (hn : 1 ≤ n) (h : Ix w g r xs) {b e : Nat} (hbe : b < e) (he : e ≤ xs.length) {J : Nat → (Nat → Prop) → World → Prop} {Jx : Nat → World → Prop} (hR : Rounds (n - 1) l w (cutL xs b e) J Jx) (h0 : Begun J w.heap.size w) :
    CallsIn Fence.wide n Try.prog 23 #[.pointer (some ⟨g, 0, none⟩), .int .i64 (b : Int), .int .i64 (e : Int), .func (.yield l) #[] #[]] w fun x w' => (∃ v, x = .returned v) ∧ ((∃ F, J (cutL xs b e).length F w') ∨ ∃ k, Jx k w') := by
  refine callsIn_of_wp Try.func23 rfl trivial ?_ rfl
  simp only [Try.ntmps23, List.size_toArray, List.length_cons, List.length_nil, Nat.reduceAdd, Nat.reduceSub, Array.replicate_succ, Array.replicate_zero, List.push_toArray, List.append_toArray, List.nil_append, List.cons_append]
  obtain ⟨v, hv, hit, _⟩ := h.v
  obtain ⟨k, c, rfl, _, hkw⟩ := hit.block (by omega)
  have hcap := hit.cap.2
  have g0 := hv.cell 0 _ rfl
  have hcl : (cutL xs b e).length = e - b := cutL_length xs he
  have hclone := clone_any (w := w) (B := 0) (g := k) (k := b * 5) (n := e - b) (c := c - b) (es := cutL xs b e) (fun j u hu => by
    have hj : b * 5 + j < (flatI (xs.take e)).length := by
      have := (List.getElem?_eq_some_iff.1 hu).1
      rw [flatI_length, hcl] at this
      rw [flatI_length, List.length_take]
      omega
    have e1 : flatI (cutL xs b e) = (flatI (xs.take e)).drop (b * 5) := (flatI_drop _ _).symm
    rw [e1, List.getElem?_drop] at hu
    have e2 : flatI (xs.take e) = (flatI xs).take (e * 5) := (flatI_take _ _).symm
    rw [e2, List.getElem?_take] at hu
    split at hu
    · refine (World.ownsRow.cellAt hit (b * 5 + j) ?_).trans hu
      rw [flatI_length, List.length_take] at hj
      omega
    · cases hu) hcl.symm (by have := h.few; omega)
  have hb1 : ¬ ((e : Int) ≤ (b : Int)) := by omega
  have hb2 : (b : Int) ≤ (e : Int) := by omega
  have hb3 : (e : Int) ≤ (c : Int) := by omega
  have hb4 : ¬ (c = b) := by omega
  have hef := eql_yield
  have HC := hide hclone
  have HR := hide hR
  have H0 := hide h0
  have HCL := hide hcl
  have HLT := hide hbe
  have HFEW := hide (show (cutL xs b e).length ≤ 1000 by have := h.few; omega)
  clear hclone hR h0 hcl hv hit h hbe he hcap hkw
  generalize cutL xs b e = ys at *
  gi_wp2_with (refine ⟨trivial, ?_⟩; gi_at_call 32; refine (callsIn_wide.2 HC.out).mono ?_; rintro x w1 ⟨v', rfl, hits, hbl⟩; obtain ⟨g1, c1, rfl, hg1, _⟩ := hits.block (by have := HCL.out; have := HLT.out; omega); have HI := hide hits; have HB := hide hbl; have HG1 := hide hg1; clear hits hbl hg1)
  gi_loopw [26] (fun i wr => ∃ q : Nat, q ≤ ys.length ∧ i = .int .i64 q ∧ Hid (∃ F, J q F wr ∧ ¬ F g1) ∧ Hid (Its 32 wr w.heap.size (.slice (some ⟨g1, 0, none⟩) ys.length c1) ys) ∧ Hid (w.heap.size ≤ wr.heap.size)) (fun i _ => ys.length - (intOf i).toNat)
  case atStart => exact ⟨0, by omega, rfl, hide (let ⟨F, h1, h2, h3⟩ := H0.out; ⟨F, HR.out.on _ _ _ _ h1 HB.out, fun hf => by have := h2 _ hf; have := HG1.out; omega⟩), HI, hide HB.out.size⟩
  case round =>
    obtain ⟨q, hq, rfl, hjF, hi, hsz⟩ := hrel
    obtain ⟨F, hj0, hF⟩ := hjF.out
    have hj := hide hj0
    have HF := hide hF
    clear hj0 hF
    by_cases hlt : q < ys.length
    · have hx := List.getElem?_eq_getElem hlt
      obtain ⟨i0, i1, i2, i3, i4⟩ := hi.out.cells rfl hx
      have HX := hide hx
      have HQ := hide hlt
      clear hx
      have q0 : (0 : Int) ≤ (q : Int) := by omega
      have q1 : (q : Int) < (ys.length : Int) := by omega
      have hwa : Below wr.heap.size wr (wr.alloc (.cells ys[q].vc 32)) := (Below.refl _ wr).alloc (Nat.le_refl _) _
      have HI2 := hide (hi.out.below hwa)
      have HLT1 : Hid (g1 < wr.heap.size) := hide (by obtain ⟨g9, c9, e9, _, h9⟩ := hi.out.block (by omega); injection e9 with e9; injection e9 with e9; injection e9 with e9; omega)
      have HSZ2 := hide (Nat.le_trans hsz.out hwa.size)
      have hb := heap_new wr (.cells ys[q].vc 32)
      obtain ⟨c0, c1', c2, c3, c4⟩ := item_cells hb
      obtain ⟨fn, tmps, assign, body, hy, hRd⟩ := HR.out.yd q F ys[q] _ HX.out (HR.out.on _ _ _ _ hj.out hwa) HSZ2.out
      have HRD := hide hRd
      clear hRd hwa hb
      generalize ys[q] = x at *
      obtain ⟨xt, xk, xv, xp, xs⟩ := x
      unfold It.v It.vc at *
      dsimp only at *
      gi_wp2
      refine HRD.out.mono ?_
      rintro z B ⟨hk, ⟨rfl, F2, hj2, hF2⟩ | ⟨rfl, hx2⟩⟩
      · have HI3 := hide (Kept.own hk HI2.out (fun k hk2 hs => HF.out (by have h2 : g1 = k := Option.some.inj hk2; rw [h2]; exact hs)))
        have HSZ3 := hide (Nat.le_trans HSZ2.out hk.size)
        clear hk
        have HJ2 : Hid (∃ F, J (q + 1) F B ∧ ¬ F g1) := hide ⟨F2, hj2, fun h => by rcases hF2 _ h with h | h; exact HF.out h; have := HLT1.out; simp at h; omega⟩
        clear hj2 hF2
        have q2 : (q : Int) + 1 ≤ 9223372036854775807 := by have := HFEW.out; omega
        gi_wp2
        go_roundw
        case rel => exact ⟨q + 1, by have := HQ.out; omega, by go_num, HJ2, HI3, HSZ3⟩
        case measure => simp [intOf]; have := HQ.out; omega
      · have HX2 := hide hx2
        clear hx2 hk
        gi_wp2
        refine bodyPost_ret (results_none rfl _ _ _) rfl ?_
        exact ⟨⟨_, rfl⟩, .inr ⟨_, HX2.out⟩⟩
    · obtain rfl : q = ys.length := by omega
      clear hlt
      gi_wp2
      go_end0
      exact ⟨⟨_, rfl⟩, .inl ⟨F, hj.out⟩⟩
theorem cutL_all (xs : List It) : cutL xs 0 xs.length = xs := by
  unfold cutL
  rw [List.take_length, List.drop_zero]
theorem cutL_none {xs : List It} {b e : Nat} (h : e ≤ b) : cutL xs b e = [] := by
  unfold cutL
  refine List.drop_eq_nil_of_le ?_
  rw [List.length_take]
  omega
/-- walk, wherever it begins and ends. -/
theorem walk_any {w : World} {g : Nat} {r : Option Nat} {xs : List It} (n l : Nat) (hn : 1 ≤ n) (h : Ix w g r xs) {b e : Nat} (he : e ≤ xs.length) {J : Nat → (Nat → Prop) → World → Prop} {Jx : Nat → World → Prop} (hR : Rounds (n - 1) l w (cutL xs b e) J Jx) (h0 : Begun J w.heap.size w) :
    CallsIn Fence.wide n Try.prog 23 #[.pointer (some ⟨g, 0, none⟩), .int .i64 (b : Int), .int .i64 (e : Int), .func (.yield l) #[] #[]] w fun x w' => (∃ v, x = .returned v) ∧ ((∃ F, J (cutL xs b e).length F w') ∨ ∃ k, Jx k w') := by
  rcases Nat.lt_or_ge b e with hlt | hge
  · exact walk_in n l hn h hlt he hR h0
  · refine (walk_none n l hn (by omega)).mono ?_
    rintro x w' ⟨rfl, rfl⟩
    rw [cutL_none hge]
    obtain ⟨F, h1, _⟩ := h0
    exact ⟨⟨_, rfl⟩, .inl ⟨F, h1⟩⟩
set_option maxRecDepth 100000 in
set_option maxHeartbeats 2000000 in
/-- All. -/
theorem All_in {w : World} {g : Nat} {r : Option Nat} {xs : List It} (n l : Nat) (hn : 2 ≤ n) (h : Ix w g r xs) {J : Nat → (Nat → Prop) → World → Prop} {Jx : Nat → World → Prop} (hR : Rounds (n - 1 - 1) l w xs J Jx) (h0 : Begun J w.heap.size w) :
    CallsIn Fence.wide n Try.prog 18 #[.pointer (some ⟨g, 0, none⟩), .func (.yield l) #[] #[]] w fun x w' => (∃ v, x = .returned v) ∧ ((∃ F, J xs.length F w') ∨ ∃ k, Jx k w') := by
  refine callsIn_of_wp Try.func18 rfl trivial ?_ rfl
  simp only [Try.ntmps18, List.size_toArray, List.length_cons, List.length_nil, Nat.reduceAdd, Nat.reduceSub, Array.replicate_succ, Array.replicate_zero, List.push_toArray, List.append_toArray, List.nil_append, List.cons_append]
  have hL := len_any h
  have hW := walk_any (b := 0) (e := xs.length) (n - 1) l (by omega) h (Nat.le_refl _) (by rw [cutL_all]; exact hR) h0
  rw [cutL_all] at hW
  have e0 : ((0 : Nat) : Int) = 0 := rfl
  rw [e0] at hW
  clear e0
  have hn1 : 1 ≤ n := by omega
  have HL := hide hL
  have HW := hide hW
  clear hL hW hR h0 h
  gi_wp2_with (first
    | (refine ⟨trivial, ?_⟩; gi_at_call 16; refine (callsIn_wide.2 HL.out).mono ?_; rintro x w1 ⟨rfl, rfl⟩)
    | (refine ⟨trivial, ?_⟩; gi_at_call 23; refine HW.out.mono ?_; rintro x w1 ⟨⟨u, rfl⟩, hj⟩; have HJ := hide hj; clear hj))
  go_end0
  exact ⟨⟨_, rfl⟩, HJ.out⟩
/-- Where what comes behind y begins. -/
def endL (y : It) (xs : List It) : Nat := cnt (fun a => itB y a) xs
/-- From one key on up to another one. -/
def scanL (lo hi : It) (xs : List It) : List It := cutL xs (posL lo xs) (endL hi xs)
set_option maxRecDepth 100000 in
set_option maxHeartbeats 2000000 in
/-- What Scan hands out. -/
theorem Scan1_in {w : World} {g xb lb hb0 : Nat} {r : Option Nat} {xs : List It} {lo hi : It} (n l : Nat) (hn : 2 ≤ n) (h : Ix w g r xs) (hX : Blk w xb 46 #[.pointer (some ⟨g, 0, none⟩)]) (hlo : Blk w lb 30 lo.rowc) (hhi : Blk w hb0 30 hi.rowc)
    {J : Nat → (Nat → Prop) → World → Prop} {Jx : Nat → World → Prop} (hR : Rounds (n - 1 - 1) l w (scanL lo hi xs) J Jx) (h0 : Begun J w.heap.size w) :
    CallsIn Fence.wide n Try.prog 24 #[.func (.yield l) #[] #[], .pointer (some ⟨xb, 0, none⟩), .pointer (some ⟨lb, 0, none⟩), .pointer (some ⟨hb0, 0, none⟩)] w fun x w' => (∃ v, x = .returned v) ∧ ((∃ F, J (scanL lo hi xs).length F w') ∨ ∃ k, Jx k w') := by
  refine callsIn_of_wp Try.func24 rfl trivial ?_ rfl
  simp only [Try.ntmps24, List.size_toArray, List.length_cons, List.length_nil, Nat.reduceAdd, Nat.reduceSub, Array.replicate_succ, Array.replicate_zero, List.push_toArray, List.append_toArray, List.nil_append, List.cons_append]
  have hf1 : Calls Try.prog 25 #[.pointer (some ⟨g, 0, none⟩), .func (.func 26) #[] #[.pointer (some ⟨lb, 0, none⟩)]] w fun e w' => e = .returned (.int .i64 (posL lo xs : Nat)) ∧ Below w.heap.size w w' :=
    first_any (p := .pointer (some ⟨lb, 0, none⟩)) (K := 26) (q := fun a => !itB a lo) h ⟨fun args W => enters_of Try.func26 (by kernel_rfl) rfl args W, fun x _ W hW => ge_scan x (hlo.below hW)⟩ (itB_ge_mono h.srt _)
  have hf2 : ∀ W, Below w.heap.size w W → Calls Try.prog 25 #[.pointer (some ⟨g, 0, none⟩), .func (.func 28) #[] #[.pointer (some ⟨hb0, 0, none⟩)]] W fun e w' => e = .returned (.int .i64 (endL hi xs : Nat)) ∧ Below W.heap.size W w' := fun W hW =>
    first_any (p := .pointer (some ⟨hb0, 0, none⟩)) (K := 28) (q := fun a => itB hi a) (h.below hW) ⟨fun args W => enters_of Try.func28 (by kernel_rfl) rfl args W, fun x _ W2 hW2 => gt_scan x ((hhi.below hW).below hW2)⟩ (itB_gt_mono h.srt _)
  have hW : ∀ W, Below w.heap.size w W → CallsIn Fence.wide (n - 1) Try.prog 23 #[.pointer (some ⟨g, 0, none⟩), .int .i64 (posL lo xs : Nat), .int .i64 (endL hi xs : Nat), .func (.yield l) #[] #[]] W fun x w' => (∃ v, x = .returned v) ∧ ((∃ F, J (scanL lo hi xs).length F w') ∨ ∃ k, Jx k w') := fun W hW =>
    walk_any (n - 1) l (by omega) (h.below hW) (cnt_le _ _) (hR.more hW.size) (let ⟨F, h1, h2, h3⟩ := h0; ⟨F, hR.on _ _ _ _ h1 hW, fun k hk => Nat.lt_of_lt_of_le (h2 k hk) hW.size, Nat.le_refl _⟩)
  have hn1 : 1 ≤ n := by omega
  have x0 := hX.cell 0 _ rfl
  have HX := hide hX
  have HF1 := hide hf1
  have HF2 := hide hf2
  have HW := hide hW
  clear hf1 hf2 hW hR h0 h hX hlo hhi
  generalize posL lo xs = b at *
  generalize endL hi xs = e9 at *
  gi_wp2_with (first
    | (refine ⟨trivial, ?_⟩; gi_at_call 25; refine (callsIn_wide.2 HF1.out).mono ?_; rintro x w1 ⟨rfl, hb1⟩; have x1 := (HX.out.below hb1).cell 0 _ rfl; have HX1 := hide (HX.out.below hb1); have hf := HF2.out _ hb1; have HF3 := hide hf; have HB1 := hide hb1; clear hf hb1 HF1)
    | (refine ⟨trivial, ?_⟩; gi_at_call 25; refine (callsIn_wide.2 HF3.out).mono ?_; rintro x w2 ⟨rfl, hb2⟩; have x2 := (HX1.out.below hb2).cell 0 _ rfl; have hw := HW.out _ (HB1.out.trans (hb2.mono HB1.out.size)); have HW2 := hide hw; clear hw hb2 HF3)
    | (refine ⟨trivial, ?_⟩; gi_at_call 23; refine HW2.out.mono ?_; rintro x w3 ⟨⟨u, rfl⟩, hj⟩; have HJ := hide hj; clear hj))
  go_end0
  exact ⟨⟨_, rfl⟩, HJ.out⟩
end Go.Proofs.Ytkcomkllnhdohaa
