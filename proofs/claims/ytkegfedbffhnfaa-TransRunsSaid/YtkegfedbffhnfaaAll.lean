/-
  All, as what a loop ranges over.
-/
import Derived.Test.YtkegfedbffhnfaaBegin
import Derived.RangeFuncNested
import Derived.RangeFuncBound
import Derived.RangeFuncCalls
import Derived.RangeFuncLeaves
import Derived.Shelf.Abstract
import Derived.Shelf.RegionOpen
import Derived.WalkKit
import Derived.OwnWalkIn
import Derived.TacticsInMore
import Derived.LoopNIn
import Derived.LoopIn
namespace Go.Proofs.Ytkegfedbffhnfaa
open Go.RowKit Go.Shelf
set_option maxRecDepth 20000
set_option linter.unusedSimpArgs false
set_option linter.unusedVariables false
attribute [local go_sem] Oper.semAt_some

theorem eql_yieldT (f : Fn) (a b : Array Value) (w : World) : (binOp .eql 66 (.func f a b) .nilFunc).run Try.prog w = .ok (.bool false) w := by
  have h : ∀ d : Nat, (Op.equalIn (d + 1) 66 (.func f a b) .nilFunc).run Try.prog w = .ok false w := fun d => by
    simp [Op.equalIn, run_underlying Try.underlying66]
  simp only [binOp]
  simp [Op.equal, Op.maxDepth, h 9999]
/-- What the rounds over a table owe: J k F: its first k places have been gone over, F being the blocks that a round may turn, beside new ones (which may become its own). -/
structure RoundsT (n l : Nat) (w : World) (T : Tb) (J : Nat → (Nat → Prop) → World → Prop) (Jx : Nat → World → Prop) : Prop where
  on : ∀ k F A B, J k F A → Below A.heap.size A B → J k F B
  no : ∀ k F A, k < 4 → T k = none → J k F A → J (k + 1) F A
  yd : ∀ k F x t A, k < 4 → T k = some (x, t) → J k F A → w.heap.size ≤ A.heap.size → YieldAt Fence.wide n Try.prog l #[.int .i64 (k : Int), .pointer (some ⟨x, 0, none⟩)] A fun e B => Kept F A B ∧ ((e = .returned (.bool true) ∧ ∃ F', J (k + 1) F' B ∧ ∀ j, F' j → F j ∨ A.heap.size ≤ j) ∨ (e = .returned (.bool false) ∧ Jx k B))
/-- Where it begins: the blocks that a round may turn are there; the table's is none of them. -/
def BegunT (J : Nat → (Nat → Prop) → World → Prop) (B : Nat) (w : World) (g : Nat) : Prop := ∃ F, J 0 F w ∧ (∀ k, F k → k < B) ∧ ¬ F g ∧ B ≤ w.heap.size
set_option maxRecDepth 100000 in
set_option maxHeartbeats 2000000 in
theorem All_in {w : World} {g : Nat} {T : Tb} (n l : Nat) (hn : 2 ≤ n) (h : Blk w g 27 (cellsT T)) (hz : T 0 = none) (ht : ∀ i, 4 ≤ i → T i = none) {J : Nat → (Nat → Prop) → World → Prop} {Jx : Nat → World → Prop} (hR : RoundsT (n - 1) l w T J Jx) (h0 : BegunT J w.heap.size w g) :
    CallsIn Fence.wide n Try.prog 27 #[.pointer (some ⟨g, 0, none⟩), .func (.yield l) #[] #[]] w fun x w' => (∃ v, x = .returned v) ∧ ((∃ F, J 4 F w') ∨ ∃ k, Jx k w') := by
  refine callsIn_of_wp Try.func27 rfl trivial ?_ rfl
  simp only [Try.ntmps27, List.size_toArray, List.length_cons, List.length_nil, Nat.reduceAdd, Nat.reduceSub, Array.replicate_succ, Array.replicate_zero, List.push_toArray, List.append_toArray, List.nil_append, List.cons_append]
  have hef := eql_yieldT
  have hn1 : 1 ≤ n := by omega
  have HR := hide hR
  have H0 := hide h0
  have HB := hide h
  have HZ := hide hz
  have HT := hide ht
  have hgl := h.lt
  have HGL := hide hgl
  clear hR h0 h hz ht hgl
  gi_wp2
  gi_loopw [8] (fun i wr => ∃ q : Nat, q ≤ 4 ∧ i = .int .i64 q ∧ Hid (∃ F, J q F wr ∧ ¬ F g) ∧ Hid (Blk wr g 27 (cellsT T)) ∧ Hid (w.heap.size ≤ wr.heap.size)) (fun i _ => 4 - (intOf i).toNat)
  case atStart => exact ⟨0, by omega, rfl, hide (let ⟨F, h1, h2, h3, h4⟩ := H0.out; ⟨F, h1, h3⟩), HB, hide (Nat.le_refl _)⟩
  case round =>
    obtain ⟨q, hq, rfl, hjF, hb, hsz⟩ := hrel
    obtain ⟨F, hj0, hF⟩ := hjF.out
    have hj := hide hj0
    have HF := hide hF
    clear hj0 hF hjF
    by_cases hlt : q < 4
    · have hG := get_blk hb.out (q : Int)
      rw [getT_nat HZ.out HT.out] at hG
      have HQ := hide hlt
      have q1 : (q : Int) < 4 := by omega
      cases hTq : T q with
      | none =>
        rw [hTq] at hG
        have hgp : pv none = .pointer none := rfl
        rw [hgp] at hG
        have HNX := hide (HR.out.no q F wr hlt hTq hj.out)
        clear hgp hTq hlt
        gi_wp2_with (refine ⟨trivial, ?_⟩; gi_at_call 12; refine (callsIn_wide.2 hG).mono ?_; rintro x w1 ⟨rfl, rfl⟩)
        refine And.intro (fun f h => by cases h) ?_
        gi_wp2
        go_roundw
        case rel => exact ⟨q + 1, by have := HQ.out; omega, by go_num, hide ⟨F, HNX.out, HF.out⟩, hb, hsz⟩
        case measure => simp [intOf]; have := HQ.out; omega
      | some z =>
        obtain ⟨x, t⟩ := z
        rw [hTq] at hG
        have hgp : pv (some (x, t)) = .pointer (some ⟨x, 0, none⟩) := rfl
        rw [hgp] at hG
        obtain ⟨fn, tmps, assign, body, hy, hRd⟩ := HR.out.yd q F x t wr hlt hTq hj.out hsz.out
        have HRD := hide hRd
        clear hRd hgp hTq hlt
        gi_wp2_with (refine ⟨trivial, ?_⟩; gi_at_call 12; refine (callsIn_wide.2 hG).mono ?_; rintro x w1 ⟨rfl, rfl⟩)
        refine HRD.out.mono ?_
        rintro z B ⟨hk, ⟨rfl, F2, hj2, hF2⟩ | ⟨rfl, hx2⟩⟩
        · have HB3 := hide (hk.blk hb.out HF.out)
          have HSZ3 := hide (Nat.le_trans hsz.out hk.size)
          clear hk
          have HJ2 : Hid (∃ F, J (q + 1) F B ∧ ¬ F g) := hide ⟨F2, hj2, fun h => by
            rcases hF2 _ h with h | h
            · exact HF.out h
            · have := HGL.out
              have := hsz.out
              omega⟩
          clear hj2 hF2
          gi_wp2
          go_roundw
          case rel => exact ⟨q + 1, by have := HQ.out; omega, by go_num, HJ2, HB3, HSZ3⟩
          case measure => simp [intOf]; have := HQ.out; omega
        · have HX2 := hide hx2
          clear hx2 hk
          gi_wp2
          refine bodyPost_ret (results_none rfl _ _ _) rfl ?_
          exact ⟨⟨_, rfl⟩, .inr ⟨_, HX2.out⟩⟩
    · obtain rfl : q = 4 := by omega
      clear hlt
      gi_wp2
      go_end0
      exact ⟨⟨_, rfl⟩, .inl ⟨F, hj.out⟩⟩
end Go.Proofs.Ytkegfedbffhnfaa
