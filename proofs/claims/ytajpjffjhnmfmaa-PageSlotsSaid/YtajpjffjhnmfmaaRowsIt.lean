/-
  Contract of package page: Rows, as what a loop ranges over.
-/
import Derived.RangeFuncNested
import Derived.RangeFuncBound
import Derived.RangeFuncCalls
import Derived.RangeFuncLeaves
import Derived.Shelf.Abstract
import Derived.Shelf.RegionOpen
import Derived.WalkKit
import Derived.OwnWalkIn
import Derived.TacticsInMore
import Derived.LoopNIn
import Derived.LoopIn
import Derived.Test.YtajpjffjhnmfmaaPSpec
namespace Go.Proofs.Ytajpjffjhnmfmaa
open Go.RowKit Go.Shelf

set_option linter.unusedSimpArgs false
set_option linter.unusedVariables false
attribute [local go_sem] Oper.semAt_some

theorem eql_func (f : Fn) (a b : Array Value) (w : World) : (binOp .eql 64 (.func f a b) .nilFunc).run Try.prog w = .ok (.bool false) w := by
  have h : ∀ d : Nat, (Op.equalIn (d + 1) 64 (.func f a b) .nilFunc).run Try.prog w = .ok false w := fun d => by
    simp [Op.equalIn, run_underlying Try.underlying64]
  simp only [binOp]
  simp [Op.equal, Op.maxDepth, h 9999]
set_option maxRecDepth 100000 in
set_option maxHeartbeats 2000000 in
/-- Rows, over whatever a round does that keeps its word: J k: the slots ahead of k have been gone over. -/
theorem rows_in {w : World} {g : Nat} {p : Pg} (n l : Nat) (hn : 1 ≤ n) (hp0 : PgB w g p) (hok : ∀ j, j < 5 → okB (p.s j) = true) (J : Nat → World → Prop) (Jx : Nat → World → Prop)
    (hJ : ∀ k A B, J k A → Below A.heap.size A B → J k B) (hJp : ∀ k A, J k A → PgB A g p) (hskip : ∀ k A, k < 5 → p.s k = ⟨#[]⟩ → J k A → J (k + 1) A)
    (hY : ∀ k A, k < 5 → p.s k ≠ ⟨#[]⟩ → J k A → YieldAt Fence.wide (n - 1) Try.prog l #[.int .i64 (k : Int), .agg #[.int .i64 (decT (p.s k).data.toList), .string (decK (p.s k).data.toList), .string (decV (p.s k).data.toList)]] A fun e B => (e = .returned (.bool true) ∧ J (k + 1) B) ∨ (e = .returned (.bool false) ∧ Jx k B))
    (h0 : J 0 w) :
    CallsIn Fence.wide n Try.prog 20 #[.pointer (some ⟨g, 0, none⟩), .func (.yield l) #[] #[]] w fun e B => (∃ v, e = .returned v) ∧ (J 5 B ∨ ∃ k, Jx k B) := by
  refine callsIn_of_wp Try.func20 rfl trivial ?_ rfl
  simp only [Try.ntmps20, List.size_toArray, List.length_cons, List.length_nil, Nat.reduceAdd, Nat.reduceSub, Array.replicate_succ, Array.replicate_zero, List.push_toArray, List.append_toArray, List.nil_append, List.cons_append]
  have HJ := hide hJ
  have HP := hide hJp
  have HS := hide hskip
  have HY := hide hY
  have HO := hide hok
  have H0 := hide h0
  clear hJ hJp hskip hY hok h0 hp0
  have hef := eql_func
  gi_wp2
  gi_loopw [13] (fun i wr => ∃ k : Nat, k ≤ 5 ∧ i = .int .i64 k ∧ Hid (J k wr)) (fun i _ => 5 - (intOf i).toNat)
  case atStart => exact ⟨0, by omega, rfl, H0⟩
  case round =>
    obtain ⟨k, hk, rfl, hj⟩ := hrel
    by_cases hlt : k < 5
    · have hc := (HP.out k _ hj.out).slot hlt
      have hcv := run_cvt (p.s k) wr
      have hrd := hide (cvt_rd wr (p.s k))
      by_cases h0 : p.s k = ⟨#[]⟩
      · have hE : decE (p.s k).data.toList = 9 := by rw [h0]; decide
        have HE := hide hE
        have HN := hide (HS.out k wr hlt h0 hj.out)
        have hE0 := hide h0
        clear hE h0
        gi_wp2_with (refine ⟨trivial, ?_⟩; gi_at_call 28; refine (callsIn_wide.2 (decode_fn _ _ _ hrd.out)).mono ?_; rw [HE.out]; unfold decR; generalize decT _ = t; generalize decK _ = kk; generalize decV _ = vv; rintro e w2 ⟨rfl, hb2⟩)
        refine ⟨fun _ h => (by cases h), ?_⟩
        gi_wp2
        have hcb := cvt_below wr (p.s k)
        have h2 := hcb.trans (hb2.mono hcb.size)
        go_roundw
        case rel => exact ⟨k + 1, by omega, by go_num, hide (HJ.out _ _ _ HN.out (h2.alloc h2.size _))⟩
        case measure => simp [intOf]; omega
      · have hrow := okB_row (HO.out k hlt) h0
        have HE := hide (decE_row hrow)
        have hE0 := hide h0
        clear h0 hrow
        gi_wp2_with (refine ⟨trivial, ?_⟩; gi_at_call 28; refine (callsIn_wide.2 (decode_fn _ _ _ hrd.out)).mono ?_; rw [HE.out]; unfold decR; rintro e w2 ⟨rfl, hb2⟩; have hcb := hide (cvt_below wr (p.s k)); have h2 := hide (hcb.out.trans (hb2.mono hcb.out.size)); have h3 := hide (h2.out.alloc h2.out.size (.cells #[.int .i64 (decT (p.s k).data.toList), .string (decK (p.s k).data.toList), .string (decV (p.s k).data.toList)] 46)); have h4 := hide (HJ.out _ _ _ hj.out h3.out); obtain ⟨fn, tmps, assign, body, hy, hR⟩ := HY.out k _ hlt hE0.out h4.out)
        refine hR.mono ?_
        rintro e B (⟨rfl, hj2⟩ | ⟨rfl, hx⟩)
        · gi_wp2
          go_roundw
          case rel => exact ⟨k + 1, by omega, by go_num, hide hj2⟩
          case measure => simp [intOf]; omega
        · gi_wp2
          refine bodyPost_ret (results_none rfl _ _ _) rfl ?_
          exact ⟨⟨_, rfl⟩, .inr ⟨_, hx⟩⟩
    · obtain rfl : k = 5 := by omega
      gi_wp2
      go_end0
      exact ⟨⟨_, rfl⟩, .inl hj.out⟩
end Go.Proofs.Ytajpjffjhnmfmaa
