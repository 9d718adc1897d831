/-
  Contract of Open.
-/
import Derived.Test.YtkegfedbffhnfaaOwR
namespace Go.Proofs.Ytkegfedbffhnfaa
open Go.RowKit Go.Shelf
set_option maxRecDepth 20000
set_option linter.unusedSimpArgs false
set_option linter.unusedVariables false
attribute [local go_sem] Oper.semAt_some

/-- How many are open below place k. -/
def cntT (T : Tb) : Nat → Nat
  | 0 => 0
  | k + 1 => cntT T k + (if (T k).isSome then 1 else 0)
theorem cntT_le (T : Tb) : ∀ k, cntT T k ≤ k
  | 0 => Nat.le_refl _
  | k + 1 => by
    have := cntT_le T k
    unfold cntT
    split <;> omega
theorem cntT_none {T : Tb} {k : Nat} (h : T k = none) : cntT T (k + 1) = cntT T k := by
  show cntT T k + _ = _
  rw [h]
  rfl
theorem cntT_some {T : Tb} {k : Nat} {z : Nat × Tx} (h : T k = some z) : cntT T (k + 1) = cntT T k + 1 := by
  show cntT T k + _ = _
  rw [h]
  rfl
set_option maxHeartbeats 4000000 in
theorem open_any {w : World} {g : Nat} {T : Tb} {O : Nat → Prop} (h : Tab layT 27 w g T O) :
    Calls Try.prog 19 #[.pointer (some ⟨g, 0, none⟩)] w fun e w' => e = .returned (.int .i64 (cntT T 4 : Nat)) ∧ Below w.heap.size w w' := by
  have HB := hide h.blk
  have HZ := hide h.zero
  have HT := hide h.top
  have S0 : Hid (Ow w (fun _ => False) (w.alloc (.cells #[.int .i64 (0 : Nat)] 3)) [Res.blk w.heap.size 3 #[.int .i64 (0 : Nat)]]) := hide ((Ow.start w).box 3 #[.int .i64 (0 : Nat)])
  have hgl := h.blk.lt
  have HGL := hide hgl
  clear h hgl
  refine (callsIn_wide (n := 4)).1 ?_
  refine callsIn_of_wp_marks Try.func19 rfl trivial ?_ rfl
  refine wpIn_wide.2 ?_
  simp only [Try.ntmps19, List.size_toArray, List.length_cons, List.length_nil, Nat.reduceAdd, Nat.reduceSub, Array.replicate_succ, Array.replicate_zero, List.push_toArray, List.append_toArray, List.nil_append, List.cons_append]
  go_wp2
  have S1 : Hid (Ow w (fun _ => False) (w.alloc (.cells #[.int .i64 0] 3)) [Res.blk w.heap.size 3 #[.int .i64 (cntT T 0 : Nat)]]) := S0
  have HB1 := hide (HB.out.alloc (.cells #[.int .i64 0] 3))
  have HD : Hid (w.heap.size < (w.alloc (.cells #[.int .i64 0] 3)).heap.size) := hide (by simp)
  generalize (w.alloc (.cells #[.int .i64 0] 3)) = w5 at *
  clear S0 HB
  obtain ⟨F, hF⟩ := S1.out
  have hwD := hF.kept.size
  refine wpIn_wide.1 (range_T (n := 4) (by omega) rfl rfl HB1.out HZ.out HT.out (fun q F A => OwF w (fun _ => False) F A [Res.blk w.heap.size 3 #[.int .i64 (cntT T q : Nat)]]) (fun _ _ _ => False)
    (fun q F A B h e1 e2 hc => h.calm hc e1 e2 hwD) (fun _ _ _ _ h _ => h) ⟨F, hF, hF.lt, fun hg => ?fg⟩ (fun q F A _ hT h => by rw [cntT_none hT]; exact h) ?round ?done ?stop)
  case fg =>
    rcases hF.new g hg with h | h
    · exact h
    · have := HGL.out
      omega
  case round =>
    clear hF S1
    rintro q F x t A hk hT hA e1 e2 hlA
    have HA := hide hA
    have E1 := hide e1
    have E2 := hide e2
    have HLA := hide hlA
    have HTQ := hide hT
    have q1 : (cntT T q : Int) ≤ 4 := by have := cntT_le T q; omega
    clear hA e1 e2 hlA hT
    gi_wp2
    refine ⟨Below.refl _ _, fun C hC hs2 => ?_⟩
    have h1 := HA.out.calm hC E1.out E2.out hwD
    have H1 := hide h1
    have c0 := (h1.restart.blk (i := 0) rfl).cell 0 _ rfl
    have cf := (h1.restart.blk (i := 0) rfl).frozen 0
    have HCS := hide (show A.heap.size ≤ C.heap.size by rw [hs2]; exact Nat.le_refl _)
    clear h1 hC hs2
    gi_wp2
    obtain ⟨k1, F', k2, k3⟩ := H1.out.round_out (m := A.heap.size) (fun k h => .inl h) (H1.out.restart.set_ (i := 0) rfl 0 (.int .i64 ((cntT T q : Int) + 1))) HCS.out
    refine ⟨k1, F', ?_, k3⟩
    show OwF w (fun _ => False) F' _ [Res.blk w.heap.size 3 #[.int .i64 (cntT T (q + 1) : Nat)]]
    rw [cntT_some HTQ.out]
    exact k2
  case done =>
    clear hF S1
    rintro F A hA e1 hK
    have HA := hide hA
    have HK := hide hK
    have c0 := (Ow.blk (i := 0) ⟨_, hA⟩ rfl).cell 0 _ rfl
    clear hA hK
    go_wp2
    refine ⟨by simp, .inl ⟨_, _, rfl, run_takeDeferred HK.out, ?_⟩⟩
    exact ⟨.int .i64 (cntT T 4 : Nat), by simp [results, Try.results19, go_sem], rfl, ow_end ⟨F, HA.out⟩ hwD⟩
  case stop => intro c k A h; exact h.elim
end Go.Proofs.Ytkegfedbffhnfaa
