/-
  Contract of Changes.
-/
import Derived.Test.YtkegfedbffhnfaaOpen
import Derived.OrdersIn
namespace Go.Proofs.Ytkegfedbffhnfaa
open Go.RowKit Go.Shelf
set_option maxRecDepth 20000
set_option linter.unusedSimpArgs false
set_option linter.unusedVariables false
attribute [local go_sem] Oper.semAt_some

/-- How many changes there are below place k. -/
def lenO : Option (Nat × Tx) → Nat
  | none => 0
  | some (_, t) => t.l.length
def sumT (T : Tb) : Nat → Nat
  | 0 => 0
  | k + 1 => sumT T k + lenO (T k)
theorem sumT_le {T : Tb} (hl : ∀ i x t, T i = some (x, t) → t.l.length ≤ 100000) : ∀ k, sumT T k ≤ k * 100000
  | 0 => Nat.le_refl _
  | k + 1 => by
    have := sumT_le hl k
    have h2 : lenO (T k) ≤ 100000 := by
      cases h : T k with
      | none => exact Nat.zero_le _
      | some z => exact hl k z.1 z.2 h
    show sumT T k + lenO (T k) ≤ _
    omega
theorem sumT_none {T : Tb} {k : Nat} (h : T k = none) : sumT T (k + 1) = sumT T k := by
  show sumT T k + lenO (T k) = _
  rw [h]
  rfl
theorem sumT_some {T : Tb} {k x : Nat} {t : Tx} (h : T k = some (x, t)) : sumT T (k + 1) = sumT T k + t.l.length := by
  show sumT T k + lenO (T k) = _
  rw [h]
  rfl
set_option maxHeartbeats 4000000 in
theorem changes_any {w : World} {g : Nat} {T : Tb} {O : Nat → Prop} (h : Tab layT 27 w g T O) (hl : ∀ i x t, T i = some (x, t) → t.l.length ≤ 100000) :
    Calls Try.prog 23 #[.pointer (some ⟨g, 0, none⟩)] w fun e w' => e = .returned (.int .i64 (sumT T 4 : Nat)) ∧ Below w.heap.size w w' := by
  have HH := hide h
  have HL := hide hl
  have S0 : Hid (Ow w (fun _ => False) (w.alloc (.cells #[.int .i64 0] 3)) [Res.blk w.heap.size 3 #[.int .i64 (sumT T 0 : Nat)]]) := hide ((Ow.start w).box 3 #[.int .i64 (0 : Nat)])
  have hgl := h.blk.lt
  have HGL := hide hgl
  clear h hgl hl
  refine (callsIn_wide (n := 4)).1 ?_
  refine callsIn_of_wp_marks Try.func23 rfl trivial ?_ rfl
  refine wpIn_wide.2 ?_
  simp only [Try.ntmps23, List.size_toArray, List.length_cons, List.length_nil, Nat.reduceAdd, Nat.reduceSub, Array.replicate_succ, Array.replicate_zero, List.push_toArray, List.append_toArray, List.nil_append, List.cons_append]
  go_wp2
  generalize (w.alloc (.cells #[.int .i64 0] 3)) = w5 at *
  obtain ⟨F, hF⟩ := S0.out
  have hwD := hF.kept.size
  refine wpIn_wide.1 (range_T (n := 4) (by omega) rfl rfl (HH.out.blk.below S0.out.bel) HH.out.zero HH.out.top (fun q F A => OwF w (fun _ => False) F A [Res.blk w.heap.size 3 #[.int .i64 (sumT T q : Nat)]]) (fun _ _ _ => False)
    (fun q F A B h e1 e2 hc => h.calm hc e1 e2 hwD) (fun _ _ _ _ h _ => h) ⟨F, hF, hF.lt, fun hg => ?fg⟩ (fun q F A _ hT h => by rw [sumT_none hT]; exact h) ?round ?done ?stop)
  case fg =>
    rcases hF.new g hg with h | h
    · exact h
    · have := HGL.out
      omega
  case round =>
    clear hF S0
    rintro q F x t A hk hT hA e1 e2 hlA
    have HA := hide hA
    have E1 := hide e1
    have E2 := hide e2
    have HLA := hide hlA
    have HTQ := hide hT
    have q1 : (sumT T q : Int) ≤ 400000 := by have := sumT_le HL.out q; omega
    have q2 : (t.l.length : Int) ≤ 100000 := by have := HL.out q x t hT; omega
    clear hA e1 e2 hlA hT
    gi_wp2
    refine ⟨Below.refl _ _, fun C hC hs2 => ?_⟩
    have h1 := HA.out.calm hC E1.out E2.out hwD
    have H1 := hide h1
    have c0 := (h1.restart.blk (i := 0) rfl).cell 0 _ rfl
    have cf := (h1.restart.blk (i := 0) rfl).frozen 0
    have HCS := hide (show A.heap.size ≤ C.heap.size by rw [hs2]; exact Nat.le_refl _)
    obtain ⟨Av, Bv, htx⟩ := (HH.out.below (Ow.bel ⟨F, h1⟩)).tx HTQ.out
    have hL := len_x (htx.below (Below.refl _ _).drew)
    clear h1 hC hs2 htx
    gi_wp2
    gi_region_with (refine ⟨trivial, ?_⟩; gi_at_call 21; refine (callsIn_wide.2 hL).mono ?_; rintro e w1 ⟨rfl, rfl⟩)
    all_goals
      obtain ⟨k1, F', k2, k3⟩ := H1.out.round_out (m := A.heap.size) (fun k h => .inl h) (H1.out.restart.set_ (i := 0) rfl 0 (.int .i64 ((sumT T q : Int) + (t.l.length : Int)))) HCS.out
      have hwr : IntKind.i64.wrap ((sumT T q : Int) + (t.l.length : Int)) = (sumT T q : Int) + (t.l.length : Int) := by
        rw [IntKind.wrap_i64]
        omega
      rw [hwr]
      refine ⟨k1.drew, F', ?_, k3⟩
      show OwF w (fun _ => False) F' _ [Res.blk w.heap.size 3 #[.int .i64 (sumT T (q + 1) : Nat)]]
      rw [sumT_some HTQ.out]
      exact OwF.below k2 (Below.refl _ _).drew
  case done =>
    clear hF S0
    rintro F A hA e1 hK
    have HA := hide hA
    have HK := hide hK
    have c0 := (Ow.blk (i := 0) ⟨_, hA⟩ rfl).cell 0 _ rfl
    clear hA hK
    go_wp2
    refine ⟨by simp, .inl ⟨_, _, rfl, run_takeDeferred HK.out, ?_⟩⟩
    exact ⟨.int .i64 (sumT T 4 : Nat), by simp [results, Try.results23, go_sem], rfl, ow_end ⟨F, HA.out⟩ hwD⟩
  case stop => intro c k A h; exact h.elim
end Go.Proofs.Ytkegfedbffhnfaa
