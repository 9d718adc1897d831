/-
  Stage 11's fit.
-/
import Derived.Test.YtkegfedbffhnfaaArgs11
namespace Go.Proofs.Ytkegfedbffhnfaa
open Go.RowKit
set_option maxRecDepth 20000
set_option linter.unusedSimpArgs false
set_option linter.unusedVariables false

section
variable {A0 W : World} {F0 : Nat → Prop} {L : List Res} {i g k : Nat} {T : Tb}
theorem ow_begin_to (h : Ow A0 F0 W L) (hi : L[i]? = some (Res.tt g T)) (hk : leastT T = k) (hk0 : k ≠ 0) : Calls Try.prog 10 #[.pointer (some ⟨g, 0, none⟩)] W fun e W' => e = .returned (.int .i64 (k : Int)) ∧ ∃ x, Ow A0 F0 W' (L.set i (Res.tt g (updT T k (some (x, tx0))))) := by
  refine (ow_begin h hi).mono ?_
  rintro e W' ⟨rfl, T', hb, h1⟩
  rw [hk]
  rcases hb with ⟨h2, _⟩ | ⟨_, x, rfl⟩
  · exact absurd (hk.symm.trans h2) hk0
  · rw [hk] at h1
    exact ⟨rfl, x, h1⟩
theorem ow_begin_full (h : Ow A0 F0 W L) (hi : L[i]? = some (Res.tt g T)) (hk : leastT T = 0) : Calls Try.prog 10 #[.pointer (some ⟨g, 0, none⟩)] W fun e W' => e = .returned (.int .i64 0) ∧ Ow A0 F0 W' (L.set i (Res.tt g T)) := by
  refine (ow_begin h hi).mono ?_
  rintro e W' ⟨rfl, T', hb, h1⟩
  rw [hk]
  rcases hb with ⟨_, rfl⟩ | ⟨h2, _⟩
  · exact ⟨rfl, h1⟩
  · exact absurd hk h2
end
/-- The same, where a region has drawn. -/
theorem ow_getq {A0 W : World} {F0 : Nat → Prop} {L : List Res} {i g j : Nat} {T : Tb} {v : Value} (h : Ow A0 F0 W L) (hi : L[i]? = some (Res.tt g T)) (hv : pv (T j) = v) (n : Nat) : Calls Try.prog 12 #[.pointer (some ⟨g, 0, none⟩), .int .i64 (j : Int)] (W.drewN n) fun e w' => e = .returned v ∧ w' = W.drewN n := by
  obtain ⟨O, h1⟩ := h.tab hi
  have := get_blk (w := W.drewN n) (show Blk (W.drewN n) g 27 (cellsT T) from h1.blk) (j : Int)
  rw [getT_nat h1.zero h1.top, hv] at this
  exact this.mono (fun e w' h => ⟨h.1, h.2.symm⟩)
theorem len_q {W : World} {x : Nat} {A B : Value} {t : Tx} (h : TxP layT W x A B t) (n : Nat) : Calls Try.prog 21 #[.pointer (some ⟨x, 0, none⟩)] (W.drewN n) fun e w' => e = .returned (.int .i64 (t.l.length : Int)) ∧ w' = W.drewN n :=
  (len_x (w := W.drewN n) ⟨h.blk, h.l, h.s, h.ax, h.bx, h.ab⟩).mono (fun e w' h => ⟨h.1, h.2.symm⟩)
theorem full_q {W : World} {x : Nat} {A B : Value} {t : Tx} (h : TxP layT W x A B t) (n : Nat) : Calls Try.prog 22 #[.pointer (some ⟨x, 0, none⟩)] (W.drewN n) fun e w' => e = .returned (.bool (decide (8 ≤ t.ops))) ∧ w' = W.drewN n :=
  (full_x (w := W.drewN n) ⟨h.blk, h.l, h.s, h.ax, h.bx, h.ab⟩).mono (fun e w' h => ⟨h.1, h.2.symm⟩)
theorem wf_small {n : Int} (h0 : -1000000 ≤ n) (h1 : n ≤ 1000000) : (Lit.int .i64 n).wf = true := by
  simp [Lit.wf, IntKind.min, IntKind.max, IntKind.signed, IntKind.bits]
  omega
theorem fit_any (w : World) : Calls Try.prog 9 #[] w fun e w' => e = .returned (.bool true) ∧ Below w.heap.size w w' := by
  have hs := (Ow.start w).newtab layT 27
  have HK0 := hide (ow_begin_to (T := noT) (k := 1) hs (i := 0) rfl rfl (by decide))
  clear hs
  go_enter Try.func9, Try.ntmps9
  go_wp2_with (first
    | (go_at_call 10; (with_reducible refine HK0.out.mono ?_); rintro e w1 ⟨rfl, x1, hs⟩; clear HK0; have HK1 := hide (ow_begin_to (k := 2) hs (i := 0) rfl rfl (by decide)); clear hs)
    | (go_at_call 10; (with_reducible refine HK1.out.mono ?_); rintro e w2 ⟨rfl, x2, hs⟩; clear HK1; have HK2 := hide (ow_begin_to (k := 3) hs (i := 0) rfl rfl (by decide)); clear hs)
    | (go_at_call 10; (with_reducible refine HK2.out.mono ?_); rintro e w3 ⟨rfl, x3, hs⟩; clear HK2; have HK3 := hide (ow_begin_full hs (i := 0) rfl rfl); clear hs)
    | (go_at_call 10; (with_reducible refine HK3.out.mono ?_); rintro e w4 ⟨rfl, hs⟩; clear HK3; have HK4 := hide (ow_open (c := 3) hs (i := 0) rfl rfl); clear hs)
    | (go_at_call 19; (with_reducible refine HK4.out.mono ?_); rintro e w5 ⟨rfl, hs⟩; clear HK4; have HE := hide hs; clear hs))
  go_ret
  exact ⟨rfl, HE.out.bel⟩
end Go.Proofs.Ytkegfedbffhnfaa
