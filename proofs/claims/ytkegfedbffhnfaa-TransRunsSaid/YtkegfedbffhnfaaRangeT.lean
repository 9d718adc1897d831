/-
  'for n, x := range t.All { .. }': what the caller owes: what holds of its own blocks between two rounds (S: those that a round may turn), and one walk of its round.
-/
import Derived.Test.YtkegfedbffhnfaaAll
namespace Go.Proofs.Ytkegfedbffhnfaa
open Go.RowKit Go.Shelf

set_option linter.unusedSimpArgs false
set_option linter.unusedVariables false

/-- Beside blocks D and D + 1 nothing turns. -/
def Calm (D : Nat) (A B : World) : Prop := B.os = A.os ∧ B.tape = A.tape ∧ B.output = A.output ∧ A.heap.size ≤ B.heap.size ∧ ∀ j, j < A.heap.size → j ≠ D → j ≠ D + 1 → B.heap[j]? = A.heap[j]?
theorem Calm.of_below {D : Nat} {A B : World} (h : Below A.heap.size A B) : Calm D A B := ⟨h.os, h.tape, h.output, h.size, fun j hj _ _ => h.block j hj⟩
theorem Calm.put (D l : Nat) (A : World) (o : Obj) (hl : l = D ∨ l = D + 1) : Calm D A (A.putObj l o) :=
  ⟨rfl, rfl, rfl, by simp [World.putObj], fun j _ h1 h2 => World.putObj_heap_other (by omega)⟩
theorem Calm.trans {D : Nat} {A B C : World} (h : Calm D A B) (k : Calm D B C) : Calm D A C :=
  ⟨k.1.trans h.1, k.2.1.trans h.2.1, k.2.2.1.trans h.2.2.1, Nat.le_trans h.2.2.2.1 k.2.2.2.1, fun j hj h1 h2 => (k.2.2.2.2 j (Nat.lt_of_lt_of_le hj h.2.2.2.1) h1 h2).trans (h.2.2.2.2 j hj h1 h2)⟩
theorem Calm.kept {D : Nat} {A B : World} (h : Calm D A B) : Kept (fun k => k = D ∨ k = D + 1) A B := ⟨h.1, h.2.1, h.2.2.1, h.2.2.2.1, fun j hj hn => h.2.2.2.2 j hj (fun e => hn (.inl e)) (fun e => hn (.inr e))⟩
theorem Calm.below {D : Nat} {A B : World} (h : Calm D A B) (hD : D ≤ A.heap.size) : Below D A B := ⟨h.1, h.2.1, h.2.2.1, h.2.2.2.1, fun j hj => h.2.2.2.2 j (by omega) (by omega) (by omega)⟩
theorem Calm.blk {D g : Nat} {A B : World} {t : TypeId} {cs : Array Value} (h : Calm D A B) (hb : Blk A g t cs) (h1 : g ≠ D) (h2 : g ≠ D + 1) : Blk B g t cs := (h.2.2.2.2 g hb.lt h1 h2).trans hb
/-- How a round may end (m: how many blocks there were when it began). -/
def roundEnd (F : Nat → Prop) (m : Nat) (I : Nat → (Nat → Prop) → World → Prop) (Ix : Code → Nat → World → Prop) (k : Nat) (C : World) : Exit → Act → World → Prop
  | .normal, _, E => Kept (fun j => F j ∨ m ≤ j) C E ∧ ∃ F', I (k + 1) F' E ∧ ∀ j, F' j → F j ∨ m ≤ j
  | .ret, _, E => Kept (fun j => F j ∨ m ≤ j) C E ∧ Ix .ret k E
  | .exit id, _, E => Kept (fun j => F j ∨ m ≤ j) C E ∧ Ix (.exit id) k E
  | _, _, _ => False
theorem range_T {g : Operand} {ps : Array Tmp} {assign body : Code} {Q : Exit → Act → World → Prop} {a : Act} {w : World} {n gT : Nat} {T : Tb} (hn : 4 ≤ n)
    (hg : a.eval g = .func (.func 27) #[.pointer (some ⟨gT, 0, none⟩)] #[]) (hps : ps.size = 2)
    (hB : Blk w gT 27 (cellsT T)) (hz : T 0 = none) (ht4 : ∀ i, 4 ≤ i → T i = none)
    (I : Nat → (Nat → Prop) → World → Prop) (Ix : Code → Nat → World → Prop) (hI : ∀ k F A B, I k F A → ¬ F w.heap.size → ¬ F (w.heap.size + 1) → Calm w.heap.size A B → I k F B) (hIx : ∀ c k A B, Ix c k A → Calm w.heap.size A B → Ix c k B)
    (h0 : ∃ F, I 0 F w ∧ (∀ k, F k → k < w.heap.size) ∧ ¬ F gT) (hno : ∀ k F A, k < 4 → T k = none → I k F A → I (k + 1) F A)
    (hround : ∀ k F x t A, k < 4 → T k = some (x, t) → I k F A → ¬ F w.heap.size → ¬ F (w.heap.size + 1) → w.heap.size + 1 < A.heap.size →
      assign.wpIn (Fence.wide.inRound (w.heap.size + 1)) (n - 1 - 1) Try.prog (Exit.then (fun a' B => Below A.heap.size A B ∧ ∀ C, Calm w.heap.size B C → C.heap.size = B.heap.size → body.wpIn (Fence.wide.inRound (w.heap.size + 1)) (n - 1 - 1) Try.prog (roundEnd F A.heap.size I Ix k C) a' C) (fun _ _ _ => False))
        { tmps := (ps.zip #[.int .i64 (k : Int), .pointer (some ⟨x, 0, none⟩)]).foldl (fun t (p, v) => t.setIfInBounds p v) a.tmps, defers := [] } A)
    (hdone : ∀ F A, I 4 F A → ¬ F w.heap.size → A.heap[w.heap.size]? = some (.deferred (some [])) → Q .normal { a with defers := { target := .collected w.heap.size, args := #[] } :: a.defers } A)
    (hstop : ∀ c k A, Ix c k A → A.heap[w.heap.size]? = some (.deferred (some [])) → c.wpIn Fence.wide n Try.prog Q { a with defers := { target := .collected w.heap.size, args := #[] } :: a.defers } A) :
    (Code.rangeFunc g ps assign body).wpIn Fence.wide n Try.prog Q a w := by
  refine wpIn_rangeFunc fun fn hfn => ?_
  have hround0 : Fence.wide.round = none := rfl
  rw [hround0]
  obtain ⟨rec, hrec⟩ : ∃ rec : LoopState → Option Code → Loop, rec = fun st pe => { state := st, pending := pe, fn, tmps := a.tmps, params := ps, assign, body, defers := w.heap.size } := ⟨_, rfl⟩
  have hD : ((w.alloc (.deferred (some []))).alloc (.loop (rec .ready none))).heap[w.heap.size]? = some (.deferred (some [])) := heap_old _ _ _ _ (heap_new w _)
  have hL : ((w.alloc (.deferred (some []))).alloc (.loop (rec .ready none))).heap[w.heap.size + 1]? = some (.loop (rec .ready none)) := heap_at _ _ (by simp)
  have hBel : Below w.heap.size w ((w.alloc (.deferred (some []))).alloc (.loop (rec .ready none))) := ((Below.refl _ _).alloc (Nat.le_refl _) _).alloc (by simp) _
  have hC : Calm w.heap.size w ((w.alloc (.deferred (some []))).alloc (.loop (rec .ready none))) := Calm.of_below hBel
  have hsz1 : ((w.alloc (.deferred (some []))).alloc (.loop (rec .ready none))).heap.size = w.heap.size + 2 := by simp
  have hent := run_enterLoop_outer (P := Try.prog) (w := w) fn a.tmps ps assign body
  have hent' : (Instr.enterLoop fn a.tmps ps assign body none).run Try.prog w = .ok (w.heap.size + 1, [{ target := .collected w.heap.size, args := #[] }]) ((w.alloc (.deferred (some []))).alloc (.loop (rec .ready none))) := by rw [hent, hrec]
  obtain ⟨F0, hi0, hF0, hFT⟩ := h0
  have hF1 : ¬ F0 w.heap.size := fun h => by have := hF0 _ h; omega
  have hF2 : ¬ F0 (w.heap.size + 1) := fun h => by have := hF0 _ h; omega
  have hi1 := hI 0 F0 _ _ hi0 hF1 hF2 hC
  generalize (w.alloc (.deferred (some []))).alloc (.loop (rec .ready none)) = W1 at *
  clear hC hent
  have eg : ∀ args w, (callFunc 27 args).run Try.prog w = .ok (.enter 27 args) w := enters_of Try.func27 (by kernel_rfl) rfl
  refine ⟨w.heap.size + 1, _, W1, { target := .fn (.func 27) #[], args := #[.pointer (some ⟨gT, 0, none⟩), .func (.yield (w.heap.size + 1)) #[] #[]] }, W1, 27,
    #[.pointer (some ⟨gT, 0, none⟩), .func (.yield (w.heap.size + 1)) #[] #[]], W1, hent', ?_, fun _ _ => trivial, ?_, fun _ => by omega, ?_⟩
  · simp only [resolve, hg]
    simp [go_sem]
  · simp [invoke, go_sem, eg]
  · refine (All_in (n - 1) (w.heap.size + 1) (by omega) (hB.below hBel) hz ht4 (J := (fun k G W => ∃ F, (∀ j, G j ↔ F j ∨ j = w.heap.size ∨ j = w.heap.size + 1) ∧ ¬ F w.heap.size ∧ ¬ F (w.heap.size + 1) ∧ I k F W ∧ W.heap[w.heap.size + 1]? = some (.loop (rec .ready none)) ∧ W.heap[w.heap.size]? = some (.deferred (some []))))
      (Jx := (fun k W => ∃ c, Ix c k W ∧ W.heap[w.heap.size + 1]? = some (.loop (rec .done (some c))) ∧ W.heap[w.heap.size]? = some (.deferred (some [])))) ⟨?_, ?_, ?_⟩
      ⟨fun j => F0 j ∨ j = w.heap.size ∨ j = w.heap.size + 1, ⟨F0, fun _ => Iff.rfl, hF1, hF2, hi1, hL, hD⟩, ?_, ?_, Nat.le_refl _⟩).mono ?_
    · rintro k G A B ⟨F, e1, e2, e3, h1, h2, h3⟩ hb
      exact ⟨F, e1, e2, e3, hI _ _ _ _ h1 e2 e3 (.of_below hb), (hb.block _ (Array.getElem?_eq_some_iff.1 h2).1).trans h2, (hb.block _ (Array.getElem?_eq_some_iff.1 h3).1).trans h3⟩
    · rintro k G A hk4 hno2 ⟨F, e1, e2, e3, h1, h2, h3⟩
      exact ⟨F, e1, e2, e3, hno k F A hk4 hno2 h1, h2, h3⟩
    · rintro k G x t A hk4 hx ⟨F, e1, e2, e3, h1, h2, h3⟩ _
      have hlt : w.heap.size + 1 < A.heap.size := (Array.getElem?_eq_some_iff.1 h2).1
      have hy := run_yield (P := Try.prog) (args := #[.int .i64 (k : Int), .pointer (some ⟨x, 0, none⟩)]) h2 (by rw [hrec]; exact hps.symm)
      rw [hrec] at hy
      refine ⟨fn, _, assign, body, hy, roundIn_of_wpIn hfn ?_⟩
      refine wpIn_mono (hround k F x t A hk4 hx h1 e2 e3 hlt) ?_
      rintro e a' B hq
      cases e with
      | normal =>
        obtain ⟨hb, hq⟩ := hq
        have h2' := (hb.block _ hlt).trans h2
        have h3' := (hb.block _ (by omega)).trans h3
        have hltB : w.heap.size + 1 < B.heap.size := (Array.getElem?_eq_some_iff.1 h2').1
        refine ⟨_, run_beginRound h2' (by rw [hrec]), ?_⟩
        have hbusy : (B.putObj (w.heap.size + 1) (.loop { rec .ready none with state := .busy })).heap[w.heap.size + 1]? = some (.loop { rec .ready none with state := .busy }) := World.putObj_heap_same hltB
        have hdef : (B.putObj (w.heap.size + 1) (.loop { rec .ready none with state := .busy })).heap[w.heap.size]? = some (.deferred (some [])) := (World.putObj_heap_other (by omega)).trans h3'
        have hcalm : Calm w.heap.size B (B.putObj (w.heap.size + 1) (.loop { rec .ready none with state := .busy })) := Calm.put _ _ _ _ (.inr rfl)
        refine wpIn_mono (hq _ hcalm (by simp [World.putObj])) ?_
        generalize B.putObj (w.heap.size + 1) (.loop { rec .ready none with state := .busy }) = C at *
        have hltC : w.heap.size + 1 < C.heap.size := (Array.getElem?_eq_some_iff.1 hbusy).1
        have hAC : Kept G A C := (Kept.of_below (S := G) hb).trans hcalm.kept (fun i hi => .inl ((e1 i).2 (.inr hi)))
        have ends : ∀ (jump : Option Code) (E : World), Kept (fun j => F j ∨ A.heap.size ≤ j) C E →
            ∃ H, (Instr.endRound (w.heap.size + 1) jump).run Try.prog E = .ok (.bool jump.isNone) H ∧ Calm w.heap.size E H ∧ H.heap[w.heap.size + 1]? = some (.loop (rec (if jump.isNone then .ready else .done) jump)) ∧ H.heap[w.heap.size]? = some (.deferred (some [])) ∧ Kept G A H := by
          rintro jump E hK
          have x1 := hK.block _ (by omega : w.heap.size < C.heap.size) (fun h => h.elim e2 (fun h => by omega))
          have x2 := hK.block _ hltC (fun h => h.elim e3 (fun h => by omega))
          rw [hbusy] at x2
          rw [hdef] at x1
          have hr := run_endRound (P := Try.prog) jump x2
          rw [hrec] at hr x2 ⊢
          have hc2 : ∀ o, Calm w.heap.size E (E.putObj (w.heap.size + 1) o) := fun o => Calm.put _ _ _ _ (.inr rfl)
          exact ⟨_, hr, hc2 _, World.putObj_heap_same (Array.getElem?_eq_some_iff.1 x2).1, (World.putObj_heap_other (by omega)).trans x1, (hAC.trans hK (fun i hi => hi.imp (fun hi => (e1 i).2 (.inl hi)) id)).trans (hc2 _).kept (fun i hi => .inl ((e1 i).2 (.inr hi)))⟩
        rintro e a3 E hE
        cases e with
        | normal =>
          obtain ⟨hbk, F2, hi, hF⟩ := hE
          obtain ⟨H, y1, y2, y3, y4, y5⟩ := ends none E hbk
          have n1 : ¬ F2 w.heap.size := fun h => by rcases hF _ h with h | h; exact e2 h; omega
          have n2 : ¬ F2 (w.heap.size + 1) := fun h => by rcases hF _ h with h | h; exact e3 h; omega
          exact ⟨_, _, y1, y5, .inl ⟨rfl, fun j => F2 j ∨ j = w.heap.size ∨ j = w.heap.size + 1, ⟨F2, fun _ => Iff.rfl, n1, n2, hI _ _ _ _ hi n1 n2 y2, y3, y4⟩, fun j hj => by
            rcases hj with hj | hj
            · rcases hF _ hj with h | h
              · exact .inl ((e1 j).2 (.inl h))
              · exact .inr h
            · exact .inl ((e1 j).2 (.inr hj))⟩⟩
        | ret =>
          obtain ⟨hbk, hi⟩ := hE
          obtain ⟨H, y1, y2, y3, y4, y5⟩ := ends (some .ret) E hbk
          exact ⟨_, _, y1, y5, .inr ⟨rfl, .ret, hIx _ _ _ _ hi y2, y3, y4⟩⟩
        | exit id =>
          obtain ⟨hbk, hi⟩ := hE
          obtain ⟨H, y1, y2, y3, y4, y5⟩ := ends (some (.exit id)) E hbk
          exact ⟨_, _, y1, y5, .inr ⟨rfl, .exit id, hIx _ _ _ _ hi y2, y3, y4⟩⟩
        | goto t => exact hE.elim
        | panic ch => exact hE.elim
        | outgrown => exact hE.elim
      | ret => exact hq.elim
      | exit id => exact hq.elim
      | goto t => exact hq.elim
      | panic ch => exact hq.elim
      | outgrown => exact hq.elim
    · rintro j (hj | rfl | rfl)
      · have := hF0 j hj
        omega
      · omega
      · omega
    · rintro (hj | hj | hj)
      · exact hFT hj
      · have := hB.lt
        omega
      · have := hB.lt
        omega
    · rintro e B ⟨⟨v, rfl⟩, ⟨G, F, e1, e2, e3, h1, h2, h3⟩ | ⟨k, c, h1, h2, h3⟩⟩
      · have he := run_endLoop (P := Try.prog) h2 (by rw [hrec]; simp)
        rw [hrec] at he
        exact ⟨none, _, he, hdone F _ (hI _ _ _ _ h1 e2 e3 (Calm.put _ _ _ _ (.inr rfl))) e2 ((World.putObj_heap_other (by omega)).trans h3)⟩
      · have he := run_endLoop (P := Try.prog) h2 (by rw [hrec]; simp)
        rw [hrec] at he
        exact ⟨some c, _, he, hstop _ k _ (hIx _ _ _ _ h1 (Calm.put _ _ _ _ (.inr rfl))) ((World.putObj_heap_other (by omega)).trans h3)⟩
end Go.Proofs.Ytkegfedbffhnfaa
