/-
  'for i, r := range p.Rows { .. }': what the caller owes: what holds of its own blocks between two rounds, and one walk of its round.
-/
import Derived.Test.YtajpjffjhnmfmaaRowsIt
namespace Go.Proofs.Ytajpjffjhnmfmaa
open Go.RowKit Go.Shelf

set_option linter.unusedSimpArgs false
set_option linter.unusedVariables false

/-- Beside blocks D and D + 1 nothing turns. -/
def Calm (D : Nat) (A B : World) : Prop := B.os = A.os ∧ B.tape = A.tape ∧ B.output = A.output ∧ A.heap.size ≤ B.heap.size ∧ ∀ j, j < A.heap.size → j ≠ D → j ≠ D + 1 → B.heap[j]? = A.heap[j]?
theorem Calm.of_below {D : Nat} {A B : World} (h : Below A.heap.size A B) : Calm D A B := ⟨h.os, h.tape, h.output, h.size, fun j hj _ _ => h.block j hj⟩
theorem Calm.put (D l : Nat) (A : World) (o : Obj) (hl : l = D ∨ l = D + 1) : Calm D A (A.putObj l o) :=
  ⟨rfl, rfl, rfl, by simp [World.putObj], fun j _ h1 h2 => World.putObj_heap_other (by omega)⟩
theorem Calm.trans {D : Nat} {A B C : World} (h : Calm D A B) (k : Calm D B C) : Calm D A C :=
  ⟨k.1.trans h.1, k.2.1.trans h.2.1, k.2.2.1.trans h.2.2.1, Nat.le_trans h.2.2.2.1 k.2.2.2.1, fun j hj h1 h2 => (k.2.2.2.2 j (Nat.lt_of_lt_of_le hj h.2.2.2.1) h1 h2).trans (h.2.2.2.2 j hj h1 h2)⟩
theorem Calm.below {D : Nat} {A B : World} (h : Calm D A B) (hD : D ≤ A.heap.size) : Below D A B := ⟨h.1, h.2.1, h.2.2.1, h.2.2.2.1, fun j hj => h.2.2.2.2 j (by omega) (by omega) (by omega)⟩
theorem Calm.blk {D g : Nat} {A B : World} {t : TypeId} {cs : Array Value} (h : Calm D A B) (hb : Blk A g t cs) (h1 : g ≠ D) (h2 : g ≠ D + 1) : Blk B g t cs := (h.2.2.2.2 g hb.lt h1 h2).trans hb
/-- How a round may end. -/
def roundEnd (D : Nat) (I : Nat → World → Prop) (Ix : Code → Nat → World → Prop) (k : Nat) (C : World) : Exit → Act → World → Prop
  | .normal, _, E => (E.heap[D]? = C.heap[D]? ∧ E.heap[D + 1]? = C.heap[D + 1]?) ∧ I (k + 1) E
  | .ret, _, E => (E.heap[D]? = C.heap[D]? ∧ E.heap[D + 1]? = C.heap[D + 1]?) ∧ Ix .ret k E
  | .exit id, _, E => (E.heap[D]? = C.heap[D]? ∧ E.heap[D + 1]? = C.heap[D + 1]?) ∧ Ix (.exit id) k E
  | _, _, _ => False
theorem range_rows {gp : Nat} {p : Pg} {g : Operand} {ps : Array Tmp} {assign body : Code} {Q : Exit → Act → World → Prop} {a : Act} {w : World} {n : Nat} (hn : 2 ≤ n)
    (hg : a.eval g = .func (.func 20) #[.pointer (some ⟨gp, 0, none⟩)] #[]) (hps : ps.size = 2) (hok : ∀ j, j < 5 → okB (p.s j) = true)
    (I : Nat → World → Prop) (Ix : Code → Nat → World → Prop) (hI : ∀ k A B, I k A → Calm w.heap.size A B → I k B) (hIx : ∀ c k A B, Ix c k A → Calm w.heap.size A B → Ix c k B)
    (hp : ∀ k A, I k A → PgB A gp p) (hskip : ∀ k A, k < 5 → p.s k = ⟨#[]⟩ → I k A → I (k + 1) A) (h0 : I 0 w)
    (hround : ∀ k A, k < 5 → p.s k ≠ ⟨#[]⟩ → I k A → w.heap.size + 1 < A.heap.size →
      assign.wpIn (Fence.wide.inRound (w.heap.size + 1)) (n - 1 - 1) Try.prog (Exit.then (fun a' B => Below A.heap.size A B ∧ ∀ C, Calm w.heap.size B C → C.heap.size = B.heap.size → body.wpIn (Fence.wide.inRound (w.heap.size + 1)) (n - 1 - 1) Try.prog (roundEnd w.heap.size I Ix k C) a' C) (fun _ _ _ => False))
        { tmps := (ps.zip #[.int .i64 (k : Int), .agg #[.int .i64 (decT (p.s k).data.toList), .string (decK (p.s k).data.toList), .string (decV (p.s k).data.toList)]]).foldl (fun t (p, v) => t.setIfInBounds p v) a.tmps, defers := [] } A)
    (hdone : ∀ A, I 5 A → A.heap[w.heap.size]? = some (.deferred (some [])) → Q .normal { a with defers := { target := .collected w.heap.size, args := #[] } :: a.defers } A)
    (hstop : ∀ c k A, Ix c k A → A.heap[w.heap.size]? = some (.deferred (some [])) → c.wpIn Fence.wide n Try.prog Q { a with defers := { target := .collected w.heap.size, args := #[] } :: a.defers } A) :
    (Code.rangeFunc g ps assign body).wpIn Fence.wide n Try.prog Q a w := by
  refine wpIn_rangeFunc fun fn hfn => ?_
  have hround0 : Fence.wide.round = none := rfl
  rw [hround0]
  obtain ⟨rec, hrec⟩ : ∃ rec : LoopState → Option Code → Loop, rec = fun st pe => { state := st, pending := pe, fn, tmps := a.tmps, params := ps, assign, body, defers := w.heap.size } := ⟨_, rfl⟩
  have hD : ((w.alloc (.deferred (some []))).alloc (.loop (rec .ready none))).heap[w.heap.size]? = some (.deferred (some [])) := heap_old _ _ _ _ (heap_new w _)
  have hL : ((w.alloc (.deferred (some []))).alloc (.loop (rec .ready none))).heap[w.heap.size + 1]? = some (.loop (rec .ready none)) := heap_at _ _ (by simp)
  have hC : Calm w.heap.size w ((w.alloc (.deferred (some []))).alloc (.loop (rec .ready none))) := Calm.of_below (((Below.refl _ _).alloc (Nat.le_refl _) _).alloc (by simp) _)
  have hent := run_enterLoop_outer (P := Try.prog) (w := w) fn a.tmps ps assign body
  have hent' : (Instr.enterLoop fn a.tmps ps assign body none).run Try.prog w = .ok (w.heap.size + 1, [{ target := .collected w.heap.size, args := #[] }]) ((w.alloc (.deferred (some []))).alloc (.loop (rec .ready none))) := by rw [hent, hrec]
  have hi1 := hI 0 _ _ h0 hC
  generalize (w.alloc (.deferred (some []))).alloc (.loop (rec .ready none)) = W1 at *
  clear hC hent
  have eg : ∀ args w, (callFunc 20 args).run Try.prog w = .ok (.enter 20 args) w := enters_of Try.func20 (by kernel_rfl) rfl
  refine ⟨w.heap.size + 1, _, W1, { target := .fn (.func 20) #[], args := #[.pointer (some ⟨gp, 0, none⟩), .func (.yield (w.heap.size + 1)) #[] #[]] }, W1, 20,
    #[.pointer (some ⟨gp, 0, none⟩), .func (.yield (w.heap.size + 1)) #[] #[]], W1, hent', ?_, fun _ _ => trivial, ?_, fun _ => by omega, ?_⟩
  · simp only [resolve, hg]
    simp [go_sem]
  · simp [invoke, go_sem, eg]
  · refine (rows_in (w := W1) (g := gp) (p := p) (n - 1) (w.heap.size + 1) (by omega) (hp _ _ hi1) hok
      (fun k W => I k W ∧ W.heap[w.heap.size + 1]? = some (.loop (rec .ready none)) ∧ W.heap[w.heap.size]? = some (.deferred (some [])))
      (fun k W => ∃ c, Ix c k W ∧ W.heap[w.heap.size + 1]? = some (.loop (rec .done (some c))) ∧ W.heap[w.heap.size]? = some (.deferred (some []))) ?_ (fun k A h => hp k A h.1) (fun k A hk hs h => ⟨hskip k A hk hs h.1, h.2⟩) ?_ ⟨hi1, hL, hD⟩).mono ?_
    · rintro k A B ⟨h1, h2, h3⟩ hb
      exact ⟨hI _ _ _ h1 (.of_below hb), (hb.block _ (Array.getElem?_eq_some_iff.1 h2).1).trans h2, (hb.block _ (Array.getElem?_eq_some_iff.1 h3).1).trans h3⟩
    · rintro k A hk hs ⟨h1, h2, h3⟩
      have hlt : w.heap.size + 1 < A.heap.size := (Array.getElem?_eq_some_iff.1 h2).1
      have hy := run_yield (P := Try.prog) (args := #[.int .i64 (k : Int), .agg #[.int .i64 (decT (p.s k).data.toList), .string (decK (p.s k).data.toList), .string (decV (p.s k).data.toList)]]) h2 (by rw [hrec]; exact hps.symm)
      rw [hrec] at hy
      refine ⟨fn, _, assign, body, hy, roundIn_of_wpIn hfn ?_⟩
      refine wpIn_mono (hround k A hk hs h1 hlt) ?_
      rintro e a' B hq
      cases e with
      | normal =>
        obtain ⟨hb, hq⟩ := hq
        have h2' := (hb.block _ hlt).trans h2
        have h3' := (hb.block _ (by omega)).trans h3
        have hltB : w.heap.size + 1 < B.heap.size := (Array.getElem?_eq_some_iff.1 h2').1
        refine ⟨_, run_beginRound h2' (by rw [hrec]), ?_⟩
        have hbusy : (B.putObj (w.heap.size + 1) (.loop { rec .ready none with state := .busy })).heap[w.heap.size + 1]? = some (.loop { rec .ready none with state := .busy }) := World.putObj_heap_same hltB
        have hdef : (B.putObj (w.heap.size + 1) (.loop { rec .ready none with state := .busy })).heap[w.heap.size]? = some (.deferred (some [])) := (World.putObj_heap_other (by omega)).trans h3'
        refine wpIn_mono (hq _ (Calm.put _ _ _ _ (.inr rfl)) (by simp [World.putObj])) ?_
        generalize B.putObj (w.heap.size + 1) (.loop { rec .ready none with state := .busy }) = C at *
        have ends : ∀ (jump : Option Code) (E : World), E.heap[w.heap.size]? = C.heap[w.heap.size]? ∧ E.heap[w.heap.size + 1]? = C.heap[w.heap.size + 1]? →
            ∃ F, (Instr.endRound (w.heap.size + 1) jump).run Try.prog E = .ok (.bool jump.isNone) F ∧ Calm w.heap.size E F ∧ F.heap[w.heap.size + 1]? = some (.loop (rec (if jump.isNone then .ready else .done) jump)) ∧ F.heap[w.heap.size]? = some (.deferred (some [])) := by
          rintro jump E ⟨x1, x2⟩
          rw [hbusy] at x2
          rw [hdef] at x1
          have hr := run_endRound (P := Try.prog) jump x2
          rw [hrec] at hr x2 ⊢
          exact ⟨_, hr, Calm.put _ _ _ _ (.inr rfl), World.putObj_heap_same (Array.getElem?_eq_some_iff.1 x2).1, (World.putObj_heap_other (by omega)).trans x1⟩
        rintro e a3 E hE
        cases e with
        | normal =>
          obtain ⟨hbk, hi⟩ := hE
          obtain ⟨G, y1, y2, y3, y4⟩ := ends none E hbk
          exact ⟨_, _, y1, .inl ⟨rfl, hI _ _ _ hi y2, y3, y4⟩⟩
        | ret =>
          obtain ⟨hbk, hi⟩ := hE
          obtain ⟨G, y1, y2, y3, y4⟩ := ends (some .ret) E hbk
          exact ⟨_, _, y1, .inr ⟨rfl, .ret, hIx _ _ _ _ hi y2, y3, y4⟩⟩
        | exit id =>
          obtain ⟨hbk, hi⟩ := hE
          obtain ⟨G, y1, y2, y3, y4⟩ := ends (some (.exit id)) E hbk
          exact ⟨_, _, y1, .inr ⟨rfl, .exit id, hIx _ _ _ _ hi y2, y3, y4⟩⟩
        | goto t => exact hE.elim
        | panic ch => exact hE.elim
        | outgrown => exact hE.elim
      | ret => exact hq.elim
      | exit id => exact hq.elim
      | goto t => exact hq.elim
      | panic ch => exact hq.elim
      | outgrown => exact hq.elim
    · rintro e B ⟨⟨v, rfl⟩, ⟨h1, h2, h3⟩ | ⟨k, c, h1, h2, h3⟩⟩
      · have he := run_endLoop (P := Try.prog) h2 (by rw [hrec]; simp)
        rw [hrec] at he
        exact ⟨none, _, he, hdone _ (hI _ _ _ h1 (Calm.put _ _ _ _ (.inr rfl))) ((World.putObj_heap_other (by omega)).trans h3)⟩
      · have he := run_endLoop (P := Try.prog) h2 (by rw [hrec]; simp)
        rw [hrec] at he
        exact ⟨some c, _, he, hstop _ k _ (hIx _ _ _ _ h1 (Calm.put _ _ _ _ (.inr rfl))) ((World.putObj_heap_other (by omega)).trans h3)⟩
end Go.Proofs.Ytajpjffjhnmfmaa
