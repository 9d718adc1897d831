/-
  Six numbers by value; two of what a call owns put together; append onto a slice that is cut at its length.
-/
import Derived.Test.YtoifghofkjomnaaMute12
import Derived.ArgAppend
namespace Go.Proofs.Ytoifghofkjomnaa
open Go.ChangeShapes Go.WideShapes Go.ChangeAt Go.RowKit
set_option maxRecDepth 20000
set_option linter.unusedSimpArgs false
set_option linter.unusedVariables false

section
variable {H : Type} {enc : TypeId × Value → H} {P : Program} {w : World} {r : Reach} {b0 base : Nat} {spare : Nat → Bool} {held : Bool}
/-- Six numbers by value. -/
theorem open_six {q t : TypeId} {v : Value} {d : DataW H} {ps : List MemPlace} (hq : P.underlying q = some (.array 6 t)) (hcq : P.cellsOf q = 6) (hct : P.cellsOf t = 1) (ht : P.underlying t = some (.int .u64)) (hval : Value.okWide P w r b0 q v)
    (hd : DataW.Trod enc P w base spare held q v d ps) : ∃ m : Nat → Int, v = .agg #[.int .u64 (m 0), .int .u64 (m 1), .int .u64 (m 2), .int .u64 (m 3), .int .u64 (m 4), .int .u64 (m 5)] := by
  unfold Value.okWide at hval
  rw [hq] at hval
  obtain ⟨cs, rfl, hcs, _⟩ := hval
  rw [hcq] at hcs
  obtain ⟨fuel, hf⟩ := hd
  have hlist : ∃ a0 a1 a2 a3 a4 a5, cs = #[a0, a1, a2, a3, a4, a5] := by
    obtain ⟨l⟩ := cs
    match l, hcs with
    | [a0, a1, a2, a3, a4, a5], _ => exact ⟨a0, a1, a2, a3, a4, a5, rfl⟩
  obtain ⟨a0, a1, a2, a3, a4, a5, rfl⟩ := hlist
  cases fuel with
  | zero => simp [DataW.trod] at hf
  | succ fuel =>
    have hf1 : DataW.trod enc P w base spare held (fuel + 1) q [a0, a1, a2, a3, a4, a5] = some (d, ps) := by simpa [Value.cells] using hf
    unfold DataW.trod at hf1
    rw [hq] at hf1
    simp only [hcq, hct, List.length_cons, List.length_nil, if_true] at hf1
    rw [show List.range 6 = [0, 1, 2, 3, 4, 5] from rfl] at hf1
    simp only [List.mapM_cons, List.mapM_nil, Option.map_eq_some_iff] at hf1
    obtain ⟨xs, hxs, _⟩ := hf1
    have one : ∀ a, (∃ x, DataW.trod enc P w base spare held fuel t [a] = some x) → ∃ z, a = .int .u64 z := fun a ⟨x, hx⟩ => by
      obtain ⟨z, e, _, _⟩ := DataW.trod_int ht hx
      injection e with e
      exact ⟨z, e⟩
    have all : ∀ a, (a = a0 ∨ a = a1 ∨ a = a2 ∨ a = a3 ∨ a = a4 ∨ a = a5) → ∃ x, DataW.trod enc P w base spare held fuel t [a] = some x := by
      intro a ha
      cases h0 : DataW.trod enc P w base spare held fuel t [a0] with
      | none => simp [h0] at hxs
      | some x0 =>
        cases h1 : DataW.trod enc P w base spare held fuel t [a1] with
        | none => simp [h0, h1] at hxs
        | some x1 =>
          cases h2 : DataW.trod enc P w base spare held fuel t [a2] with
          | none => simp [h0, h1, h2] at hxs
          | some x2 =>
            cases h3 : DataW.trod enc P w base spare held fuel t [a3] with
            | none => simp [h0, h1, h2, h3] at hxs
            | some x3 =>
              cases h4 : DataW.trod enc P w base spare held fuel t [a4] with
              | none => simp [h0, h1, h2, h3, h4] at hxs
              | some x4 =>
                cases h5 : DataW.trod enc P w base spare held fuel t [a5] with
                | none => simp [h0, h1, h2, h3, h4, h5] at hxs
                | some x5 => rcases ha with rfl | rfl | rfl | rfl | rfl | rfl <;> exact ⟨_, ‹_›⟩
    obtain ⟨z0, rfl⟩ := one a0 (all a0 (by simp))
    obtain ⟨z1, rfl⟩ := one a1 (all a1 (by simp))
    obtain ⟨z2, rfl⟩ := one a2 (all a2 (by simp))
    obtain ⟨z3, rfl⟩ := one a3 (all a3 (by simp))
    obtain ⟨z4, rfl⟩ := one a4 (all a4 (by simp))
    obtain ⟨z5, rfl⟩ := one a5 (all a5 (by simp))
    exact ⟨fun j => match j with | 0 => z0 | 1 => z1 | 2 => z2 | 3 => z3 | 4 => z4 | _ => z5, rfl⟩
end
theorem Ow.getFresh {A0 W : World} {L : List Res} {i : Nat} {r : Res} (h : Ow A0 (fun _ => False) W L) (hi : L[i]? = some r) : ∃ S, r.At W S ∧ ∀ k, S k → A0.heap.size ≤ k := by
  obtain ⟨F, ⟨lab, h1, h2, h3⟩, h4, h5⟩ := h
  exact ⟨_, h3 i r hi, fun k hk => (h5 k ((h1 k).2 (by rw [hk]; omega))).elim False.elim id⟩
/-- One thing of another call's own, in new blocks. -/
theorem Ow.adoptNew {A0 W W' : World} {F0 : Nat → Prop} {L L2 : List Res} {i : Nat} {r : Res} (h : Ow A0 F0 W L) (h2 : Ow W (fun _ => False) W' L2) (hi : L2[i]? = some r) : Ow A0 F0 W' (L ++ [r]) := by
  obtain ⟨S, h3, h4⟩ := h2.getFresh hi
  exact h.push h2.bel (r.mono h3 (fun k hk _ => h4 k hk))
theorem Kd.Row.srcK {α : Type} {K : Kd α} {w : World} {A : Option Addr} {n c : Nat} {es : List α} (h : K.Row w (.slice A n c) es) : A = none ∧ es = [] ∨ ∃ g, A = some ⟨g, 0, none⟩ ∧ ∀ j u, (K.flat es)[j]? = some u → w.cell? ⟨g, j, none⟩ = some u := by
  rcases h.2 with ⟨e, h0⟩ | ⟨g, cap, cur, e, _, hg, _, _, hs, ht⟩
  · injection e with e _ _
    exact .inl ⟨e, List.eq_nil_of_length_eq_zero h0⟩
  · injection e with e _ _
    refine .inr ⟨g, e, fun j u hj => ?_⟩
    have := h
    rw [e] at this
    rw [cell_of_row w g _ cur _ _ hg, ← Array.getElem?_toList]
    rw [← ht, List.getElem?_take] at hj
    split at hj
    · exact hj
    · cases hj
/-- append onto a slice that is cut at its length: a new array. -/
theorem run_append_cut {α : Type} {K : Kd α} {w : World} {A : Option Addr} {n c m g : Nat} {es xs : List α} (h : K.Row w (.slice A n c) es) (hx : ∀ j u, (K.flat xs)[j]? = some u → w.cell? ⟨g, j, none⟩ = some u) (hm : m = xs.length) (hm0 : 0 < m) (hl : es.length + m ≤ 100000) (ty : TypeId) :
    ∃ v' w', (Builtin.append_ #[K.TS, K.TS] ty #[.slice A n n, .slice (some ⟨g, 0, none⟩) m m]).run Try.prog w = .ok v' w' ∧ K.Row w' v' (es ++ xs) ∧ Below w.heap.size w w' ∧ ∀ k, v'.ownBlock = some k → w.heap.size ≤ k := by
  subst hm
  obtain ⟨i0, hi0, hz0, hzs, hzb⟩ := info_parts K.info
  have hby := K.hby
  have hn := h.cap.1
  have hfl : ∀ v' w', w'.ownsRow w.heap.size K.T K.m v' (es.length + xs.length) (K.flat es ++ K.flat xs) → K.Row w' v' (es ++ xs) := fun v' w' h => by
    unfold Kd.Row
    rw [List.length_append, kf_append]
    exact h.mono (Nat.zero_le _)
  have hbytes : (es.length + xs.length) * K.bytes ≤ 140737488355328 := by
    calc (es.length + xs.length) * K.bytes ≤ 100000 * 1000 := Nat.mul_le_mul (by omega) hby
      _ ≤ 140737488355328 := by decide
  have hadd : ∀ (g j : Nat), (⟨g, 0, none⟩ : Addr).add j = ⟨g, j, none⟩ := fun g j => by rw [addr_add, Nat.zero_add]
  rcases h.srcK with ⟨rfl, rfl⟩ | ⟨b, rfl, hs⟩
  · obtain rfl : n = 0 := hn
    obtain ⟨v', w', hrun, h2, h3, _, h5⟩ := run_append_own_at (P := Try.prog) w w.heap.size K.TS ty K.T i0 _ K.m K.bytes K.hT hi0 hz0 hzs hzb K.hz K.hm (.slice none 0 0) 0 [] (World.ownsRow_nil _ _ _ _) ⟨g, 0, none⟩ xs.length xs.length (K.flat xs) (kf_length K xs)
      (fun j u hu => by rw [hadd]; exact hx j u hu) (kf_one K xs) (by simp only [maxLen]; omega) (by rw [List.length_nil, Nat.zero_add] at hbytes; rw [Nat.zero_add]; exact hbytes) (Nat.le_refl _)
    refine ⟨v', w', hrun, hfl v' w' h2, (Kept.of_grown h3).below (Nat.le_refl _) (fun k e => by cases e), fun k e => (World.ownsRow.lt h2 k e).1⟩
  · obtain ⟨v', w', hrun, h2, h3⟩ := run_append_arg_grows (P := Try.prog) w K.TS ty K.T i0 _ K.m K.bytes K.hT hi0 hz0 hzs hzb K.hz K.hm ⟨b, 0, none⟩ n n (K.flat es) (by rw [kf_length, hn]) (fun j u hu => by rw [hadd]; exact hs j u hu)
      ⟨g, 0, none⟩ xs.length xs.length (K.flat xs) (kf_length K xs) (fun j u hu => by rw [hadd]; exact hx j u hu) (by omega) (by simp only [maxLen]; omega) (by rw [hn]; exact hbytes)
    rw [hn] at h2
    exact ⟨v', w', hrun, hfl v' w' h2, (Kept.of_grown h3).below (Nat.le_refl _) (fun k e => by cases e), fun k e => (World.ownsRow.lt h2 k e).1⟩
end Go.Proofs.Ytoifghofkjomnaa
