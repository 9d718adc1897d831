/-
  Slices of records: cut, appended onto, copied; none is ever written where it lies.
-/
import Derived.Test.YtlmoiepbnnfebaaJnd
import Derived.ArgAppend
namespace Go.Proofs.Ytlmoiepbnnfebaa
open Go.RowKit
set_option maxRecDepth 20000
set_option linter.unusedSimpArgs false
set_option linter.unusedVariables false

theorem sliceR : Try.prog.underlying 34 = some (.slice (Try.prog.elem 34)) := by kernel_rfl
theorem sizeR (w : World) : (sizeOf (Try.prog.elem 34)).run Try.prog w = .ok 8 w := by kernel_rfl
/-- Where a slice of records begins that is cut off its first k. -/
def hiR (A : Option Addr) (c k : Nat) : Option Addr := if c = k then A else A.map (·.add (k * 8))
theorem run_highR (A : Option Addr) (n c k : Nat) (hk : k ≤ n) (hc : n ≤ c) (w : World) : (Instr.slice 34 (.slice A n c) (some (.int .i64 (k : Int))) none none).run Try.prog w = .ok (.slice (hiR A c k) (n - k) (c - k)) w := by
  rw [run_slice_l w 34 A n c sliceR .i64 (k : Int) (by omega) (by omega), sizeR]
  simp [Result.andThen, sliced, hiR]
theorem run_lowR (A : Option Addr) (n c k : Nat) (hk : k ≤ c) (w : World) : (Instr.slice 34 (.slice A n c) none (some (.int .i64 (k : Int))) (some (.int .i64 (k : Int)))).run Try.prog w = .ok (.slice A k k) w := by
  rw [run_slice_hm w 34 A n c sliceR .i64 .i64 (k : Int) (k : Int) (by omega) (by omega) (by omega), sizeR]
  by_cases h : k = 0
  · subst h
    simp [Result.andThen, sliced]
  · simp [Result.andThen, sliced, h]
    cases A <;> simp [Addr.add]
section
variable {w w' : World} {X Y : Nat → Prop} {A : Option Addr} {n c k : Nat} {rs : List Rc} {v : Value}
theorem RecsN.low (h : RecsAt w X (.slice A n c) rs) (hk : k ≤ n) : RecsAt w X (.slice A k k) (rs.take k) := by
  obtain ⟨A', c', e, hc, h⟩ := h
  injection e with e1 e2 e3
  subst e1 e2 e3
  have hl : (rs.take k).length = k := by rw [List.length_take]; omega
  refine ⟨A, k, by rw [hl], by rw [hl]; exact Nat.le_refl _, fun hn => ?_⟩
  obtain ⟨b, o, rfl, hb, hx, hr⟩ := h (by omega)
  refine ⟨b, o, rfl, hb, hx, fun j r hj => hr j r ?_⟩
  rw [List.getElem?_take] at hj
  split at hj
  · exact hj
  · cases hj
theorem RecsN.high (h : RecsAt w X (.slice A n c) rs) (hk : k ≤ n) : RecsAt w X (.slice (hiR A c k) (n - k) (c - k)) (rs.drop k) := by
  obtain ⟨A', c', e, hc, h⟩ := h
  injection e with e1 e2 e3
  subst e1 e2 e3
  have hl : (rs.drop k).length = rs.length - k := List.length_drop ..
  refine ⟨_, _, by rw [hl], by omega, fun hn => ?_⟩
  obtain ⟨b, o, rfl, hb, hx, hr⟩ := h (by omega)
  have hck : c ≠ k := by omega
  refine ⟨b, o + k * 8, by simp [hiR, hck, Addr.add], hb, hx, fun j r hj => ?_⟩
  rw [show o + k * 8 + j * 8 = o + (k + j) * 8 by omega]
  exact hr (k + j) r (by rw [← hj, List.getElem?_drop])
theorem recs_aux {b : Nat} : ∀ (rs : List Rc) (o : Nat), (∀ j r, rs[j]? = some r → ∃ D, w.rangeAt b (o + j * 8) (rcv r D) ∧ RIn w X D (u64s r.ds)) →
    ∃ es : List Re, es.map (·.1) = rs ∧ (∀ e ∈ es, RIn w X e.2 (u64s e.1.ds)) ∧ ∀ j u, (es.flatMap rcell)[j]? = some u → w.cell? ⟨b, o + j, none⟩ = some u
  | [], o, _ => ⟨[], rfl, (fun e he => by cases he), fun j u hu => by simp at hu⟩
  | r :: rs, o, h => by
    obtain ⟨D, h1, h2⟩ := h 0 r rfl
    obtain ⟨es, h3, h4, h5⟩ := recs_aux rs (o + 8) (fun j q hj => by
      have := h (j + 1) q hj
      rwa [show o + (j + 1) * 8 = o + 8 + j * 8 by omega] at this)
    refine ⟨(r, D) :: es, by rw [List.map_cons, h3], fun e he => ?_, fun j u hu => ?_⟩
    · rcases List.mem_cons.1 he with rfl | he
      · exact h2
      · exact h4 e he
    · rw [List.flatMap_cons] at hu
      rcases Nat.lt_or_ge j 8 with hj | hj
      · rw [List.getElem?_append_left (by rw [rcell_length]; exact hj)] at hu
        have := h1 j u hu
        rwa [Nat.zero_mul, Nat.add_zero] at this
      · rw [List.getElem?_append_right (by rw [rcell_length]; exact hj), rcell_length] at hu
        have := h5 (j - 8) u hu
        rwa [show o + 8 + (j - 8) = o + j by omega] at this
/-- The cells of a slice of records, side by side. -/
theorem recs_cells (h : RecsAt w X (.slice A n c) rs) : ∃ es : List Re, es.map (·.1) = rs ∧ es.length = n ∧ (∀ e ∈ es, RIn w X e.2 (u64s e.1.ds)) ∧ (A = none → es = []) ∧ ∀ a, A = some a → (es = [] ∨ ∀ j u, (es.flatMap rcell)[j]? = some u → w.cell? (a.add j) = some u) := by
  obtain ⟨A', c', e, hc, h⟩ := h
  injection e with e1 e2 e3
  subst e1 e2 e3
  rcases Nat.eq_zero_or_pos rs.length with h0 | hpos
  · obtain rfl := List.eq_nil_of_length_eq_zero h0
    exact ⟨[], rfl, rfl, (fun e he => by cases he), fun _ => rfl, fun _ _ => .inl rfl⟩
  · obtain ⟨b, o, rfl, hb, hx, hr⟩ := h hpos
    obtain ⟨es, h3, h4, h5⟩ := recs_aux rs o hr
    refine ⟨es, h3, by rw [← h3, List.length_map], h4, (fun e => by cases e), fun a e => .inr fun j u hu => ?_⟩
    obtain rfl := Option.some.inj e
    rw [addr_add]
    exact h5 j u hu
theorem rows_one {es : List Re} (h : ∀ e ∈ es, RIn w X e.2 (u64s e.1.ds)) : ∀ u ∈ es.flatMap rcell, u.oneCell' = true := by
  intro u hu
  obtain ⟨e, he, hu⟩ := List.mem_flatMap.1 hu
  obtain ⟨A, c, e2, _⟩ := h e he
  obtain ⟨er, ev⟩ := e
  dsimp only at e2
  subst e2
  exact rcell_one _ _ _ _ u hu
theorem rows_length (es : List Re) : (es.flatMap rcell).length = es.length * 8 := by
  induction es with
  | nil => rfl
  | cons a es ih => rw [List.flatMap_cons, List.length_append, ih, rcell_length, List.length_cons]; omega
theorem infoR : ∃ i, Try.prog.info? 33 = some i ∧ i.zero = some (.agg #[.int .i64 0, .int .i64 0, .int .i64 0, .int .i64 0, .string ⟨#[]⟩, .string ⟨#[]⟩, .string ⟨#[]⟩, .slice none 0 0]) ∧ i.size = 8 ∧ i.bytes = 104 := by
  have hinf := infoRec3
  cases hq : Try.prog.info? 33 with
  | none => rw [hq] at hinf; cases hinf
  | some i =>
    rw [hq] at hinf
    simp only [Option.map_some, Option.some.injEq, Prod.mk.injEq] at hinf
    exact ⟨i, rfl, hinf.1, hinf.2.1, hinf.2.2⟩
/-- An own row in a new block, whose numbers lie where they lay. -/
theorem own_recs {es : List Re} (h : w'.ownsRow 0 33 8 v es.length (es.flatMap rcell)) (hb : Below w.heap.size w w') (hnew : ∀ k, v.ownBlock = some k → w.heap.size ≤ k) (hX : ∀ k, X k → k < w.heap.size) (hn : ∀ e ∈ es, RIn w X e.2 (u64s e.1.ds)) :
    RecsAt w' (fun k => X k ∨ w.heap.size ≤ k) v (es.map (·.1)) := by
  have hG : Gath w' (fun k => X k ∨ w.heap.size ≤ k) v es := ⟨h, fun k e => .inr (hnew k e), fun e he => (hn e he).keep (fun p hp _ => hb.cell hp) hb.size (fun k hk hx => ⟨.inl hx, fun e => by have := hnew k e; omega⟩)⟩
  exact hG.recs
/-- append([]Record(nil), all...). -/
theorem run_nil_recs (h : RecsAt w X (.slice A n c) rs) (hl : n ≤ 100000) (hX : ∀ k, X k → k < w.heap.size) :
    ∃ v' w', (Builtin.append_ #[34, 34] 34 #[.slice none 0 0, .slice A n c]).run Try.prog w = .ok v' w' ∧ RecsAt w' (fun k => X k ∨ w.heap.size ≤ k) v' rs ∧ Below w.heap.size w w' := by
  obtain ⟨i, hi, hz, hs, hby⟩ := infoR
  obtain ⟨es, h1, h2, h3, h4, h5⟩ := recs_cells h
  have own0 : w.ownsRow 0 33 8 (.slice none 0 0) 0 [] := World.ownsRow_nil _ _ _ _
  cases A with
  | none =>
    obtain rfl := h4 rfl
    subst h1
    subst h2
    obtain ⟨A', c', e, hc, _⟩ := h
    injection e with e1 e2 e3
    refine ⟨.slice none 0 0, w, ?_, RecsN.nil_ _ _, Below.refl _ _⟩
    simp [Builtin.append_, run_underlying Try.underlying34, sizeOf, typeInfo, hi, Builtin.lenOf, Builtin.firstCells]
  | some a =>
    obtain ⟨v', w', hrun, h6, h7, _, h8⟩ := run_append_own_at (P := Try.prog) (w := w) 0 34 34 33 i _ 8 104 Try.underlying34 hi hz hs hby rfl (by omega) _ 0 _ own0 a n c (es.flatMap rcell) (by rw [rows_length, h2])
      (fun j u hu => by
        rcases h5 a rfl with rfl | h5
        · simp at hu
        · exact h5 j u hu) (rows_one h3) (by simp only [maxLen]; omega) (by omega) (Nat.zero_le _)
    have hb : Below w.heap.size w w' := (Kept.of_grown h7).below (Nat.le_refl _) (fun k e => by cases e)
    rw [Nat.zero_add, List.nil_append, ← h2] at h6
    refine ⟨v', w', hrun, ?_, hb⟩
    rw [← h1]
    refine own_recs h6 hb (fun k e => ?_) hX h3
    rcases h8 with h8 | h8
    · rw [h8] at e; cases e
    · rw [h8] at e; injection e with e; omega
/-- append(all[:n:n], r). -/
theorem run_full_recs {r : Rc} {g m c2 : Nat} {A2 : Option Addr} (h : RecsAt w X (.slice A n n) rs) (hl : n ≤ 100000) (hX : ∀ k, X k → k < w.heap.size) (hg : Blk w g 33 #[.int .i64 (r.k : Int), .int .i64 (r.t : Int), .int .i64 (r.p : Int), .int .i64 (r.s : Int), .string r.b, .string r.a, .string r.i, .slice A2 m c2]) (hD : RIn w X (.slice A2 m c2) (u64s r.ds)) :
    ∃ v' w', (Builtin.append_ #[34, 34] 34 #[.slice A n n, .slice (some ⟨g, 0, none⟩) 1 1]).run Try.prog w = .ok v' w' ∧ RecsAt w' (fun k => X k ∨ w.heap.size ≤ k) v' (rs ++ [r]) ∧ Below w.heap.size w w' := by
  obtain ⟨i, hi, hz, hs, hby⟩ := infoR
  obtain ⟨es, h1, h2, h3, h4, h5⟩ := recs_cells h
  have hnum : ∀ e ∈ es ++ [(r, .slice A2 m c2)], RIn w X e.2 (u64s e.1.ds) := fun e he => by
    rcases List.mem_append.1 he with he | he
    · exact h3 e he
    · obtain rfl := List.mem_singleton.1 he
      exact hD
  have hcell : ∀ j u, (rcell (r, .slice A2 m c2))[j]? = some u → w.cell? ((⟨g, 0, none⟩ : Addr).add j) = some u := fun j u hu => by
    rw [addr_add, Nat.zero_add]
    exact hg.cell j u (by rw [← Array.getElem?_toList]; exact hu)
  have hfin : ∀ v' w', w'.ownsRow 0 33 8 v' (n + 1) (es.flatMap rcell ++ rcell (r, .slice A2 m c2)) → Below w.heap.size w w' → (∀ k, v'.ownBlock = some k → w.heap.size ≤ k) → RecsAt w' (fun k => X k ∨ w.heap.size ≤ k) v' (rs ++ [r]) := by
    intro v' w' h6 hb hnew
    have e1 : (es ++ [((r, Value.slice A2 m c2) : Re)]).flatMap rcell = es.flatMap rcell ++ rcell (r, .slice A2 m c2) := by rw [List.flatMap_append]; simp
    have e2 : (es ++ [((r, Value.slice A2 m c2) : Re)]).length = n + 1 := by rw [List.length_append, h2]; rfl
    rw [← e1, ← e2] at h6
    have := own_recs h6 hb hnew hX hnum
    rw [List.map_append, h1] at this
    exact this
  cases A with
  | none =>
    obtain rfl := h4 rfl
    subst h2
    have own0 : w.ownsRow 0 33 8 (.slice none 0 0) 0 [] := World.ownsRow_nil _ _ _ _
    obtain ⟨v', w', hrun, h6, h7, _, h8⟩ := run_append_own_at (P := Try.prog) (w := w) 0 34 34 33 i _ 8 104 Try.underlying34 hi hz hs hby rfl (by omega) _ 0 _ own0 ⟨g, 0, none⟩ 1 1 (rcell (r, .slice A2 m c2)) rfl hcell (rcell_one _ _ _ _) (by simp only [maxLen]; omega) (by omega) (Nat.zero_le _)
    have hb : Below w.heap.size w w' := (Kept.of_grown h7).below (Nat.le_refl _) (fun k e => by cases e)
    exact ⟨v', w', hrun, hfin v' w' h6 hb (fun k e => by
      rcases h8 with h8 | h8
      · rw [h8] at e; cases e
      · rw [h8] at e; injection e with e; omega), hb⟩
  | some a =>
    obtain ⟨v', w', hrun, h6, h7⟩ := run_append_arg_grows (P := Try.prog) w 34 34 33 i _ 8 104 Try.underlying34 hi hz hs hby rfl (by omega) a n n (es.flatMap rcell) (by rw [rows_length, h2])
      (fun j u hu => by
        rcases h5 a rfl with rfl | h5
        · simp at hu
        · exact h5 j u hu) ⟨g, 0, none⟩ 1 1 (rcell (r, .slice A2 m c2)) rfl hcell (by omega) (by simp only [maxLen]; omega) (by omega)
    have hb : Below w.heap.size w w' := (Kept.of_grown h7).below (Nat.le_refl _) (fun k e => by cases e)
    refine ⟨v', w', hrun, hfin v' w' ?_ hb (fun k e => (World.ownsRow.lt h6 k e).1), hb⟩
    obtain ⟨ha, hc⟩ := h6
    refine ⟨ha, hc.imp id ?_⟩
    rintro ⟨g', cap', cur', e1, _, e2⟩
    exact ⟨g', cap', cur', e1, Nat.zero_le _, e2⟩
end
end Go.Proofs.Ytlmoiepbnnfebaa
