/-
  Records gathered in a slice of one's own, beside a lane.
-/
import Derived.Test.YtlmoiepbnnfebaaBan
namespace Go.Proofs.Ytlmoiepbnnfebaa
open Go.RowKit
set_option maxRecDepth 20000
set_option linter.unusedSimpArgs false
set_option linter.unusedVariables false

theorem kept_grown {w w' : World} {o : Option Nat} (h : w.grownBy w' o) : Kept (fun k => o = some k) w w' := ⟨h.os, h.tape, h.output, h.size, fun k hk hn => h.block k hk (fun e => hn e.symm)⟩
/-- Blocks of X are written, and new ones may be told apart too. -/
theorem Many.wide {w w' : World} {X Y S : Nat → Prop} {l : List (Nat × Ds)} (h : Many w X l) (hk : Kept S w w') (hS : ∀ k, S k → X k) (hY : ∀ k, Y k → X k ∨ (w.heap.size ≤ k ∧ k < w'.heap.size)) : Many w' Y l := by
  obtain ⟨hX, labs, h1, h2, h3, h4⟩ := id h
  refine ⟨fun k hy => ?_, labs, fun i x hi => (h1 i x hi).keep (S := fun k => S k ∧ k < w.heap.size) ⟨hk.os, hk.tape, hk.output, hk.size, fun k hlt hn => hk.block k hlt (fun hs => hn ⟨hs, hlt⟩)⟩ (fun k hs => ?_), h2, fun i k hl hy => ?_, h4⟩
  · rcases hY k hy with h5 | h5
    · exact Nat.lt_of_lt_of_le (hX k h5) hk.size
    · exact h5.2
  · by_cases hz : labs i k = 0
    · exact hz
    · exact absurd (hS k hs.1) (h3 i k hz)
  · rcases hY k hy with h5 | h5
    · exact h3 i k hl h5
    · have := labs_lt labs h1 h2 hl; omega
section
variable {w w' : World} {X Y S : Nat → Prop} {dg g n r k gen s : Nat} {d : Ds} {l : Ln} {kv v : Value} {up : Bool} {all : List Rc}
theorem LnAt.wide (h : LnAt w X dg d g l kv) (hk : Kept S w w') (hS : ∀ k, S k → X k) (hY : ∀ k, Y k → X k ∨ (w.heap.size ≤ k ∧ k < w'.heap.size)) : LnAt w' Y dg d g l kv := by
  have hlt : ∀ k, LX X g kv k → k < w.heap.size := h.many.1
  refine ⟨h.many.wide hk (fun k e => .inl (hS k e)) (fun k hk => ?_), fun hy => ?_, fun k hk => ⟨fun hy => ?_, (h.xk k hk).2⟩, hk.blk h.blk (fun e => h.xg (hS g e)),
    h.kept.out (X := fun k => ¬ S k) (hk.mono (fun i hi => .inl (fun hn => hn hi))) (fun k e hs => (h.xk k e).1 (hS k hs))⟩
  · rcases hk with h1 | h1 | h1
    · rcases hY k h1 with h2 | h2
      · exact .inl (.inl h2)
      · exact .inr h2
    · exact .inl (.inr (.inl h1))
    · exact .inl (.inr (.inr h1))
  · rcases hY g hy with h2 | h2
    · exact h.xg h2
    · have := h.lt; omega
  · rcases hY k hy with h2 | h2
    · exact (h.xk k hk).1 h2
    · have := hlt k (.inr (.inr hk)); omega
theorem Live.grown {o : Option Nat} {lo : Nat} (h : Live w (Ext X lo w.heap.size) dg g r n k gen up all s) (hlo : lo ≤ w.heap.size) (hg : w.grownBy w' o) (ho : ∀ k, o = some k → X k) : Live w' (Ext X lo w'.heap.size) dg g r n k gen up all s := by
  obtain ⟨d, l, kv, gr, h1, h2⟩ := h
  refine ⟨d, l, kv, gr, h1.wide (kept_grown hg) (fun k e => .inl (ho k e)) (fun k hk => ?_), h2⟩
  rcases hk with hk | hk
  · exact .inl (.inl hk)
  · rcases Nat.lt_or_ge k w.heap.size with h3 | h3
    · exact .inl (.inr ⟨hk.1, h3⟩)
    · exact .inr ⟨h3, hk.2⟩
theorem LiveD.grown {o : Option Nat} {lo : Nat} (h : LiveD w (Ext X lo w.heap.size) dg d g r n k gen up all s) (hlo : lo ≤ w.heap.size) (hg : w.grownBy w' o) (ho : ∀ k, o = some k → X k) : LiveD w' (Ext X lo w'.heap.size) dg d g r n k gen up all s := by
  obtain ⟨l, kv, gr, h1, h2⟩ := h
  refine ⟨l, kv, gr, h1.wide (kept_grown hg) (fun k e => .inl (ho k e)) (fun k hk => ?_), h2⟩
  rcases hk with hk | hk
  · exact .inl (.inl hk)
  · rcases Nat.lt_or_ge k w.heap.size with h3 | h3
    · exact .inl (.inr ⟨hk.1, h3⟩)
    · exact .inr ⟨h3, hk.2⟩
end
/-- A record's cells: the record, its numbers where they lie. -/
abbrev Re := Rc × Value
def rcell (e : Re) : List Value := rcv e.1 e.2
theorem rcell_length (e : Re) : (rcell e).length = 8 := rfl
theorem rcell_one (r : Rc) (A : Option Addr) (n c : Nat) : ∀ u ∈ rcell (r, .slice A n c), u.oneCell' = true := by
  intro u hu
  simp [rcell, rcv] at hu
  rcases hu with rfl | rfl | rfl | rfl | rfl | rfl | rfl | rfl <;> rfl
theorem flat8_at : ∀ (es : List Re) (j : Nat) (e : Re) (i : Nat), es[j]? = some e → i < 8 → (es.flatMap rcell)[j * 8 + i]? = (rcell e)[i]?
  | [], j, e, i, h, _ => by simp at h
  | a :: es, 0, e, i, h, hi => by
    obtain rfl : a = e := by simpa using h
    rw [List.flatMap_cons, List.getElem?_append_left (by rw [rcell_length]; omega), Nat.zero_mul, Nat.zero_add]
  | a :: es, j + 1, e, i, h, hi => by
    rw [List.flatMap_cons, List.getElem?_append_right (by rw [rcell_length]; omega), rcell_length, show (j + 1) * 8 + i - 8 = j * 8 + i by omega]
    exact flat8_at es j e i (by simpa using h) hi
/-- Records gathered: v an own row of them, all of it in blocks of X. -/
structure Gath (w : World) (X : Nat → Prop) (v : Value) (es : List Re) : Prop where
  own : w.ownsRow 0 33 8 v es.length (es.flatMap rcell)
  inX : ∀ k, v.ownBlock = some k → X k
  nums : ∀ e ∈ es, RIn w (fun k => X k ∧ v.ownBlock ≠ some k) e.2 (u64s e.1.ds)
section
variable {w w' : World} {X Y : Nat → Prop} {v : Value} {es : List Re}
theorem Gath.nil (w : World) (X : Nat → Prop) : Gath w X (.slice none 0 0) [] := ⟨World.ownsRow_nil _ _ _ _, (fun k h => by cases h), fun e h => by cases h⟩
theorem Gath.form (h : Gath w X v es) : ∃ A c, v = .slice A es.length c := own_shape h.own
theorem Gath.keep (h : Gath w X v es) (hk : ∀ k, k < w.heap.size → X k → w'.heap[k]? = w.heap[k]?) (hs : w.heap.size ≤ w'.heap.size) (hY : ∀ k, X k → Y k) : Gath w' Y v es := by
  refine ⟨?_, fun k e => hY k (h.inX k e), fun e he => (h.nums e he).keep (fun p hp hx => World.cell?_of_block (hk p.block hp hx.1)) hs (fun k _ hx => ⟨hY k hx.1, hx.2⟩)⟩
  obtain ⟨h1, h2⟩ := h.own
  refine ⟨h1, h2.imp id ?_⟩
  rintro ⟨g, cap, cur, rfl, hg, hh, h3⟩
  exact ⟨g, cap, cur, rfl, hg, (hk g (Blk.lt hh) (h.inX g rfl)).trans hh, h3⟩
theorem Gath.out (h : Gath w X v es) (ho : Out X w w') : Gath w' X v es := h.keep (fun k hk hx => Kept.block ho k hk (fun hn => hn hx)) (Kept.size ho) (fun _ h => h)
theorem Gath.below (h : Gath w X v es) (hb : Below w.heap.size w w') : Gath w' X v es := h.keep (fun k hk _ => hb.block k hk) hb.size (fun _ h => h)
theorem Gath.sub (h : Gath w X v es) (hY : ∀ k, X k → Y k) : Gath w Y v es := h.keep (fun _ _ _ => rfl) (Nat.le_refl _) hY
theorem Gath.recs (h : Gath w X v es) : RecsAt w X v (es.map (·.1)) := by
  rcases h.own.2 with ⟨rfl, h0⟩ | ⟨g, cap, cur, rfl, hg, hh, hn, hcap, hsz, htake⟩
  · obtain rfl : es = [] := List.eq_nil_of_length_eq_zero h0
    exact RecsN.nil_ _ _
  · have hcell : ∀ j e i u, es[j]? = some e → (rcell e)[i]? = some u → w.cell? ⟨g, j * 8 + i, none⟩ = some u := by
      intro j e i u hj hu
      have hi : i < 8 := by have := (List.getElem?_eq_some_iff.1 hu).1; rwa [rcell_length] at this
      have hf := flat8_at es j e i hj hi
      rw [hu] at hf
      unfold World.cell?
      simp only [hh]
      rw [← htake, List.getElem?_take] at hf
      split at hf
      · simpa using hf
      · cases hf
    refine ⟨_, cap, by rw [List.length_map], by rw [List.length_map]; exact hn, fun _ => ⟨g, 0, rfl, Blk.lt hh, h.inX g rfl, fun j r hj => ?_⟩⟩
    rw [List.getElem?_map] at hj
    cases hq : es[j]? with
    | none => rw [hq] at hj; cases hj
    | some e =>
      rw [hq] at hj
      obtain rfl : e.1 = r := by simpa using hj
      refine ⟨e.2, fun i u hu => ?_, (h.nums e (List.mem_of_getElem? hq)).keep (fun _ _ _ => rfl) (Nat.le_refl _) (fun _ _ hx => hx.1)⟩
      rw [Nat.zero_add]
      exact hcell j e i u hq hu
end
/-- One more record, of a slice of one. -/
theorem wpList_gather {ops : Array Oper} {rest : List Oper} {o : Oper} {a : Act} {Q : Exit → Act → World → Prop} {w : World} (hgd : o.guard = none) (s y : Operand)
    (ho : o.op = .call { callee := .builtin .append, args := #[s, y], argTypes := #[34, 34] }) {X : Nat → Prop} {v : Value} {es : List Re} (hs : a.eval s = v) (hg : Gath w X v es) (hlen : es.length ≤ 100000)
    {b c lo m c2 : Nat} {A : Option Addr} {r : Rc} (hy : a.eval y = .slice (some ⟨b, 0, none⟩) 1 c) (hb : Blk w b 33 #[.int .i64 (r.k : Int), .int .i64 (r.t : Int), .int .i64 (r.p : Int), .int .i64 (r.s : Int), .string r.b, .string r.a, .string r.i, .slice A m c2])
    (hlo : lo ≤ w.heap.size) (hX : ∀ k, X k → k < lo) (hD : RIn w (fun k => lo ≤ k) (.slice A m c2) (u64s r.ds))
    (h : ∀ v' w', Gath w' (Ext X lo w'.heap.size) v' (es ++ [(r, .slice A m c2)]) → w.grownBy w' v.ownBlock → (v'.ownBlock = v.ownBlock ∨ v'.ownBlock = some w.heap.size) → wpList Try.prog ops Q rest (a.put o.dst v') w') : wpList Try.prog ops Q (o :: rest) a w := by
  refine wpList_plain hgd fun K hK => ?_
  refine wp_append_rows (P := Try.prog) s y 34 ho (base := 0) 33 _ 8 104 Try.underlying34 infoRec3 rfl (by omega) v es.length (es.flatMap rcell) hs hg.own b c 1 (rcell (r, .slice A m c2)) hy rfl (fun j u hu => hb.cell j u (by rw [← Array.getElem?_toList]; exact hu)) (rcell_one _ _ _ _) (by simp only [maxLen]; omega) (by omega) (Nat.zero_le _) ?_
  intro v' w' h1 h2 h3
  refine hK _ _ (h v' w' ⟨?_, fun k hk => ?_, fun e he => ?_⟩ h2 h3)
  · rw [List.length_append, List.flatMap_append]
    simpa using h1
  · have hk2 := (World.ownsRow.lt h1 k hk).2
    rcases h3 with h3 | h3
    · exact .inl (hg.inX k (by rw [← h3]; exact hk))
    · rw [h3] at hk
      obtain rfl := Option.some.inj hk
      exact .inr ⟨hlo, hk2⟩
  · have hcell : ∀ p : Addr, p.block < w.heap.size → v.ownBlock ≠ some p.block → w'.cell? p = w.cell? p := fun p hp hne => World.cell?_of_block (h2.block p.block hp (fun e => hne e.symm))
    have hne : ∀ k, k < w.heap.size → v.ownBlock ≠ some k → v'.ownBlock ≠ some k := by
      intro k hk hn
      rcases h3 with e | e
      · rwa [e]
      · rw [e]; intro e2; injection e2 with e2; omega
    rcases List.mem_append.1 he with h5 | h5
    · exact (hg.nums e h5).keep (fun p hp hx => hcell p hp hx.2) h2.size (fun k hk hx => ⟨.inl hx.1, hne k hk hx.2⟩)
    · obtain rfl := List.mem_singleton.1 h5
      refine hD.keep (fun p hp hx => hcell p hp (fun e => ?_)) h2.size (fun k hk hx => ⟨.inr ⟨hx, Nat.lt_of_lt_of_le hk h2.size⟩, hne k hk (fun e => ?_)⟩)
      · have := hX _ (hg.inX _ e); omega
      · have := hX _ (hg.inX _ e); omega
end Go.Proofs.Ytlmoiepbnnfebaa
