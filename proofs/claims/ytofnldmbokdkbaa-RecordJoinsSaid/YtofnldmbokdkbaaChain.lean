/-
  A region whose order is drawn: 'append(append(append(b, x...), byte(n)), y...)': one row of the call's own that is appended to step by step, one small slice made on the way, all else only read.
-/
import Derived.Test.YtofnldmbokdkbaaPut
import Derived.Test.YtofnldmbokdkbaaGrow
namespace Go.Proofs.Ytofnldmbokdkbaa
open Go.RowKit

set_option linter.unusedSimpArgs false
set_option linter.unusedVariables false

theorem Mine.below {w w' : World} {base : Nat} {v : Value} {l : List UInt8} (h : Mine w base v l) (hb : Below w.heap.size w w') : Mine w' base v l := by
  refine World.ownsRow.kept (row := none) h ⟨hb.os, hb.tape, hb.output, hb.size, fun k hk _ => hb.block k hk⟩ ?_
  cases hv : v.ownBlock with
  | none => exact .inl rfl
  | some k => exact .inr fun e => by cases e
/-- A new row. -/
theorem mine_new (w : World) (l : List UInt8) (n : Nat) {cells : Array Value} {base g : Nat} (hc : cells = blk8 l) (hn : l.length = n) (hl : n ≤ 1000000) (hg : w.heap.size = g) (hb : base ≤ g) : Mine (w.alloc (.cells cells 5)) base (.slice (some ⟨g, 0, none⟩) n n) l := by
  subst hc hn hg
  refine ⟨by rw [u8s_length, Nat.mul_one], .inr ⟨w.heap.size, l.length, blk8 l, rfl, hb, heap_new w _, Nat.le_refl _, by unfold maxLen; omega, by rw [blk8_size, Nat.mul_one], ?_⟩⟩
  rw [Nat.mul_one, ← u8s_length l, blk8, List.toList_toArray, List.take_length]
/-- The row, and what it holds, by which appends have come up (the last one first). -/
def curC : List (Nat × List UInt8) → Value → List UInt8 → (Nat → Bool) → (Nat → Value) → Value × List UInt8
  | [], v0, l0, _, _ => (v0, l0)
  | x :: r, v0, l0, L, f => if L x.1 = true then (f x.1, x.2) else curC r v0 l0 L f
/-- What holds on the way. -/
def Chain (K : World → Prop) (base : Nat) (v0 : Value) (l0 : List UInt8) (ch : List (Nat × List UInt8)) (iS : Nat) (sl : List UInt8) : Phases := fun L f w =>
  K w ∧ Mine w base (curC ch v0 l0 L f).1 (curC ch v0 l0 L f).2 ∧ (L iS = true → ∃ b, f iS = .slice (some ⟨b, 0, none⟩) sl.length sl.length ∧ Blk w b 5 (blk8 sl))
def chainB (ops : Array Oper) (ch : List (Nat × List UInt8)) (iS : Nat) : Bool := (ch.all fun x => decide (x.1 < ops.size) && ((ops[x.1]?).bind (·.dst)).isSome) && (decide (iS < ops.size) && ((ops[iS]?).bind (·.dst)).isSome)
theorem has_dst {ops : Array Oper} {j : Nat} (hd : ((ops[j]?).bind (·.dst)).isSome = true) : ∃ o d, ops[j]? = some o ∧ o.dst = some d := by
  cases ho : ops[j]? with
  | none => rw [ho] at hd; simp at hd
  | some o =>
    rw [ho] at hd
    simp only [Option.bind_some] at hd
    obtain ⟨d, hd⟩ := Option.isSome_iff_exists.1 hd
    exact ⟨o, d, rfl, hd⟩
theorem curC_ext {ops : Array Oper} {v0 : Value} {l0 : List UInt8} {L L' : Nat → Bool} {f f' : Nat → Value} : ∀ {ch : List (Nat × List UInt8)}, (ch.all fun x => decide (x.1 < ops.size) && ((ops[x.1]?).bind (·.dst)).isSome) = true → (∀ j, j < ops.size → L j = L' j) →
    (∀ j, j < ops.size → L j = true → (∃ o d, ops[j]? = some o ∧ o.dst = some d) → f j = f' j) → curC ch v0 l0 L f = curC ch v0 l0 L' f'
  | [], _, _, _ => rfl
  | x :: r, hB, hL, hf => by
    simp only [List.all_cons, Bool.and_eq_true, decide_eq_true_eq] at hB
    unfold curC
    rw [← hL _ hB.1.1]
    by_cases h : L x.1 = true
    · rw [if_pos h, if_pos h, hf _ hB.1.1 h (has_dst hB.1.2)]
    · rw [if_neg h, if_neg h]
      exact curC_ext hB.2 hL hf
theorem Chain.ext {ops : Array Oper} {K : World → Prop} {base : Nat} {v0 : Value} {l0 : List UInt8} {ch : List (Nat × List UInt8)} {iS : Nat} {sl : List UInt8} (hB : chainB ops ch iS = true) (L L' : Nat → Bool) (f f' : Nat → Value) (w : World) (hL : ∀ j, j < ops.size → L j = L' j)
    (hf : ∀ j, j < ops.size → L j = true → (∃ o d, ops[j]? = some o ∧ o.dst = some d) → f j = f' j) (h : Chain K base v0 l0 ch iS sl L f w) : Chain K base v0 l0 ch iS sl L' f' w := by
  unfold chainB at hB
  rw [Bool.and_eq_true] at hB
  obtain ⟨h1, h2⟩ := hB
  obtain ⟨hk, hm, hs⟩ := h
  rw [curC_ext h1 hL hf] at hm
  refine ⟨hk, hm, fun hl => ?_⟩
  simp only [Bool.and_eq_true, decide_eq_true_eq] at h2
  rw [← hL _ h2.1] at hl
  rw [← hf _ h2.1 hl (has_dst h2.2)]
  exact hs hl
theorem curC_quiet {v0 v : Value} {l0 : List UInt8} {L : Nat → Bool} {f : Nat → Value} {i : Nat} : ∀ {ch : List (Nat × List UInt8)}, (ch.all fun x => x.1 != i) = true → curC ch v0 l0 (also L i) (yielding f i v) = curC ch v0 l0 L f
  | [], _ => rfl
  | x :: r, h => by
    simp only [List.all_cons, Bool.and_eq_true, bne_iff_ne, ne_eq] at h
    unfold curC
    have e : also L i x.1 = L x.1 := by simp [also, h.1]
    rw [e, curC_quiet h.2]
    have e2 : yielding f i v x.1 = f x.1 := by simp [yielding, h.1]
    rw [e2]
/-- An operation that only reads. -/
theorem Chain.quiet {K : World → Prop} {base : Nat} {v0 : Value} {l0 : List UInt8} {ch : List (Nat × List UInt8)} {iS : Nat} {sl : List UInt8} {L : Nat → Bool} {f : Nat → Value} {i : Nat} {v : Value} {w : World} (hc : (ch.all fun x => x.1 != i) = true) (hi : (iS != i) = true)
    (h : Chain K base v0 l0 ch iS sl L f w) : Chain K base v0 l0 ch iS sl (also L i) (yielding f i v) w := by
  obtain ⟨hk, hm, hs⟩ := h
  rw [bne_iff_ne] at hi
  refine ⟨hk, by rw [curC_quiet hc]; exact hm, fun hl => ?_⟩
  have e : also L i iS = L iS := by simp [also, hi]
  rw [e] at hl
  have e2 : yielding f i v iS = f iS := by simp [yielding, hi]
  rw [e2]
  exact hs hl
/-- The small slice. -/
theorem Chain.slice {K : World → Prop} {base : Nat} {v0 : Value} {l0 : List UInt8} {ch : List (Nat × List UInt8)} {iS : Nat} {sl : List UInt8} {L : Nat → Bool} {f : Nat → Value} {w : World} (hc : (ch.all fun x => x.1 != iS) = true) (hK : K (w.alloc (.cells (blk8 sl) 5)))
    (h : Chain K base v0 l0 ch iS sl L f w) : Chain K base v0 l0 ch iS sl (also L iS) (yielding f iS (.slice (some ⟨w.heap.size, 0, none⟩) sl.length sl.length)) (w.alloc (.cells (blk8 sl) 5)) := by
  obtain ⟨hk, hm, hs⟩ := h
  refine ⟨hK, by rw [curC_quiet hc]; exact hm.alloc _, fun _ => ⟨w.heap.size, by simp [yielding], heap_new w _⟩⟩
theorem mine_apart {w : World} {base : Nat} {u : Value} {l sl : List UInt8} {b : Nat} (hm : Mine w base u l) (hb : Blk w b 5 (blk8 sl)) (hlong : sl.length < l.length) : u.ownBlock ≠ some b := by
  intro e
  rcases hm.2 with ⟨rfl, _⟩ | ⟨g, cap, cur, rfl, _, hg, hn, _, hcs, _⟩
  · cases e
  · injection e with e
    subst e
    unfold Blk at hb
    rw [hb] at hg
    injection hg with hg
    injection hg with hg
    have h1 := blk8_size sl
    rw [hg] at h1
    omega
/-- An append. -/
theorem Chain.step {K : World → Prop} {base : Nat} {v0 : Value} {l0 : List UInt8} {ch : List (Nat × List UInt8)} {iS : Nat} {sl : List UInt8} {L : Nat → Bool} {f : Nat → Value} {i : Nat} {v u : Value} {l lp : List UInt8} {w w' : World} (h : Chain K base v0 l0 ch iS sl L f w) (hi : (iS != i) = true) (hcur : curC ch v0 l0 L f = (u, lp))
    (hnow : curC ch v0 l0 (also L i) (yielding f i v) = (v, l)) (hlong : sl.length < lp.length) (hK : K w') (hm' : Mine w' base v l) (hg : w.grownBy w' u.ownBlock) : Chain K base v0 l0 ch iS sl (also L i) (yielding f i v) w' := by
  obtain ⟨hk, hm, hs⟩ := h
  rw [hcur] at hm
  rw [bne_iff_ne] at hi
  refine ⟨hK, by rw [hnow]; exact hm', fun hl => ?_⟩
  have e : also L i iS = L iS := by simp [also, hi]
  rw [e] at hl
  have e2 : yielding f i v iS = f iS := by simp [yielding, hi]
  rw [e2]
  obtain ⟨b, e3, hb⟩ := hs hl
  exact ⟨b, e3, (hg.block b hb.lt (fun e => mine_apart hm hb hlong e.symm)).trans hb⟩
section
variable {P : Program} {w : World}
/-- append of a string, as an operation anywhere. -/
theorem wp_append_str {o : Oper} {a : Act} {K : Act → World → Prop} {Q : Exit → Act → World → Prop} (s x : Operand) (t u : TypeId) (ho : o.op = .call { callee := .builtin .append, args := #[s, x], argTypes := #[t, u] }) (i : TypeInfo) (ht : P.underlying t = some (.slice 5)) (hu : P.underlying u = some .string) (hi : P.info? 5 = some i) (hz : i.zero = some (.int .u8 0)) (hsize : i.size = 1) (hby : i.bytes = 1)
    {base : Nat} {v : Value} {l : List UInt8} (hs : a.eval s = v) (hown : Mine w base v l) {str : ByteArray} (hx : a.eval x = .string str) (hl : l.length + str.size ≤ 1000000) (hbase : base ≤ w.heap.size)
    (h : ∀ v' w', Mine w' base v' (l ++ str.data.toList) → w.grownBy w' v.ownBlock → K (a.put o.dst v') w') : o.wp P a w K Q := by
  obtain ⟨v', w', hrun, h2, h3, _⟩ := Lib.run_append_own_string (P := P) w base t u o.type 5 i ht hu hi hz hsize hby v l.length (u8s l) hown str (by unfold maxLen; omega) (by omega) hbase
  have hm : Mine w' base v' (l ++ str.data.toList) := by
    unfold Mine
    rw [u8s_append, List.length_append, show str.data.toList.length = str.size from Array.length_toList]
    exact h2
  unfold Oper.wp execOp
  simp only [ho, resolve, invoke, builtin, Sem.run_bind, Sem.run_pure, Result.andThen_ok, List.map_toArray, List.map_cons, List.map_nil, hs, hx, hrun]
  exact h v' w' hm h3
/-- append of a slice that reads as bytes. -/
theorem wp_append_bytes {o : Oper} {a : Act} {K : Act → World → Prop} {Q : Exit → Act → World → Prop} (s y : Operand) (t : TypeId) (ho : o.op = .call { callee := .builtin .append, args := #[s, y], argTypes := #[t, t] }) (i : TypeInfo) (ht : P.underlying t = some (.slice 5)) (hi : P.info? 5 = some i) (hz : i.zero = some (.int .u8 0)) (hsize : i.size = 1) (hby : i.bytes = 1)
    {base : Nat} {v x : Value} {l m : List UInt8} (hs : a.eval s = v) (hown : Mine w base v l) (hy : a.eval y = x) (hx : Rd w x (u8s m)) (hl : l.length + m.length ≤ 1000000) (hbase : base ≤ w.heap.size)
    (h : ∀ v' w', Mine w' base v' (l ++ m) → w.grownBy w' v.ownBlock → K (a.put o.dst v') w') : o.wp P a w K Q := by
  obtain ⟨v', w', hrun, h2, h3, _⟩ := run_append_rd (P := P) (w := w) t o.type 5 i (.int .u8 0) 1 ht hi hz hsize hby rfl v l.length (u8s l) hown x (u8s m) hx (oneCell_u8s m) (by rw [u8s_length]; unfold maxLen; omega) (by rw [u8s_length]; omega) hbase
  have hm : Mine w' base v' (l ++ m) := by
    unfold Mine
    rw [u8s_append, List.length_append, ← u8s_length m]
    exact h2
  unfold Oper.wp execOp
  simp only [ho, resolve, invoke, builtin, Sem.run_bind, Sem.run_pure, Result.andThen_ok, List.map_toArray, List.map_cons, List.map_nil, hs, hy, hrun]
  exact h v' w' hm h3
end
end Go.Proofs.Ytofnldmbokdkbaa
