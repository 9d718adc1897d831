/-
  A map of the call's own from strings to values of one shape (structs, say): what it has as a function, and how many; look-ups, stores, deletes, len, and the round of a range over it.
-/
import Derived.Test.YtkcomkllnhdohaaB3
import Derived.Maps.OwnOps
import Derived.Maps.Views
import Derived.Maps.OwnSet
import Derived.Maps.RangeWalk
namespace Go.Proofs.Ytkcomkllnhdohaa
open Go.RowKit
set_option maxRecDepth 20000
set_option linter.unusedSimpArgs false
set_option linter.unusedVariables false

open Go.Maps in
theorem lawS : Keyed Try.prog 9 := string_keyed Try.underlying9
/-- What reads as a string's key is that string. -/
theorem keyS_inv {key : Value} {kl : Lit} (h : keyOf Try.prog 9 key = some kl) : ∃ s : ByteArray, key = .string s ∧ kl = .string s.data.toList ∧ s.size ≤ maxLen := by
  rw [keyOf_string Try.underlying9] at h
  unfold mapKey at h
  rw [Try.underlying9] at h
  cases key <;> simp at h
  obtain ⟨h1, rfl⟩ := h
  exact ⟨_, rfl, rfl, h1⟩
theorem keyS (s : ByteArray) (h : s.size ≤ maxLen) : keyOf Try.prog 9 (.string s) = some (.string s.data.toList) := WideMaps.keyOf_string_mk Try.underlying9 h
theorem lit_inj {s t : ByteArray} (h : Lit.string s.data.toList = Lit.string t.data.toList) : s = t := by
  injection h with h
  cases s with | mk a => cases t with | mk b => simp at h; rw [h]
section
variable {β : Type} (mk : β → Value)
open Classical in
/-- An element: a value of that shape. -/
noncomputable def shapeE (v : Value) : Option (DataW Value × List MemPlace) := if ∃ x, v = mk x then some (.held v, []) else none
theorem shapeE_mk (x : β) : shapeE mk (mk x) = some (.held (mk x), []) := if_pos ⟨x, rfl⟩
theorem shapeE_inv {v : Value} {z : DataW Value × List MemPlace} (h : shapeE mk v = some z) : ∃ x, v = mk x ∧ z = (.held (mk x), []) := by
  unfold shapeE at h
  split at h
  · rename_i hx
    obtain ⟨x, rfl⟩ := hx
    exact ⟨x, rfl, (Option.some.inj h).symm⟩
  · cases h
/-- What D has. -/
structure HasS (D : DataW Value) (f : ByteArray → Option β) (c : Nat) : Prop where
  tidy : Maps.Tidy D
  size : Maps.size D = c
  has : ∀ s : ByteArray, Maps.has D (.string s.data.toList) = (f s).isSome
  at_ : ∀ (s : ByteArray) x, f s = some x → ∀ z, D.atKey (.string s.data.toList) z = .held (mk x)
/-- Block b is a map of at most n entries that has f, c of them. -/
def MapS (w : World) (b n : Nat) (f : ByteArray → Option β) (c : Nat) : Prop := ∃ D : DataW Value, w.ownsMap Try.prog 9 (shapeE mk) b n D ∧ HasS mk D f c
variable {mk} {w w' : World} {b n c : Nat} {f : ByteArray → Option β} {D : DataW Value}
theorem isKeyS (s : ByteArray) : WideAt.IsKeyLit (.string s.data.toList) := by exact trivial
theorem HasS.look (h : HasS mk D f c) (s : ByteArray) (z : β) : D.atKey (.string s.data.toList) (.held (mk z)) = .held (mk ((f s).getD z)) := by
  cases hf : f s with
  | none => exact Maps.atKey_of_not_has (by rw [h.has, hf]; rfl) _
  | some x => exact h.at_ s x hf _
theorem HasS.put (h : HasS mk D f c) (s : ByteArray) (x : β) : HasS mk (D.put (.string s.data.toList) (.held (mk x))) (fun t => if t = s then some x else f t) (if (f s).isSome then c else c + 1) := by
  refine ⟨h.tidy.put (isKeyS s) _, ?_, fun t => ?_, fun t y ht z => ?_⟩
  · rw [Maps.size_put h.tidy, h.has, h.size]
  · show _ = Option.isSome (if t = s then some x else f t)
    by_cases e : t = s
    · subst e; rw [if_pos rfl, Maps.has_put_same h.tidy.isMap (isKeyS t)]; rfl
    · rw [if_neg e, Maps.has_put_other (fun e2 => e (lit_inj e2)), h.has]
  · by_cases e : t = s
    · subst e; rw [if_pos rfl] at ht; obtain rfl := Option.some.inj ht; exact Maps.atKey_put_same h.tidy.isMap (isKeyS t) _ _
    · rw [if_neg e] at ht; rw [Maps.atKey_put_other (fun e2 => e (lit_inj e2))]; exact h.at_ t y ht z
theorem HasS.del (h : HasS mk D f c) (s : ByteArray) : HasS mk (D.del (.string s.data.toList)) (fun t => if t = s then none else f t) (if (f s).isSome then c - 1 else c) := by
  refine ⟨h.tidy.del _, ?_, fun t => ?_, fun t y ht z => ?_⟩
  · have := Maps.size_del (D := D) (k := .string s.data.toList) h.tidy
    rw [h.has, h.size] at this
    split
    · rename_i e; rw [if_pos e] at this; omega
    · rename_i e; rw [if_neg e] at this; omega
  · show _ = Option.isSome (if t = s then none else f t)
    by_cases e : t = s
    · subst e; rw [if_pos rfl, Maps.has_del_same]; rfl
    · rw [if_neg e, Maps.has_del_other (fun e2 => e (lit_inj e2)), h.has]
  · by_cases e : t = s
    · subst e; rw [if_pos rfl] at ht; cases ht
    · rw [if_neg e] at ht; rw [Maps.atKey_del_other (fun e2 => e (lit_inj e2))]; exact h.at_ t y ht z
theorem MapS.new_ (w : World) : MapS mk (w.alloc (.map #[] 0)) w.heap.size 0 (fun _ => none) 0 := ⟨.map [], World.ownsMap_made _ _ _ _, ⟨Maps.tidy_empty, rfl, fun _ => rfl, fun _ _ h => by cases h⟩⟩
theorem MapS.lt (h : MapS mk w b n f c) : b < w.heap.size := by
  obtain ⟨D, h1, _⟩ := h
  exact h1.lt
theorem MapS.same (h : MapS mk w b n f c) (he : w'.heap[b]? = w.heap[b]?) : MapS mk w' b n f c := by
  obtain ⟨D, ⟨es, clock, hb, F, hs, hD⟩, h2⟩ := h
  exact ⟨D, ⟨es, clock, he.trans hb, F, hs, hD⟩, h2⟩
theorem MapS.below (h : MapS mk w b n f c) (hb : Below w.heap.size w w') : MapS mk w' b n f c := h.same (hb.block b h.lt)
theorem MapS.le (h : MapS mk w b n f c) : c ≤ n := by
  obtain ⟨D, h1, h2⟩ := h
  have := h1.size_le
  rw [h2.size] at this
  exact this
variable {t e : TypeId}
/-- 'm[k]', in whatever world of that heap. -/
theorem MapS.look (h : MapS mk w b n f c) (ht : Try.prog.underlying t = some (.map 9 e)) {z : β} (hz : ∀ w, (zeroValue e).run Try.prog w = .ok (mk z) w) (s : ByteArray) (hs : s.size ≤ maxLen) :
    ∀ W : World, W.heap = w.heap → (Instr.lookup t (.map (some b)) (.string s) false).run Try.prog W = .ok (mk ((f s).getD z)) W := by
  intro W hW
  obtain ⟨D, ⟨es, clock, hb, F, hn, hD⟩, h2⟩ := h
  have hown : W.ownsMap Try.prog 9 (shapeE mk) b n D := ⟨es, clock, by rw [hW]; exact hb, F, hn, hD⟩
  obtain ⟨v, ps, hrun, hv⟩ := hown.lookup lawS ht (hz W) (shapeE_mk mk z) (keyS s hs)
  rw [h2.look] at hv
  obtain ⟨x, rfl, hx⟩ := shapeE_inv mk hv
  have : mk ((f s).getD z) = mk x := by
    have := congrArg Prod.fst hx
    simpa using this
  rw [this]
  exact hrun
/-- 'v, ok := m[k]'. -/
theorem MapS.look_ok (h : MapS mk w b n f c) (ht : Try.prog.underlying t = some (.map 9 e)) {z : β} (hz : ∀ w, (zeroValue e).run Try.prog w = .ok (mk z) w) (s : ByteArray) (hs : s.size ≤ maxLen) :
    ∀ W : World, W.heap = w.heap → (Instr.lookup t (.map (some b)) (.string s) true).run Try.prog W = .ok (.tuple #[mk ((f s).getD z), .bool (f s).isSome]) W := by
  intro W hW
  obtain ⟨D, ⟨es, clock, hb, F, hn, hD⟩, h2⟩ := h
  have hown : W.ownsMap Try.prog 9 (shapeE mk) b n D := ⟨es, clock, by rw [hW]; exact hb, F, hn, hD⟩
  obtain ⟨v, ps, hrun, hv⟩ := hown.look_ok lawS ht (hz W) (shapeE_mk mk z) (keyS s hs)
  rw [h2.look] at hv
  rw [h2.has] at hrun
  obtain ⟨x, rfl, hx⟩ := shapeE_inv mk hv
  have : mk ((f s).getD z) = mk x := by
    have := congrArg Prod.fst hx
    simpa using this
  rw [this]
  exact hrun
/-- 'len(m)'. -/
theorem MapS.len (h : MapS mk w b n f c) (ht : Try.prog.underlying t = some (.map 9 e)) (ty : TypeId) : ∀ W : World, W.heap = w.heap → (Builtin.len_ #[t] ty #[.map (some b)]).run Try.prog W = .ok (.int .i64 (c : Int)) W := by
  intro W hW
  obtain ⟨D, ⟨es, clock, hb, F, hn, hD⟩, h2⟩ := h
  have hown : W.ownsMap Try.prog 9 (shapeE mk) b n D := ⟨es, clock, by rw [hW]; exact hb, F, hn, hD⟩
  have := hown.len ht ty
  rw [h2.size] at this
  exact this
/-- Only the map's own block turns. -/
theorem turned_kept {w w' : World} {b : Nat} (h : w.mapTurned w' b) : Kept (fun k => k = b) w w' := (Kept.of_grown h.grown).mono (fun k e => .inl (Option.some.inj e).symm)
/-- 'm[k] = v'. -/
theorem MapS.store (h : MapS mk w b n f c) (ht : Try.prog.underlying t = some (.map 9 e)) (hn : n < maxLen) (s : ByteArray) (hs : s.size ≤ maxLen) (x : β) :
    ∃ w', (Instr.mapUpdate t (.map (some b)) (.string s) (mk x)).run Try.prog w = .ok () w' ∧ MapS mk w' b (n + 1) (fun t => if t = s then some x else f t) (if (f s).isSome then c else c + 1) ∧ w.mapTurned w' b := by
  obtain ⟨D, h1, h2⟩ := h
  obtain ⟨w', hrun, h3, h4⟩ := h1.store lawS ht hn (keyS s hs) (shapeE_mk mk x)
  exact ⟨w', hrun, ⟨_, h3, h2.put s x⟩, h4⟩
/-- 'delete(m, k)'. -/
theorem MapS.drop (h : MapS mk w b n f c) (ht : Try.prog.underlying t = some (.map 9 e)) (s : ByteArray) (hs : s.size ≤ maxLen) (ty : TypeId) :
    ∃ w', (Builtin.delete_ #[t, 9] ty #[.map (some b), .string s]).run Try.prog w = .ok (.tuple #[]) w' ∧ MapS mk w' b n (fun t => if t = s then none else f t) (if (f s).isSome then c - 1 else c) ∧ w.mapTurned w' b := by
  obtain ⟨D, h1, h2⟩ := h
  obtain ⟨w', hrun, h3, h4⟩ := h1.drop lawS ht (keyS s hs) ty
  exact ⟨w', hrun, ⟨_, h3, h2.del s⟩, h4⟩
/-- A range over it, under way: block r is the iterator; what is left. -/
def RangeS (mk : β → Value) (w : World) (b r n : Nat) (f : ByteArray → Option β) (c : Nat) (left : ByteArray → Bool) (cnt : Nat) : Prop :=
  ∃ (D : DataW Value) (L : Lit → Bool), w.ranges Try.prog 9 (shapeE mk) b r n D L cnt ∧ HasS mk D f c ∧ ∀ s : ByteArray, left s = L (.string s.data.toList)
variable {r cnt : Nat} {left : ByteArray → Bool}
theorem RangeS.owns (h : RangeS mk w b r n f c left cnt) : MapS mk w b n f c := by
  obtain ⟨D, L, h1, h2, _⟩ := h
  exact ⟨D, h1.owns, h2⟩
theorem RangeS.ne (h : RangeS mk w b r n f c left cnt) : r ≠ b := by
  obtain ⟨D, L, h1, _⟩ := h
  exact h1.ne
theorem RangeS.lt (h : RangeS mk w b r n f c left cnt) : r < w.heap.size := by
  obtain ⟨D, L, h1, _⟩ := h
  exact h1.lt
theorem RangeS.left_eq (h : RangeS mk w b r n f c left cnt) : w.rangeLeft b r = cnt := by
  obtain ⟨D, L, h1, _⟩ := h
  exact h1.left_eq
/-- Both blocks as they were. -/
theorem RangeS.same (h : RangeS mk w b r n f c left cnt) (hb : w'.heap[b]? = w.heap[b]?) (hr : w'.heap[r]? = w.heap[r]?) : RangeS mk w' b r n f c left cnt := by
  obtain ⟨D, L, ⟨es, clock, since, seen, c0, h1, h2, h3, h4, h5, h6⟩, h7⟩ := h
  exact ⟨D, L, ⟨es, clock, since, seen, c0, hb.trans h1, h2, h3, h4, hr.trans h5, h6⟩, h7⟩
theorem RangeS.below (h : RangeS mk w b r n f c left cnt) (hb : Below w.heap.size w w') : RangeS mk w' b r n f c left cnt := h.same (hb.block b h.owns.lt) (hb.block r h.lt)
/-- What is left is there. -/
theorem RangeS.some_ (h : RangeS mk w b r n f c left cnt) (s : ByteArray) (hl : left s = true) : (f s).isSome = true := by
  obtain ⟨D, L, ⟨es, clock, since, seen, c0, h1, h2, h3, h4, h5, h6, h7, h8, h9, _⟩, hD, hL⟩ := h
  rw [hL] at hl
  obtain ⟨x, hx, hk⟩ := h9 _ hl
  rw [← hD.has, h4, Maps.has_eq, List.any_eq_true]
  refine ⟨_, mem_sorted.2 (List.mem_map.2 ⟨x, hx, rfl⟩), ?_⟩
  rw [hk]
  exact WideAt.sameKey_self (isKeyS s)
variable {P : Program} {ops : Array Oper} {rest : List Oper} {o : Oper} {a : Act} {Q : Exit → Act → World → Prop}
/-- 'range m', in the walk. -/
theorem wpList_range_S (w : World) (hg : o.guard = none) (m : Operand) (t : TypeId) (hop : o.op = Op.range t m) (e : TypeId) (ht : Try.prog.underlying t = some (.map 9 e)) (b n : Nat) (f : ByteArray → Option β) (c : Nat)
    (hm : a.eval m = .map (some b)) (h : MapS mk w b n f c)
    (hK : ∀ w', RangeS mk w' b w.heap.size n f c (fun s => (f s).isSome) c → Below w.heap.size w w' → w'.heap.size = w.heap.size + 1 → wpList Try.prog ops Q rest (a.put o.dst (.pointer (some ⟨w.heap.size, 0, none⟩))) w') :
    wpList Try.prog ops Q (o :: rest) a w := by
  obtain ⟨D, h1, h2⟩ := h
  refine wpList_range_own w hg m t hop 9 e lawS ht (shapeE mk) b n D hm h1 ?_
  intro w' hr hgr hsz
  rw [h2.size] at hr
  exact hK w' ⟨D, _, hr, h2, fun s => (h2.has s).symm⟩ ⟨hgr.os, hgr.tape, hgr.output, hgr.size, fun k hk => hgr.block k hk (by simp)⟩ hsz
/-- The step. -/
theorem wpList_next_S (w : World) (hg : o.guard = none) (it : Operand) (hop : o.op = Op.next it false) (b r n : Nat) (f : ByteArray → Option β) (c : Nat) (left : ByteArray → Bool) (cnt : Nat)
    (hit : a.eval it = .pointer (some ⟨r, 0, none⟩)) (h : RangeS mk w b r n f c left cnt)
    (hDone : cnt = 0 → (∀ s, left s = false) → wpList Try.prog ops Q rest (a.put o.dst (.tuple #[.bool false])) w)
    (hMore : ∀ (s : ByteArray) (x : β) (w' : World) (cnt' : Nat), s.size ≤ maxLen → f s = some x → left s = true → RangeS mk w' b r n f c (fun z => left z && decide (z ≠ s)) cnt' → cnt' < cnt → Kept (fun k => k = r) w w' → w'.heap.size = w.heap.size →
      (Instr.entry (.pointer (some ⟨r, 0, none⟩))).run Try.prog w' = .ok (.tuple #[.string s, mk x]) w' → wpList Try.prog ops Q rest (a.put o.dst (.tuple #[.bool true, .string s, mk x])) w') :
    wpList Try.prog ops Q (o :: rest) a w := by
  obtain ⟨D, L, h1, h2, h3⟩ := h
  refine wpList_next_ranges w hg it hop 9 lawS (shapeE mk) Value.string mk (fun key kl hk => by obtain ⟨s, rfl, _⟩ := keyS_inv hk; exact ⟨s, rfl⟩) (fun v y hv => by obtain ⟨x, rfl, _⟩ := shapeE_inv mk hv; exact ⟨x, rfl⟩) b r n D L cnt hit h1 ?_ ?_
  · intro h0 hl
    exact hDone h0 (fun s => by rw [h3]; exact hl _)
  · intro s x kl y w' cnt' hk hl hv hat hr hlt hgr hsz hen
    obtain ⟨s', es, rfl, hs⟩ := keyS_inv hk
    injection es with es
    subst es
    have hsome : (f s).isSome = true := by
      rw [← h2.has]
      exact Maps.has_true_of_atKey hat
    obtain ⟨x', hx'⟩ := Option.isSome_iff_exists.1 hsome
    obtain ⟨x2, e2, e3⟩ := shapeE_inv mk hv
    have hxx : mk x' = mk x := by
      have := h2.at_ s x' hx' (.held (mk x'))
      rw [hat, e3] at this
      simp only [DataW.held.injEq] at this
      rw [e2, this]
    refine (hxx ▸ hMore s x' w' cnt' hs hx' (by rw [h3]; exact hl) ⟨D, _, hr, h2, fun z => ?_⟩ hlt ((Kept.of_grown hgr).mono (fun k e => .inl (Option.some.inj e).symm)) hsz (by rw [hxx]; exact hen) :)
    show (left z && decide (z ≠ s)) = _
    rw [h3]
    congr 1
    by_cases e : z = s
    · subst e
      rw [WideAt.sameKey_self (isKeyS z)]
      simp
    · rw [Maps.sameKey_ne (fun e2 => e (lit_inj e2))]
      simp [e]
end
end Go.Proofs.Ytkcomkllnhdohaa
