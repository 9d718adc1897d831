/-
  A map of the call's own, of any kind of key and any shape of element: what it has as a function, how many; look-ups, stores, deletes, len, and a range over it whose rounds may delete. A key's kind is one record (its type, its values, which of them may be keys).
-/
import Derived.Test.YtlplibgcfhamgaaB3
import Derived.Maps.OwnOps
import Derived.Maps.Views
import Derived.Maps.OwnSet
import Derived.Maps.RangeWalk
namespace Go.Proofs.Ytlplibgcfhamgaa
open Go.RowKit Go.ChangeMaps
set_option maxRecDepth 20000
set_option linter.unusedSimpArgs false
set_option linter.unusedVariables false

/-! How many a function has. -/
section
variable {α β : Type} {f g : α → Option β} {c d : Nat}
/-- c keys have something. -/
def Cnt (f : α → Option β) (c : Nat) : Prop := ∃ ks : List α, ks.Nodup ∧ (∀ x, x ∈ ks ↔ (f x).isSome = true) ∧ ks.length = c
theorem Cnt.empty : Cnt (fun _ : α => (none : Option β)) 0 := ⟨[], List.nodup_nil, fun x => by simp, rfl⟩
theorem Cnt.uniq (h : Cnt f c) (k : Cnt g d) (e : ∀ x, (f x).isSome = (g x).isSome) : c = d := by
  obtain ⟨ks, h1, h2, h3⟩ := h
  obtain ⟨ls, k1, k2, k3⟩ := k
  rw [← h3, ← k3]
  exact ((List.perm_ext_iff_of_nodup h1 k1).2 (fun x => by rw [h2, k2, e])).length_eq
theorem Cnt.of_same {γ : Type} {g : α → Option γ} (h : Cnt f c) (e : ∀ x, (g x).isSome = (f x).isSome) : Cnt g c := by
  obtain ⟨ks, h1, h2, h3⟩ := h
  exact ⟨ks, h1, fun x => by rw [h2, e], h3⟩
theorem Cnt.zero (h : Cnt f c) : c = 0 ↔ ∀ x, f x = none := by
  obtain ⟨ks, h1, h2, h3⟩ := h
  rw [← h3, List.length_eq_zero_iff]
  constructor
  · rintro rfl x
    have := h2 x
    simpa using this
  · intro hn
    refine List.eq_nil_iff_forall_not_mem.2 (fun x hx => ?_)
    rw [h2, hn] at hx
    cases hx
theorem Cnt.pos (h : Cnt f c) {x : α} (hx : (f x).isSome = true) : 0 < c := by
  rcases Nat.eq_zero_or_pos c with e | e
  · rw [h.zero.1 e x] at hx
    cases hx
  · exact e
variable [DecidableEq α]
theorem Cnt.put (h : Cnt f c) (s : α) (x : β) : Cnt (fun t => if t = s then some x else f t) (if (f s).isSome then c else c + 1) := by
  obtain ⟨ks, h1, h2, h3⟩ := h
  cases hs : (f s).isSome
  · refine ⟨s :: ks, List.nodup_cons.2 ⟨fun hm => ?_, h1⟩, fun t => ?_, by simp [h3]⟩
    · rw [h2, hs] at hm
      cases hm
    · rw [List.mem_cons]
      by_cases e : t = s
      · simp [e]
      · simp [e, h2]
  · refine ⟨ks, h1, fun t => ?_, by simp [h3]⟩
    by_cases e : t = s
    · subst e; simp [h2, hs]
    · simp [e, h2]
theorem Cnt.del (h : Cnt f c) (s : α) : Cnt (fun t => if t = s then none else f t) (if (f s).isSome then c - 1 else c) := by
  obtain ⟨ks, h1, h2, h3⟩ := h
  refine ⟨ks.erase s, h1.erase s, fun t => ?_, ?_⟩
  · rw [h1.mem_erase_iff]
    by_cases e : t = s
    · simp [e]
    · simp [e, h2]
  · cases hs : (f s).isSome
    · rw [List.erase_of_not_mem (by rw [h2, hs]; decide)]
      simpa using h3
    · rw [List.length_erase_of_mem ((h2 s).2 hs), h3]
      rfl
/-- Nobody else. -/
theorem Cnt.others (h : Cnt f c) (a : α) : c - (if (f a).isSome then 1 else 0) = 0 ↔ ∀ x, (f x).isSome = true → x = a := by
  have hd := h.del a
  have hz := hd.zero
  constructor
  · intro e x hx
    have h0 : (if (f a).isSome then c - 1 else c) = 0 := by split at e <;> rename_i h9 <;> simp [h9] <;> omega
    have := hz.1 h0 x
    by_cases ex : x = a
    · exact ex
    · rw [if_neg ex] at this
      rw [this] at hx
      cases hx
  · intro hx
    have h0 := hz.2 (fun x => by
      show (if x = a then none else f x) = none
      by_cases ex : x = a
      · rw [if_pos ex]
      · rw [if_neg ex]
        cases hfx : f x with
        | none => rfl
        | some y => exact absurd (hx x (by rw [hfx]; rfl)) ex)
    split at h0 <;> rename_i h9 <;> simp [h9] <;> omega
end
/-- A kind of key. -/
structure KeyShape (α : Type) where
  k : TypeId
  law : Go.Maps.Keyed Try.prog k
  val : α → Value
  lit : α → Lit
  ok : α → Prop
  key : ∀ x, ok x → keyOf Try.prog k (val x) = some (lit x)
  inv : ∀ v l, keyOf Try.prog k v = some l → ∃ x, v = val x ∧ l = lit x ∧ ok x
  mkinj : ∀ x y, val x = val y → x = y
  inj : ∀ x y, ok x → ok y → lit x = lit y → x = y
theorem KeyShape.isKey {α : Type} (K : KeyShape α) {x : α} (h : K.ok x) : WideAt.IsKeyLit (K.lit x) := K.law.key (K.key x h)
/-- Keys that are ints. -/
def intK (t : TypeId) (ht : Try.prog.underlying t = some (.int .i64)) : KeyShape Int where
  k := t
  law := Go.Maps.int_keyed ht
  val := .int .i64
  lit := .int .i64
  ok := fun n => (Lit.int .i64 n).wf = true
  key := fun n h => Go.Maps.keyOf_int_mk ht h
  inv := fun v l h => by
    obtain ⟨x, rfl, rfl, h2⟩ := Maps.keyOf_int_inv ht h
    exact ⟨x, rfl, rfl, h2⟩
  mkinj := fun x y h => by injection h
  inj := fun x y _ _ h => by injection h
/-- Keys that are strings. -/
def strK (t : TypeId) (ht : Try.prog.underlying t = some .string) : KeyShape ByteArray where
  k := t
  law := Go.Maps.string_keyed ht
  val := .string
  lit := fun s => .string s.data.toList
  ok := fun s => s.size ≤ maxLen
  key := fun s h => WideMaps.keyOf_string_mk ht h
  inv := fun v l h => by
    rw [keyOf_string ht] at h
    unfold mapKey at h
    rw [ht] at h
    cases v <;> simp at h
    obtain ⟨h1, rfl⟩ := h
    exact ⟨_, rfl, rfl, h1⟩
  mkinj := fun x y h => by injection h
  inj := fun s t _ _ h => by
    injection h with h
    cases s with | mk a => cases t with | mk b => simp at h; rw [h]
section
variable {α β : Type} (K : KeyShape α) (mk : β → Value)
open Classical in
/-- An element: a value of that shape. -/
noncomputable def shapeG (v : Value) : Option (DataW Value × List MemPlace) := if ∃ x, v = mk x then some (.held v, []) else none
theorem shapeG_mk (x : β) : shapeG mk (mk x) = some (.held (mk x), []) := if_pos ⟨x, rfl⟩
theorem shapeG_inv {v : Value} {z : DataW Value × List MemPlace} (h : shapeG mk v = some z) : ∃ x, v = mk x ∧ z = (.held (mk x), []) := by
  unfold shapeG at h
  split at h
  · rename_i hx
    obtain ⟨x, rfl⟩ := hx
    exact ⟨x, rfl, (Option.some.inj h).symm⟩
  · cases h
/-- What D has. -/
structure HasG (D : DataW Value) (f : α → Option β) (c : Nat) : Prop where
  tidy : Maps.Tidy D
  size : Maps.size D = c
  has : ∀ s, K.ok s → Maps.has D (K.lit s) = (f s).isSome
  at_ : ∀ s x, K.ok s → f s = some x → ∀ z, D.atKey (K.lit s) z = .held (mk x)
  not_ : ∀ s, ¬ K.ok s → f s = none
  fin : Cnt f c
/-- Block b is a map of at most n entries that has f, c of them. -/
def MapG (w : World) (b n : Nat) (f : α → Option β) (c : Nat) : Prop := ∃ D : DataW Value, w.ownsMap Try.prog K.k (shapeG mk) b n D ∧ HasG K mk D f c
variable {K mk} {w w' : World} {b n c : Nat} {f : α → Option β} {D : DataW Value}
theorem lit_other {s t : α} (hs : K.ok s) (ht : K.ok t) (e : ¬ t = s) : K.lit t ≠ K.lit s := fun e2 => e (K.inj _ _ ht hs e2)
theorem HasG.look (h : HasG K mk D f c) (s : α) (hs : K.ok s) (z : β) : D.atKey (K.lit s) (.held (mk z)) = .held (mk ((f s).getD z)) := by
  cases hf : f s with
  | none => exact Maps.atKey_of_not_has (by rw [h.has s hs, hf]; rfl) _
  | some x => exact h.at_ s x hs hf _
theorem HasG.put [DecidableEq α] (h : HasG K mk D f c) (s : α) (hs : K.ok s) (x : β) : HasG K mk (D.put (K.lit s) (.held (mk x))) (fun t => if t = s then some x else f t) (if (f s).isSome then c else c + 1) := by
  refine ⟨h.tidy.put (K.isKey hs) _, ?_, fun t ht => ?_, fun t y ht hy z => ?_, fun t ht => ?_, h.fin.put s x⟩
  · rw [Maps.size_put h.tidy, h.has s hs, h.size]
  · show _ = Option.isSome (if t = s then some x else f t)
    by_cases e : t = s
    · subst e; rw [if_pos rfl, Maps.has_put_same h.tidy.isMap (K.isKey hs)]; rfl
    · rw [if_neg e, Maps.has_put_other (lit_other hs ht e), h.has t ht]
  · by_cases e : t = s
    · subst e; rw [if_pos rfl] at hy; obtain rfl := Option.some.inj hy; exact Maps.atKey_put_same h.tidy.isMap (K.isKey ht) _ _
    · rw [if_neg e] at hy; rw [Maps.atKey_put_other (lit_other hs ht e)]; exact h.at_ t y ht hy z
  · show (if t = s then some x else f t) = none
    rw [if_neg (fun e => by subst e; exact ht hs), h.not_ t ht]
theorem HasG.del [DecidableEq α] (h : HasG K mk D f c) (s : α) (hs : K.ok s) : HasG K mk (D.del (K.lit s)) (fun t => if t = s then none else f t) (if (f s).isSome then c - 1 else c) := by
  refine ⟨h.tidy.del _, ?_, fun t ht => ?_, fun t y ht hy z => ?_, fun t ht => ?_, h.fin.del s⟩
  · have := Maps.size_del (D := D) (k := K.lit s) h.tidy
    rw [h.has s hs, h.size] at this
    split
    · rename_i e; rw [if_pos e] at this; omega
    · rename_i e; rw [if_neg e] at this; omega
  · show _ = Option.isSome (if t = s then none else f t)
    by_cases e : t = s
    · subst e; rw [if_pos rfl, Maps.has_del_same]; rfl
    · rw [if_neg e, Maps.has_del_other (lit_other hs ht e), h.has t ht]
  · by_cases e : t = s
    · subst e; rw [if_pos rfl] at hy; cases hy
    · rw [if_neg e] at hy; rw [Maps.atKey_del_other (lit_other hs ht e)]; exact h.at_ t y ht hy z
  · show (if t = s then none else f t) = none
    split
    · rfl
    · exact h.not_ t ht
theorem MapG.new_ (w : World) : MapG K mk (w.alloc (.map #[] 0)) w.heap.size 0 (fun _ => none) 0 := ⟨.map [], World.ownsMap_made _ _ _ _, ⟨Maps.tidy_empty, rfl, fun _ _ => rfl, fun _ _ _ h => (by cases h), fun _ _ => rfl, Cnt.empty⟩⟩
theorem MapG.lt (h : MapG K mk w b n f c) : b < w.heap.size := by
  obtain ⟨D, h1, _⟩ := h
  exact h1.lt
theorem MapG.same (h : MapG K mk w b n f c) (he : w'.heap[b]? = w.heap[b]?) : MapG K mk w' b n f c := by
  obtain ⟨D, ⟨es, clock, hb, F, hs, hD⟩, h2⟩ := h
  exact ⟨D, ⟨es, clock, he.trans hb, F, hs, hD⟩, h2⟩
theorem MapG.below (h : MapG K mk w b n f c) (hb : Below w.heap.size w w') : MapG K mk w' b n f c := h.same (hb.block b h.lt)
theorem MapG.le (h : MapG K mk w b n f c) : c ≤ n := by
  obtain ⟨D, h1, h2⟩ := h
  have := h1.size_le
  rw [h2.size] at this
  exact this
theorem MapG.more (h : MapG K mk w b n f c) {m : Nat} (hm : n ≤ m) : MapG K mk w b m f c := by
  obtain ⟨D, ⟨es, clock, hb, F, hs, hD⟩, h2⟩ := h
  exact ⟨D, ⟨es, clock, hb, F, Nat.le_trans hs hm, hD⟩, h2⟩
theorem MapG.fin (h : MapG K mk w b n f c) : Cnt f c := by
  obtain ⟨D, h1, h2⟩ := h
  exact h2.fin
theorem MapG.ok (h : MapG K mk w b n f c) {s : α} (hs : (f s).isSome = true) : K.ok s := by
  obtain ⟨D, h1, h2⟩ := h
  refine Classical.byContradiction (fun hn => ?_)
  rw [h2.not_ s hn] at hs
  cases hs
variable {t e : TypeId}
/-- 'm[k]', in whatever world that has this block. -/
theorem MapG.look (h : MapG K mk w b n f c) (ht : Try.prog.underlying t = some (.map K.k e)) {z : β} (hz : ∀ w, (zeroValue e).run Try.prog w = .ok (mk z) w) (s : α) (hs : K.ok s) :
    (Instr.lookup t (.map (some b)) (K.val s) false).run Try.prog w = .ok (mk ((f s).getD z)) w := by
  obtain ⟨D, hown, h2⟩ := h
  obtain ⟨v, ps, hrun, hv⟩ := hown.lookup K.law ht (hz w) (shapeG_mk mk z) (K.key s hs)
  rw [h2.look s hs] at hv
  obtain ⟨x, rfl, hx⟩ := shapeG_inv mk hv
  have : mk ((f s).getD z) = mk x := by
    have := congrArg Prod.fst hx
    simpa using this
  rw [this]
  exact hrun
/-- 'v, ok := m[k]'. -/
theorem MapG.look_ok (h : MapG K mk w b n f c) (ht : Try.prog.underlying t = some (.map K.k e)) {z : β} (hz : ∀ w, (zeroValue e).run Try.prog w = .ok (mk z) w) (s : α) (hs : K.ok s) :
    (Instr.lookup t (.map (some b)) (K.val s) true).run Try.prog w = .ok (.tuple #[mk ((f s).getD z), .bool (f s).isSome]) w := by
  obtain ⟨D, hown, h2⟩ := h
  obtain ⟨v, ps, hrun, hv⟩ := hown.look_ok K.law ht (hz w) (shapeG_mk mk z) (K.key s hs)
  rw [h2.look s hs] at hv
  rw [h2.has s hs] at hrun
  obtain ⟨x, rfl, hx⟩ := shapeG_inv mk hv
  have : mk ((f s).getD z) = mk x := by
    have := congrArg Prod.fst hx
    simpa using this
  rw [this]
  exact hrun
/-- What a look-up tells, whatever the zero value is. -/
def gotV (mk : β → Value) (f : α → Option β) (s : α) (z : Value) : Value := match f s with | none => z | some x => mk x
theorem MapG.look_any (h : MapG K mk w b n f c) (ht : Try.prog.underlying t = some (.map K.k e)) {z : Value} (hz : ∀ w, (zeroValue e).run Try.prog w = .ok z w) (s : α) (hs : K.ok s) (ok : Bool) :
    (Instr.lookup t (.map (some b)) (K.val s) ok).run Try.prog w = .ok (if ok then .tuple #[gotV mk f s z, .bool (f s).isSome] else gotV mk f s z) w := by
  obtain ⟨D, ⟨es, clock, hb, F, _, rfl⟩, h2⟩ := h
  have hh := h2.has s hs
  rcases Maps.fit_look ok K.law ht (hz w) hb F (K.key s hs) with ⟨hrun, _, hat⟩ | ⟨e0, y, _, _, hrun, hRv, hat, _⟩
  · have h3 := Maps.has_false_of_atKey hat
    rw [hh] at h3
    have hf : f s = none := by
      cases e : f s with
      | none => rfl
      | some x => rw [e] at h3; cases h3
    rw [hrun]
    unfold gotV
    rw [hf]
    rfl
  · have h3 := Maps.has_true_of_atKey hat
    rw [hh] at h3
    obtain ⟨x, hf⟩ := Option.isSome_iff_exists.1 h3
    obtain ⟨u, hu, hy⟩ := shapeG_inv mk hRv
    have h4 := h2.at_ s x hs hf (.held (mk x))
    rw [hat, hy] at h4
    simp only [DataW.held.injEq] at h4
    rw [hrun, hu, h4]
    unfold gotV
    rw [hf]
    rfl
/-- Of a nil map. -/
theorem nil_look (K : KeyShape α) (ht : Try.prog.underlying t = some (.map K.k e)) {z : Value} (hz : ∀ w, (zeroValue e).run Try.prog w = .ok z w) (s : α) (hs : K.ok s) (w : World) :
    (Instr.lookup t (.map none) (K.val s) false).run Try.prog w = .ok z w := Maps.look_nil (w := w) false K.law ht (hz w) (K.key s hs)
theorem nil_look_ok (K : KeyShape α) (ht : Try.prog.underlying t = some (.map K.k e)) {z : Value} (hz : ∀ w, (zeroValue e).run Try.prog w = .ok z w) (s : α) (hs : K.ok s) (w : World) :
    (Instr.lookup t (.map none) (K.val s) true).run Try.prog w = .ok (.tuple #[z, .bool false]) w := Maps.look_nil (w := w) true K.law ht (hz w) (K.key s hs)
theorem nil_len {k : TypeId} (ht : Try.prog.underlying t = some (.map k e)) (ty : TypeId) (w : World) : (Builtin.len_ #[t] ty #[.map none]).run Try.prog w = .ok (.int .i64 0) w := Maps.len_nil (w := w) ht ty
/-- 'len(m)'. -/
theorem MapG.len (h : MapG K mk w b n f c) (ht : Try.prog.underlying t = some (.map K.k e)) (ty : TypeId) : (Builtin.len_ #[t] ty #[.map (some b)]).run Try.prog w = .ok (.int .i64 (c : Int)) w := by
  obtain ⟨D, hown, h2⟩ := h
  have := hown.len ht ty
  rw [h2.size] at this
  exact this
/-- Only the map's own block turns. -/
theorem turned_kept {w w' : World} {b : Nat} (h : w.mapTurned w' b) : Kept (fun k => k = b) w w' := (Kept.of_grown h.grown).mono (fun k e => .inl (Option.some.inj e).symm)
theorem turned_size {w w' : World} {b : Nat} (h : w.mapTurned w' b) : w'.heap.size = w.heap.size := by
  obtain ⟨es, clock, es', clock', hb, rfl⟩ := h
  simp [setBlock]
/-- 'm[k] = v'. -/
theorem MapG.store [DecidableEq α] (h : MapG K mk w b n f c) (ht : Try.prog.underlying t = some (.map K.k e)) (hn : n < maxLen) (s : α) (hs : K.ok s) (x : β) :
    ∃ w', (Instr.mapUpdate t (.map (some b)) (K.val s) (mk x)).run Try.prog w = .ok () w' ∧ MapG K mk w' b (n + 1) (fun t => if t = s then some x else f t) (if (f s).isSome then c else c + 1) ∧ w.mapTurned w' b := by
  obtain ⟨D, h1, h2⟩ := h
  obtain ⟨w', hrun, h3, h4⟩ := h1.store K.law ht hn (K.key s hs) (shapeG_mk mk x)
  exact ⟨w', hrun, ⟨_, h3, h2.put s hs x⟩, h4⟩
/-- 'delete(m, k)'. -/
theorem MapG.drop [DecidableEq α] (h : MapG K mk w b n f c) (ht : Try.prog.underlying t = some (.map K.k e)) (s : α) (hs : K.ok s) (ty : TypeId) :
    ∃ w', (Builtin.delete_ #[t, K.k] ty #[.map (some b), K.val s]).run Try.prog w = .ok (.tuple #[]) w' ∧ MapG K mk w' b n (fun t => if t = s then none else f t) (if (f s).isSome then c - 1 else c) ∧ w.mapTurned w' b := by
  obtain ⟨D, h1, h2⟩ := h
  obtain ⟨w', hrun, h3, h4⟩ := h1.drop K.law ht (K.key s hs) ty
  exact ⟨w', hrun, ⟨_, h3, h2.del s hs⟩, h4⟩
/-- A range over it, under way: block r is the iterator; what is left. -/
def RangeG (K : KeyShape α) (mk : β → Value) (w : World) (b r n : Nat) (f : α → Option β) (c : Nat) (left : α → Bool) (cnt : Nat) : Prop :=
  ∃ (D : DataW Value) (L : Lit → Bool), w.ranges Try.prog K.k (shapeG mk) b r n D L cnt ∧ HasG K mk D f c ∧ ∀ s, K.ok s → left s = L (K.lit s)
variable {r cnt : Nat} {left : α → Bool}
theorem RangeG.owns (h : RangeG K mk w b r n f c left cnt) : MapG K mk w b n f c := by
  obtain ⟨D, L, h1, h2, _⟩ := h
  exact ⟨D, h1.owns, h2⟩
theorem RangeG.ne (h : RangeG K mk w b r n f c left cnt) : r ≠ b := by
  obtain ⟨D, L, h1, _⟩ := h
  exact h1.ne
theorem RangeG.lt (h : RangeG K mk w b r n f c left cnt) : r < w.heap.size := by
  obtain ⟨D, L, h1, _⟩ := h
  exact h1.lt
theorem RangeG.left_eq (h : RangeG K mk w b r n f c left cnt) : w.rangeLeft b r = cnt := by
  obtain ⟨D, L, h1, _⟩ := h
  exact h1.left_eq
/-- Both blocks as they were. -/
theorem RangeG.same (h : RangeG K mk w b r n f c left cnt) (hb : w'.heap[b]? = w.heap[b]?) (hr : w'.heap[r]? = w.heap[r]?) : RangeG K mk w' b r n f c left cnt := by
  obtain ⟨D, L, ⟨es, clock, since, seen, c0, h1, h2, h3, h4, h5, h6⟩, h7⟩ := h
  exact ⟨D, L, ⟨es, clock, since, seen, c0, hb.trans h1, h2, h3, h4, hr.trans h5, h6⟩, h7⟩
theorem RangeG.below (h : RangeG K mk w b r n f c left cnt) (hb : Below w.heap.size w w') : RangeG K mk w' b r n f c left cnt := h.same (hb.block b h.owns.lt) (hb.block r h.lt)
/-- What is left is there. -/
theorem RangeG.some_ (h : RangeG K mk w b r n f c left cnt) (s : α) (hs : K.ok s) (hl : left s = true) : (f s).isSome = true := by
  obtain ⟨D, L, ⟨es, clock, since, seen, c0, h1, h2, h3, h4, h5, h6, h7, h8, h9, _⟩, hD, hL⟩ := h
  rw [hL s hs] at hl
  obtain ⟨x, hx, hk⟩ := h9 _ hl
  rw [← hD.has s hs, h4, Maps.has_eq, List.any_eq_true]
  refine ⟨_, mem_sorted.2 (List.mem_map.2 ⟨x, hx, rfl⟩), ?_⟩
  rw [hk]
  exact WideAt.sameKey_self (K.isKey hs)
theorem left_strike [DecidableEq α] {L : Lit → Bool} (h3 : ∀ s, K.ok s → left s = L (K.lit s)) {s : α} (hs : K.ok s) (z : α) (hz : K.ok z) : (left z && !decide (z = s)) = (L (K.lit z) && !(K.lit z).sameKey (K.lit s)) := by
  rw [h3 z hz]
  congr 1
  by_cases e : z = s
  · subst e
    rw [WideAt.sameKey_self (K.isKey hz)]
    simp
  · rw [Maps.sameKey_ne (lit_other hs hz e)]
    simp [e]
/-- 'delete(m, k)' in a round. -/
theorem RangeG.drop [DecidableEq α] (h : RangeG K mk w b r n f c left cnt) (ht : Try.prog.underlying t = some (.map K.k e)) (s : α) (hs : K.ok s) (ty : TypeId) :
    ∃ w' cnt', (Builtin.delete_ #[t, K.k] ty #[.map (some b), K.val s]).run Try.prog w = .ok (.tuple #[]) w' ∧ RangeG K mk w' b r n (fun t => if t = s then none else f t) (if (f s).isSome then c - 1 else c) (fun z => left z && !decide (z = s)) cnt' ∧ cnt' ≤ cnt ∧ w.mapTurned w' b := by
  obtain ⟨D, L, h1, h2, h3⟩ := h
  obtain ⟨w', cnt', hrun, h4, h5, h6⟩ := h1.drop K.law ht (K.key s hs) ty
  exact ⟨w', cnt', hrun, ⟨_, _, h4, h2.del s hs, fun z hz => left_strike h3 hs z hz⟩, h5, h6⟩
variable {P : Program} {ops : Array Oper} {rest : List Oper} {o : Oper} {a : Act} {Q : Exit → Act → World → Prop}
/-- 'range m', in the walk. -/
theorem wpList_range_G (w : World) (hg : o.guard = none) (m : Operand) (t : TypeId) (hop : o.op = Op.range t m) (e : TypeId) (ht : Try.prog.underlying t = some (.map K.k e)) (b n : Nat) (f : α → Option β) (c : Nat)
    (hm : a.eval m = .map (some b)) (h : MapG K mk w b n f c)
    (hK : ∀ w', RangeG K mk w' b w.heap.size n f c (fun s => (f s).isSome) c → Below w.heap.size w w' → w'.heap.size = w.heap.size + 1 → wpList Try.prog ops Q rest (a.put o.dst (.pointer (some ⟨w.heap.size, 0, none⟩))) w') :
    wpList Try.prog ops Q (o :: rest) a w := by
  obtain ⟨D, h1, h2⟩ := h
  refine wpList_range_own w hg m t hop K.k e K.law ht (shapeG mk) b n D hm h1 ?_
  intro w' hr hgr hsz
  rw [h2.size] at hr
  exact hK w' ⟨D, _, hr, h2, fun s hs => (h2.has s hs).symm⟩ ⟨hgr.os, hgr.tape, hgr.output, hgr.size, fun k hk => hgr.block k hk (by simp)⟩ hsz
/-- The step. -/
theorem wpList_next_G [DecidableEq α] (w : World) (hg : o.guard = none) (it : Operand) (hop : o.op = Op.next it false) (b r n : Nat) (f : α → Option β) (c : Nat) (left : α → Bool) (cnt : Nat)
    (hit : a.eval it = .pointer (some ⟨r, 0, none⟩)) (h : RangeG K mk w b r n f c left cnt)
    (hDone : cnt = 0 → (∀ s, K.ok s → left s = false) → wpList Try.prog ops Q rest (a.put o.dst (.tuple #[.bool false])) w)
    (hMore : ∀ (s : α) (x : β) (w' : World) (cnt' : Nat), K.ok s → f s = some x → left s = true → RangeG K mk w' b r n f c (fun z => left z && !decide (z = s)) cnt' → cnt' < cnt → Kept (fun k => k = r) w w' → w'.heap.size = w.heap.size →
      (Instr.entry (.pointer (some ⟨r, 0, none⟩))).run Try.prog w' = .ok (.tuple #[K.val s, mk x]) w' → wpList Try.prog ops Q rest (a.put o.dst (.tuple #[.bool true, K.val s, mk x])) w') :
    wpList Try.prog ops Q (o :: rest) a w := by
  obtain ⟨D, L, h1, h2, h3⟩ := h
  refine wpList_next_ranges w hg it hop K.k K.law (shapeG mk) K.val mk (fun key kl hk => by obtain ⟨s, rfl, _⟩ := K.inv _ _ hk; exact ⟨s, rfl⟩) (fun v y hv => by obtain ⟨x, rfl, _⟩ := shapeG_inv mk hv; exact ⟨x, rfl⟩) b r n D L cnt hit h1 ?_ ?_
  · intro h0 hl
    exact hDone h0 (fun s hs => by rw [h3 s hs]; exact hl _)
  · intro s x kl y w' cnt' hk hl hv hat hr hlt hgr hsz hen
    obtain ⟨s', es, rfl, hs⟩ := K.inv _ _ hk
    obtain rfl := K.mkinj _ _ es
    have hsome : (f s).isSome = true := by
      rw [← h2.has s hs]
      exact Maps.has_true_of_atKey hat
    obtain ⟨x', hx'⟩ := Option.isSome_iff_exists.1 hsome
    obtain ⟨x2, e2, e3⟩ := shapeG_inv mk hv
    have hxx : mk x' = mk x := by
      have := h2.at_ s x' hs hx' (.held (mk x'))
      rw [hat, e3] at this
      simp only [DataW.held.injEq] at this
      rw [e2, this]
    refine (hxx ▸ hMore s x' w' cnt' hs hx' (by rw [h3 s hs]; exact hl) ⟨D, _, hr, h2, fun z hz => left_strike h3 hs z hz⟩ hlt ((Kept.of_grown hgr).mono (fun k e => .inl (Option.some.inj e).symm)) hsz (by rw [hxx]; exact hen) :)
end
end Go.Proofs.Ytlplibgcfhamgaa
