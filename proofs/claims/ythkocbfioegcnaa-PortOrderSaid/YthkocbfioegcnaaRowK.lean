/-
  Rows of the call's own, of records of any kind (a kind: the type, how many cells, what they are): appended to, read, set, cut, cleared at the end, cloned.
-/
import Derived.Test.YthkocbfioegcnaaOwG
import Derived.Test.YthkocbfioegcnaaRecsIn
import Derived.Laws.CopyRow
import Derived.Lib.SlicesDelete
import Derived.Lib.AppendZerosOnto
import Derived.Shelf.Spec.SlicesInsert
namespace Go.Proofs.Ythkocbfioegcnaa
open Go.RowKit Go.Lib
set_option maxRecDepth 20000
set_option linter.unusedSimpArgs false
set_option linter.unusedVariables false

/-- A kind of record. -/
structure Kd (α : Type) where
  T : TypeId
  TS : TypeId
  m : Nat
  cells : α → List Value
  z : Value
  zs : List Value
  bytes : Nat
  hT : Try.prog.underlying TS = some (.slice T)
  info : (Try.prog.info? T).map (fun i => (i.zero, i.size, i.bytes)) = some (some z, m, bytes)
  hz : z.cells.size = m
  zero : ∀ w, (zeroValue T).run Try.prog w = .ok z w
  hzs : (Builtin.zeroCells z.cells 1).toList = zs
  zlen : zs.length = m
  zone : ∀ u ∈ zs, u.oneCell' = true
  size : ∀ w, (sizeOf T).run Try.prog w = .ok m w
  hby : bytes ≤ 1000
  hm : 0 < m
  len : ∀ x, (cells x).length = m
  one : ∀ x, ∀ u ∈ cells x, u.oneCell' = true
section
variable {α : Type} (K : Kd α)
def Kd.flat (es : List α) : List Value := es.flatMap K.cells
theorem kf_nil : K.flat [] = [] := rfl
theorem kf_cons (x : α) (es : List α) : K.flat (x :: es) = K.cells x ++ K.flat es := rfl
theorem kf_append (a b : List α) : K.flat (a ++ b) = K.flat a ++ K.flat b := List.flatMap_append
theorem kf_one (es : List α) : ∀ u ∈ K.flat es, u.oneCell' = true := by
  intro u hu
  obtain ⟨x, _, hu⟩ := List.mem_flatMap.1 hu
  exact K.one x u hu
theorem kf_length : ∀ es : List α, (K.flat es).length = es.length * K.m
  | [] => by simp [Kd.flat]
  | x :: es => by
    rw [kf_cons, List.length_append, kf_length es, K.len, List.length_cons, Nat.add_mul]
    omega
theorem kf_at : ∀ (es : List α) (j : Nat) (x : α) (i : Nat), es[j]? = some x → i < K.m → (K.flat es)[j * K.m + i]? = (K.cells x)[i]?
  | [], j, x, i, h, _ => by simp at h
  | a :: es, 0, x, i, h, hi => by
    obtain rfl : a = x := by simpa using h
    rw [kf_cons, List.getElem?_append_left (by rw [K.len]; omega), Nat.zero_mul, Nat.zero_add]
  | a :: es, j + 1, x, i, h, hi => by
    have e : (j + 1) * K.m = j * K.m + K.m := by rw [Nat.add_mul, Nat.one_mul]
    rw [kf_cons, List.getElem?_append_right (by rw [K.len]; omega), K.len, show (j + 1) * K.m + i - K.m = j * K.m + i by omega]
    exact kf_at es j x i (by simpa using h) hi
theorem kf_take : ∀ (es : List α) (k : Nat), (K.flat es).take (k * K.m) = K.flat (es.take k)
  | [], k => by simp [Kd.flat]
  | a :: es, 0 => by simp [Kd.flat]
  | a :: es, k + 1 => by
    rw [List.take_succ_cons, kf_cons, kf_cons, ← kf_take es k, show (k + 1) * K.m = (K.cells a).length + k * K.m by rw [K.len, Nat.add_mul]; omega]
    rw [List.take_length_add_append]
/-- One cell of a record set. -/
theorem kf_set : ∀ (es : List α) (j i : Nat) (x y : α) (u : Value), es[j]? = some x → i < K.m → K.cells y = (K.cells x).set i u → (K.flat es).set (j * K.m + i) u = K.flat (es.set j y)
  | [], j, i, x, y, u, h, _, _ => by simp at h
  | a :: es, 0, i, x, y, u, h, hi, hy => by
    obtain rfl : a = x := by simpa using h
    rw [kf_cons, List.set_cons_zero, kf_cons, hy, Nat.zero_mul, Nat.zero_add, List.set_append_left _ _ (by rw [K.len]; omega)]
  | a :: es, j + 1, i, x, y, u, h, hi, hy => by
    have e : (j + 1) * K.m = j * K.m + K.m := by rw [Nat.add_mul, Nat.one_mul]
    rw [kf_cons, List.set_cons_succ, kf_cons, List.set_append_right _ _ (by rw [K.len]; omega), K.len, show (j + 1) * K.m + i - K.m = j * K.m + i by omega, kf_set es j i x y u (by simpa using h) hi hy]
/-- Records in a slice of one's own. -/
def Kd.Row (w : World) (v : Value) (es : List α) : Prop := w.ownsRow 0 K.T K.m v es.length (K.flat es)
variable {K} {w w' : World} {g n c : Nat} {v : Value} {A : Option Addr} {es : List α}
theorem Kd.Row.nil (K : Kd α) (w : World) : K.Row w (.slice none 0 0) [] := World.ownsRow_nil _ _ _ _
theorem Kd.Row.form (h : K.Row w v es) : ∃ A c, v = .slice A es.length c := by
  rcases h.2 with ⟨rfl, h0⟩ | ⟨g', cap, cur, rfl, _⟩
  · exact ⟨none, 0, by rw [h0]⟩
  · exact ⟨_, _, rfl⟩
theorem Kd.Row.cap (h : K.Row w (.slice A n c) es) : n = es.length ∧ es.length ≤ c := by
  rcases h.2 with ⟨e, h0⟩ | ⟨g, cap, cur, e, _, _, hc, _⟩
  · injection e with _ e1 e2
    subst e1 e2
    omega
  · injection e with _ e1 e2
    subst e1 e2
    exact ⟨rfl, hc⟩
theorem Kd.Row.open (h : K.Row w v es) (hn : 0 < es.length) :
    ∃ g cap cur, v = .slice (some ⟨g, 0, none⟩) es.length cap ∧ w.heap[g]? = some (.cells cur K.T (0, 0)) ∧ es.length ≤ cap ∧ cap ≤ maxLen ∧ cur.size = cap * K.m ∧ cur.toList.take (es.length * K.m) = K.flat es := by
  rcases h.2 with ⟨rfl, h0⟩ | ⟨g, cap, cur, e, _, h⟩
  · omega
  · exact ⟨g, cap, cur, e, h⟩
theorem Kd.Row.block (h : K.Row w v es) (hn : 0 < es.length) : ∃ g c, v = .slice (some ⟨g, 0, none⟩) es.length c ∧ g < w.heap.size := by
  obtain ⟨g, cap, cur, e, hg, _⟩ := h.open hn
  exact ⟨g, cap, e, (Array.getElem?_eq_some_iff.1 hg).1⟩
theorem Kd.Row.keep {S : Nat → Prop} (h : K.Row w v es) (hk : Kept S w w') (hn : ∀ k, v.ownBlock = some k → ¬ S k) : K.Row w' v es := hk.own h hn
theorem Kd.Row.below (h : K.Row w v es) (hb : Below w.heap.size w w') : K.Row w' v es := h.keep (Kept.of_below (S := fun _ => False) hb) (fun _ _ h => h)
theorem Kd.Row.lt (h : K.Row w v es) : ∀ k, v.ownBlock = some k → k < w.heap.size := fun k hk => (World.ownsRow.lt h k hk).2
theorem Kd.Row.cells (h : K.Row w (.slice (some ⟨g, 0, none⟩) n c) es) {j : Nat} {x : α} (hj : es[j]? = some x) : ∀ i u, (K.cells x)[i]? = some u → w.cell? ⟨g, j * K.m + i, none⟩ = some u := by
  obtain rfl := h.cap.1
  have hjl : j < es.length := (List.getElem?_eq_some_iff.1 hj).1
  intro i u hu
  have hi : i < K.m := by have := (List.getElem?_eq_some_iff.1 hu).1; rwa [K.len] at this
  have hlt : j * K.m + i < (K.flat es).length := by
    rw [kf_length]
    have : (j + 1) * K.m ≤ es.length * K.m := Nat.mul_le_mul_right _ hjl
    rw [Nat.add_mul] at this
    omega
  exact ((World.ownsRow.cellAt h (j * K.m + i) (by rwa [kf_length] at hlt)).trans (kf_at K es j x i hj hi)).trans hu
theorem Kd.Row.frozen (h : K.Row w (.slice (some ⟨g, 0, none⟩) n c) es) (j : Nat) : w.frozen? ⟨g, j, none⟩ = false := by
  obtain rfl := h.cap.1
  exact World.ownsRow.frozenAt h j
/-- One cell set. -/
theorem Kd.Row.put (h : K.Row w (.slice (some ⟨g, 0, none⟩) n c) es) {j i : Nat} {x y : α} {u : Value} (hj : es[j]? = some x) (hi : i < K.m) (hy : K.cells y = (K.cells x).set i u) : K.Row (w.setCell ⟨g, j * K.m + i, none⟩ u) (.slice (some ⟨g, 0, none⟩) n c) (es.set j y) := by
  obtain rfl := h.cap.1
  have h1 := (World.ownsRow.stored h (j * K.m + i) u).1
  rw [kf_set K es j i x y u hj hi hy] at h1
  unfold Kd.Row
  rw [List.length_set]
  exact h1
/-- Cut off behind some. -/
theorem Kd.Row.low (h : K.Row w (.slice A n c) es) {k : Nat} (hk : k ≤ es.length) : K.Row w (.slice A k c) (es.take k) := by
  have hl : (es.take k).length = k := by rw [List.length_take]; omega
  refine ⟨by rw [kf_length, hl], ?_⟩
  rcases h.2 with ⟨e, h0⟩ | ⟨g, cap, cur, e, hB, hg, hc, hm, hs, ht⟩
  · injection e with e0 e1 e2
    subst e0 e2
    left
    have : k = 0 := by omega
    subst this
    exact ⟨rfl, by simp⟩
  · injection e with e0 e1 e2
    subst e0 e2
    right
    refine ⟨g, _, cur, by rw [hl], hB, hg, by omega, hm, hs, ?_⟩
    rw [hl]
    have := congrArg (List.take (k * K.m)) ht
    rw [List.take_take, kf_take] at this
    rw [← this]
    congr 1
    have : k * K.m ≤ es.length * K.m := Nat.mul_le_mul_right _ hk
    omega
theorem run_lowK (K : Kd α) (A : Option Addr) (n c k : Nat) (hk : k ≤ c) (w : World) : (Instr.slice K.TS (.slice A n c) none (some (.int .i64 (k : Int))) none).run Try.prog w = .ok (.slice A k c) w := by
  have hT : Try.prog.underlying K.TS = some (.slice (Try.prog.elem K.TS)) := by
    have := K.hT
    simp [Program.elem, this]
  have he : Try.prog.elem K.TS = K.T := by
    have := K.hT
    simp [Program.elem, this]
  rw [run_slice_h w K.TS A n c hT .i64 (k : Int) (by omega) (by omega), he, K.size]
  by_cases h : c = 0
  · have : k = 0 := by omega
    subst h this
    simp [Result.andThen, sliced]
  · simp [Result.andThen, sliced, h]
    cases A <;> simp [Addr.add]
/-- append, of a slice of one. -/
theorem run_append_k {b c : Nat} {x : α} (h : K.Row w v es) (hlen : es.length ≤ 100000) (hc : ∀ i u, (K.cells x)[i]? = some u → w.cell? ⟨b, i, none⟩ = some u) (ty : TypeId) :
    ∃ v' w', (Builtin.append_ #[K.TS, K.TS] ty #[v, .slice (some ⟨b, 0, none⟩) 1 c]).run Try.prog w = .ok v' w' ∧ K.Row w' v' (es ++ [x]) ∧ w.grownBy w' v.ownBlock ∧ (v'.ownBlock = v.ownBlock ∨ v'.ownBlock = some w.heap.size) := by
  obtain ⟨i0, hi0, hz0, hzs, hzb⟩ := info_parts K.info
  have hby := K.hby
  obtain ⟨v', w', hrun, h2, h3, _, h5⟩ := run_append_own_at (P := Try.prog) w 0 K.TS ty K.T i0 _ K.m K.bytes K.hT hi0 hz0 hzs hzb K.hz K.hm v es.length (K.flat es) h ⟨b, 0, none⟩ 1 c (K.cells x) (by rw [K.len]; simp)
    (fun j u hu => by rw [addr_add, Nat.zero_add]; exact hc j u hu) (K.one x) (by simp only [maxLen]; omega) (by
      calc (es.length + 1) * K.bytes ≤ 100001 * 1000 := Nat.mul_le_mul (by omega) hby
        _ ≤ 140737488355328 := by decide) (Nat.zero_le _)
  refine ⟨v', w', hrun, ?_, h3, h5⟩
  unfold Kd.Row
  rw [List.length_append, kf_append, List.length_singleton, show K.flat [x] = K.cells x by simp [Kd.flat]]
  exact h2
end
theorem exec_append_run {P : Program} {o : Oper} {a : Act} {w w' : World} {v u v' : Value} (s y : Operand) (T : TypeId) (ho : o.op = .call { callee := .builtin .append, args := #[s, y], argTypes := #[T, T] }) (hs : a.eval s = v) (hy : a.eval y = u) (hr : (Builtin.append_ #[T, T] o.type #[v, u]).run P w = .ok v' w') : (execOp a.eval o).run P w = .ok (.value v') w' := by
  simp [execOp, ho, resolve, invoke, builtin, hs, hy, hr, Result.andThen]
/-- A row, as a thing of a call's own. -/
def Res.row {α : Type} (K : Kd α) (v : Value) (es : List α) : Res where
  At := fun W S => K.Row W v es ∧ ∀ k, v.ownBlock = some k → S k
  keep := fun h hk hd => ⟨h.1.keep hk (fun k e => hd k (h.2 k e)), h.2⟩
  mono := fun h hs => ⟨h.1, fun k e => hs k (h.2 k e) (h.1.lt k e)⟩
end Go.Proofs.Ythkocbfioegcnaa
