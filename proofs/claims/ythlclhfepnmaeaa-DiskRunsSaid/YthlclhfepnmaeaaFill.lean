/-
  What 'build' and 'buildSlice' make of parts of many cells: laid one over the other, no cell reckoned by itself.
-/
import Derived.Test.YthlclhfepnmaeaaMem
import Derived.Laws.Tables
import Derived.Great.BuildSlice
namespace Go.Proofs.Ythlclhfepnmaeaa
open Go.RowKit

/-- cs laid over L from place off on. -/
def lay (L : List Value) (off : Nat) (cs : List Value) : List Value := L.take off ++ (cs ++ L.drop (off + cs.length))
theorem lay_length (L : List Value) (off : Nat) (cs : List Value) (h : off + cs.length ≤ L.length) : (lay L off cs).length = L.length := by simp [lay]; omega
theorem lay_whole (L cs : List Value) (h : cs.length = L.length) : lay L 0 cs = cs := by simp [lay, h]
theorem lay_at (A B C : List Value) : lay (A ++ B) A.length C = A ++ (C ++ B.drop C.length) := by
  unfold lay
  rw [List.take_left, List.drop_append, List.drop_eq_nil_of_le (by omega), List.nil_append]
  congr 3; omega
theorem fold_lay (off : Nat) : ∀ (vs : List Value) (k : Nat) (cs : Array Value), off + k + vs.length ≤ cs.size →
    (((vs.zipIdx k).foldl (fun cs x => cs.setIfInBounds (off + x.2) x.1) cs)).toList = cs.toList.take (off + k) ++ (vs ++ cs.toList.drop (off + k + vs.length))
  | [], k, cs, _ => by simp
  | v :: r, k, cs, h => by
    simp only [List.length_cons] at h
    rw [List.zipIdx_cons, List.foldl_cons, fold_lay off r (k + 1) _ (by simp; omega)]
    have hlt : off + k < cs.toList.length := by simpa using (by omega : off + k < cs.size)
    rw [Array.toList_setIfInBounds]
    have e1 : (cs.toList.set (off + k) v).take (off + (k + 1)) = cs.toList.take (off + k) ++ [v] := by
      rw [show off + (k + 1) = (off + k) + 1 by omega, List.take_succ_eq_append_getElem (by simpa using hlt), List.take_set_of_le (Nat.le_refl _)]
      simp
    have e2 : (cs.toList.set (off + k) v).drop (off + (k + 1) + r.length) = cs.toList.drop (off + k + (r.length + 1)) := by
      rw [List.drop_set_of_lt (by omega)]
      congr 1; omega
    rw [e1, e2]
    simp
theorem fill_step {place : Nat → Option (Nat × Nat)} {cells : Array Value} {i off size : Nat} {v : Value} {rest : List (Nat × Value)} (hp : place i = some (off, size)) (hs : v.cells.size = size) (hle : off + size ≤ cells.size) :
    Instr.fill place cells ((i, v) :: rest) = Instr.fill place (lay cells.toList off v.cells.toList).toArray rest := by
  have h1 : (v.cells.zipIdx.foldl (fun cs x => cs.setIfInBounds (off + x.2) x.1) cells) = (lay cells.toList off v.cells.toList).toArray := by
    apply Array.toList_inj.1
    rw [← Array.foldl_toList, Array.toList_zipIdx]
    have := fold_lay off v.cells.toList 0 cells (by simp; omega)
    rw [Nat.add_zero] at this
    rw [this]
    simp [lay]
  simp only [Instr.fill, hp]
  rw [if_neg (by simp; omega)]
  exact congrArg (fun c => Instr.fill place c rest) h1
theorem fill_done {place : Nat → Option (Nat × Nat)} {cells : Array Value} : Instr.fill place cells [] = some cells := rfl
/-- A slice of one element, whole. -/
theorem run_slice_one {P : Program} (w : World) (t e : TypeId) (cells z : Array Value) (size bytes : Nat) (hu : P.underlying t = some (.slice e)) (hinfo : (P.info? e).map (fun i => (i.zero, i.size, i.bytes)) = some (some (.agg z), size, bytes))
    (hc : cells.size = size) (hsmall : size ≤ 16777216) (hpos : 0 < size) :
    (Instr.buildSlice t 1 #[(0, .agg cells)]).run P w = .ok (.slice (some ⟨w.heap.size, 0, none⟩) 1 1) (w.alloc (.cells cells e)) := by
  cases hq : P.info? e with
  | none => simp [hq] at hinfo
  | some i =>
    simp only [hq, Option.map_some, Option.some.injEq, Prod.mk.injEq] at hinfo
    obtain ⟨hz, hs, _⟩ := hinfo
    refine run_buildSlice w t e 1 _ cells i (.agg z) hu hq hz (by rw [hs]; omega) (by rw [hs]; omega) ?_
    show Instr.fill _ _ [(0, .agg cells)] = _
    have hv : (Value.agg cells).cells = cells := rfl
    refine (fill_step (v := .agg cells) (off := 0) (size := size) (by simp [hs]) hc (by simp [hs])).trans ?_
    rw [fill_done, lay_whole _ _ (by simp [hs, hc, hv]), hv]
/-- A struct of three parts, each whole, side by side. -/
theorem run_build3 {P : Program} (w : World) (t : TypeId) (fields : Array Field) (z : Array Value) (size bytes s0 s1 s2 : Nat) (v0 v1 v2 : Value) (hu : P.underlying t = some (.struct fields))
    (hinfo : (P.info? t).map (fun i => (i.zero, i.size, i.bytes)) = some (some (.agg z), size, bytes)) (hz : z.size = s0 + s1 + s2)
    (hf : fields.toList.mapM (fun f => (P.info? f.type).map fun i => (f.offset, i.size)) = some [(0, s0), (s0, s1), (s0 + s1, s2)])
    (h0 : v0.cells.size = s0) (h1 : v1.cells.size = s1) (h2 : v2.cells.size = s2) :
    (Instr.build t #[(0, v0), (1, v1), (2, v2)]).run P w = .ok (.agg (v0.cells.toList ++ (v1.cells.toList ++ v2.cells.toList)).toArray) w := by
  refine run_build w t _ _ ?_
  cases hq : P.info? t with
  | none => simp [hq] at hinfo
  | some i =>
    simp only [hq, Option.map_some, Option.some.injEq, Prod.mk.injEq] at hinfo
    unfold Program.built
    simp only [hq, hu, hinfo.1, hf]
    show Instr.fill _ (Value.agg z).cells [(0, v0), (1, v1), (2, v2)] = _
    have hzl : (Value.agg z).cells.toList.length = s0 + s1 + s2 := by rw [Array.length_toList]; exact hz
    rw [← Array.length_toList] at h0 h1 h2
    rw [fill_step (off := 0) (size := s0) rfl (by rw [← Array.length_toList]; exact h0) (by rw [← Array.length_toList]; omega)]
    rw [fill_step (off := s0) (size := s1) rfl (by rw [← Array.length_toList]; exact h1) (by rw [List.size_toArray, lay_length _ _ _ (by omega)]; omega)]
    rw [fill_step (off := s0 + s1) (size := s2) rfl (by rw [← Array.length_toList]; exact h2) (by rw [List.size_toArray, List.toList_toArray, lay_length _ _ _ (by rw [lay_length _ _ _ (by omega)]; omega), lay_length _ _ _ (by omega)]; omega), fill_done]
    rw [List.toList_toArray, List.toList_toArray]
    generalize (Value.agg z).cells.toList = Z at *
    generalize v0.cells.toList = a at *
    generalize v1.cells.toList = b at *
    generalize v2.cells.toList = c at *
    subst h0 h1 h2
    have e0 : lay Z 0 a = a ++ Z.drop a.length := by simp [lay]
    rw [e0, lay_at, ← List.append_assoc, ← List.length_append, lay_at]
    rw [List.drop_eq_nil_of_le (by simp; omega), List.append_nil, List.append_assoc]
/-- The two as operations anywhere. -/
theorem wp_build_run {P : Program} {o : Oper} {a : Act} {w w' : World} {K : Act → World → Prop} {Q : Exit → Act → World → Prop} (t : TypeId) (parts : Array (Nat × Operand)) (ho : o.op = .build t parts) {v : Value}
    (hr : (Instr.build t (parts.map fun (i, x) => (i, a.eval x))).run P w = .ok v w') (h : K (a.put o.dst v) w') : o.wp P a w K Q := by
  unfold Oper.wp execOp
  simp only [ho, Sem.run_bind, hr, Result.andThen_ok]
  exact h
theorem wp_slice_run {P : Program} {o : Oper} {a : Act} {w w' : World} {K : Act → World → Prop} {Q : Exit → Act → World → Prop} (t : TypeId) (len : Nat) (parts : Array (Nat × Operand)) (ho : o.op = .buildSlice t len parts) {v : Value}
    (hr : (Instr.buildSlice t len (parts.map fun (i, x) => (i, a.eval x))).run P w = .ok v w') (h : K (a.put o.dst v) w') : o.wp P a w K Q := by
  unfold Oper.wp execOp
  simp only [ho, Sem.run_bind, hr, Result.andThen_ok]
  exact h
end Go.Proofs.Ythlclhfepnmaeaa
