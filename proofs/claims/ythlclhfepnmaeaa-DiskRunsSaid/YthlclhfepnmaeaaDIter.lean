/-
  Contract: slices.Backward over a region's changes.
-/
import Derived.RangeFuncNested
import Derived.RangeFuncBound
import Derived.RangeFuncCalls
import Derived.RangeFuncLeaves
import Derived.Shelf.Abstract
import Derived.Shelf.RegionOpen
import Derived.WalkKit
import Derived.OwnWalkIn
import Derived.TacticsInMore
import Derived.LoopNIn
import Derived.LoopIn
import Derived.Test.YthlclhfepnmaeaaDWrite
import Derived.Test.YthlclhfepnmaeaaMidIn
namespace Go.Proofs.Ythlclhfepnmaeaa
open Go.RowKit Go.Shelf

attribute [local go_sem] Oper.semAt_some

/-- A change that fits a region of n sectors. -/
abbrev FC (n : Nat) := { c : Chg // c.place < n ∧ c.before.length = 64 ∧ c.after.length = 64 }
abbrev NC (n : Nat) := Nat × FC n
def encB {n : Nat} (x : NC n) : Array Value := #[.int .i64 (x.1 : Int), .agg (ccells x.2.1).toArray]
/-- What comes: the last one first. -/
def backs {n : Nat} (cl : List (FC n)) : List (NC n) := (cl.zipIdx.map fun p => (p.2, p.1)).reverse
theorem backs_length {n : Nat} (cl : List (FC n)) : (backs cl).length = cl.length := by simp [backs]
theorem backs_get {n : Nat} (cl : List (FC n)) (k q : Nat) (hk : k < cl.length) (hq : q + k + 1 = cl.length) (h1 : k < (backs cl).length) : (backs cl)[k] = (q, cl[q]'(by omega)) := by
  simp only [backs, List.getElem_reverse, List.getElem_map, List.getElem_zipIdx, List.length_map, List.length_zipIdx]
  have : cl.length - 1 - k = q := by omega
  simp [this]
theorem take_next {α : Type} (l : List α) (k : Nat) (h : k < l.length) : l.take (k + 1) = l.take k ++ [l[k]] := by
  rw [List.take_succ_eq_append_getElem h]
/-- Those blocks are as they were. -/
def Same (Q : Nat → Prop) (W W' : World) : Prop := ∀ k, Q k → W'.heap[k]? = W.heap[k]?
theorem Same.refl (Q : Nat → Prop) (W : World) : Same Q W W := fun _ _ => rfl
theorem Same.trans {Q : Nat → Prop} {A B C : World} (h : Same Q A B) (k : Same Q B C) : Same Q A C := fun i hi => (k i hi).trans (h i hi)
theorem Same.cell {Q : Nat → Prop} {A B : World} (h : Same Q A B) {p : Addr} (hp : Q p.block) : B.cell? p = A.cell? p := World.cell?_of_block (h _ hp)
theorem chInfo (c : Chg) (h1 : c.before.length = 64) (h2 : c.after.length = 64) : (Try.prog.info? 64).map (·.size) = some (ccells c).length := by
  rw [ccells_length c h1 h2]; kernel_rfl

set_option maxRecDepth 100000 in
set_option maxHeartbeats 2000000 in
theorem back1_in {m : Nat} (F : Fence) (n : Nat) (hF : F.fn 22) (hro : F.round = none) (hn : 1 ≤ n) (l Bs p len cap : Nat) (A : Option Addr) (cl : List (FC m)) (hlen : cl.length = len) (hA : 0 < len → A = some ⟨p, 0, none⟩) (hb : len ≤ 1000000)
    (J Jx : List (NC m) → World → Prop)
    (hY : ∀ pre x W, J pre W → pre.length < len → YieldAt F (n - 1) Try.prog l (encB x) W fun e W' =>
      (e = .returned (.bool true) ∧ J (pre ++ [x]) W' ∧ Same (fun k => k = Bs ∨ k = p) W W') ∨ (e = .returned (.bool false) ∧ Jx (pre ++ [x]) W'))
    (W : World) (hBs : W.cell? ⟨Bs, 0, none⟩ = some (.slice A len cap)) (hc : ∀ (j : Nat) (h : j < cl.length), W.rangeAt p (j * 129) (ccells cl[j].1)) (h0 : J [] W) :
    CallsIn F n Try.prog 22 #[.func (.yield l) #[] #[], .pointer (some ⟨Bs, 0, none⟩)] W fun e W' => (∃ v, e = .returned v) ∧
      ((∃ ys, ys = backs cl ∧ J ys W') ∨ (∃ pre : List (NC m), True ∧ Jx pre W')) := by
  refine callsIn_of_wp Try.func22 rfl hF ?_ hro
  simp only [Try.ntmps22, List.size_toArray, List.length_cons, List.length_nil, Nat.reduceAdd, Nat.reduceSub, Array.replicate_succ, Array.replicate_zero, List.push_toArray, List.append_toArray, List.nil_append, List.cons_append]
  have HL := hide hlen
  have HA := hide hA
  clear hlen hA
  gi_wp2
  gi_loopw [3] (fun i wr => ∃ (k : Nat) (z : Int), k ≤ len ∧ i = .int .i64 z ∧ Hid (z = (len : Int) - 1 - (k : Int)) ∧ J ((backs cl).take k) wr ∧ Same (fun k => k = Bs ∨ k = p) W wr)
    (fun i _ => (intOf i + 1).toNat)
  case atStart => exact ⟨0, _, Nat.zero_le _, rfl, hide (by omega), by simpa using h0, Same.refl _ _⟩
  case round =>
    obtain ⟨k, z, hk, rfl, hz, hJs, hsame⟩ := hrel
    have hBx := (hsame.cell (p := ⟨Bs, 0, none⟩) (.inl rfl)).trans hBs
    by_cases hlt : k < len
    · obtain ⟨q, rfl⟩ : ∃ q : Nat, z = (q : Int) := ⟨z.toNat, by have := hz.out; omega⟩
      have hqk := hz.out
      have hql : q < cl.length := by rw [HL.out]; omega
      have hkl : k < (backs cl).length := by rw [backs_length, HL.out]; exact hlt
      have hx : (backs cl)[k]'hkl = (q, cl[q]'hql) := backs_get cl k q (by rw [HL.out]; exact hlt) (by rw [HL.out]; omega) hkl
      obtain rfl := HA.out (by omega)
      obtain ⟨fn, tmps, assign, body, hy, hR⟩ := hY _ (q, cl[q]) wr hJs (by rw [List.length_take, backs_length, HL.out]; omega)
      unfold encB at hy
      dsimp only at hy
      have hrg : wr.rangeAt p (q * 129) (ccells cl[q].1) := fun j v hv => (hsame.cell (p := ⟨p, q * 129 + j, none⟩) (.inr rfl)).trans (hc q hql j v hv)
      have HRG := hide hrg
      have hq0 : (0 : Int) ≤ (q : Int) := by omega
      have hq1 : (q : Int) < (len : Int) := by omega
      have HQ := hide hqk
      have HX := hide hx
      clear hqk hx hrg hz
      gi_wp2_with ((with_reducible refine wpListIn_load_mid rfl 64 (.tmp 15) rfl p (q * 129) rfl (ccells cl[q].1) _ ?_ Try.underlying64 ?_ ?_ ?_); exact HRG.out; rfl; exact (chInfo _ cl[q].2.2.1 cl[q].2.2.2))
      refine hR.mono ?_
      rintro e W3 (⟨rfl, hJ3, hk3⟩ | ⟨rfl, hJx3⟩)
      · gi_wp2
        go_roundw
        case rel => exact ⟨k + 1, (q : Int) - 1, by omega, rfl, hide (by have := HQ.out; omega), by rw [take_next _ _ hkl, HX.out]; exact hJ3, hsame.trans hk3⟩
        case measure => simp [intOf]
      · gi_wp2
        refine bodyPost_ret (results_none rfl _ _ _) rfl ?_
        exact ⟨⟨_, rfl⟩, .inr ⟨_, trivial, hJx3⟩⟩
    · obtain rfl : k = len := by omega
      have hz' : z = -1 := by have := hz.out; omega
      subst hz'
      clear hz
      gi_wp2
      go_end0
      exact ⟨⟨_, rfl⟩, .inl ⟨_, rfl, by rw [List.take_of_length_le (by rw [backs_length, HL.out]; exact Nat.le_refl _)] at hJs; exact hJs⟩⟩
set_option maxHeartbeats 1000000 in
/-- slices.Backward(s): the slice is boxed; the function value captures the box. -/
theorem back_in (F : Fence) (n : Nat) (hF : F.fn 21) (hro : F.round = none) (a : Option Addr) (len cap : Nat) (w : World) :
    CallsIn F n Try.prog 21 #[.slice a len cap] w fun e w' => e = .returned (.func (.func 22) #[] #[.pointer (some ⟨w.heap.size, 0, none⟩)]) ∧ w' = w.alloc (.cells #[.slice a len cap] 54) := by
  refine callsIn_of_wp Try.func21 rfl hF ?_ hro
  simp only [Try.ntmps21, List.size_toArray, List.length_cons, List.length_nil, Nat.reduceAdd, Nat.reduceSub, Array.replicate_succ, Array.replicate_zero, List.push_toArray, List.append_toArray, List.nil_append, List.cons_append]
  gi_wp2
  go_ret
  exact ⟨rfl, rfl⟩
theorem back_stops {m : Nat} (F : Fence) (n : Nat) (hF : F.fn 22) (hro : F.round = none) (hn : 1 ≤ n) (Bs p len cap : Nat) (A : Option Addr) (cl : List (FC m)) (hlen : cl.length = len) (hA : 0 < len → A = some ⟨p, 0, none⟩) (hb : len ≤ 1000000)
    (w : World) (hBl : Bs < w.heap.size) (hpl : 0 < len → p < w.heap.size) (hBs : w.cell? ⟨Bs, 0, none⟩ = some (.slice A len cap)) (hc : ∀ (j : Nat) (h : j < cl.length), w.rangeAt p (j * 129) (ccells cl[j].1)) :
    SeqStopsK F n Try.prog 22 #[.pointer (some ⟨Bs, 0, none⟩)] encB (Same (fun k => k = Bs ∨ k = p)) (fun ys => ys = backs cl) (fun _ => True) len w := fun l J Jx W hW _ _ hY h0 =>
  back1_in F n hF hro hn l Bs p len cap A cl hlen hA hb J Jx hY W ((hW.cell (p := ⟨Bs, 0, none⟩) hBl).trans hBs) (fun j h i v hv => (hW.cell (p := ⟨p, j * 129 + i, none⟩) (hpl (by omega))).trans (hc j h i v hv)) h0
theorem sameK_b {Q : Nat → Prop} {w : World} (hQ : ∀ k, Q k → k < w.heap.size) (W : World) (l : Nat) (o o' : Obj) (hl : w.heap.size ≤ l) (_ : W.heap[l]? = some o) (_ : o.isCells = false) (_ : o.isWalk = false) : Same Q W (W.putObj l o') :=
  fun k hk => World.putObj_heap_other (by have := hQ k hk; omega)
end Go.Proofs.Ythlclhfepnmaeaa
