/-
  Rows of one's own: exchanged, one taken out; the law's light.
-/
import Derived.Test.YthkocbfioegcnaaDe14
namespace Go.Proofs.Ythkocbfioegcnaa
open Go.RowKit
set_option maxRecDepth 20000
set_option linter.unusedSimpArgs false
set_option linter.unusedVariables false

/-- The same memory. -/
structure Heaps (W w : World) : Prop where
  heap : w.heap = W.heap
  os : w.os = W.os
  tape : w.tape = W.tape
  output : w.output = W.output
theorem Heaps.refl (W : World) : Heaps W W := ⟨rfl, rfl, rfl, rfl⟩
theorem Heaps.drew (W : World) : Heaps W W.drew := ⟨rfl, rfl, rfl, rfl⟩
theorem Heaps.below {W w : World} (h : Heaps W w) : Below W.heap.size W w := ⟨h.os, h.tape, h.output, by rw [h.heap]; exact Nat.le_refl _, fun k _ => by rw [h.heap]⟩
theorem Heaps.setCell {W w : World} (h : Heaps W w) (p : Addr) (u : Value) : Heaps (W.setCell p u) (w.setCell p u) :=
  ⟨by unfold World.setCell; simp only [h.heap], h.os, h.tape, h.output⟩
def set3 (W : World) (g o : Nat) (x : Rw) : World := ((W.setCell ⟨g, o, none⟩ (.int .i64 x.t)).setCell ⟨g, o + 1, none⟩ (.string x.k)).setCell ⟨g, o + 2, none⟩ (.string x.v)
theorem Heaps.set3 {W w : World} (h : Heaps W w) (g o : Nat) (x : Rw) : Heaps (Go.Proofs.Ythkocbfioegcnaa.set3 W g o x) (Go.Proofs.Ythkocbfioegcnaa.set3 w g o x) := ((h.setCell _ _).setCell _ _).setCell _ _
theorem set3_kept (w : World) (g o : Nat) (x : Rw) : Kept (fun k => k = g) w (set3 w g o x) :=
  ((Kept.setCell w ⟨g, o, none⟩ _).trans_same (Kept.setCell _ ⟨g, o + 1, none⟩ _)).trans_same (Kept.setCell _ ⟨g, o + 2, none⟩ _)
section
variable {w : World} {g n c : Nat} {es : List Rw}
theorem row_at (h : rwK.Row w (.slice (some ⟨g, 0, none⟩) n c) es) {j : Nat} {x : Rw} (hj : es[j]? = some x) :
    w.cell? ⟨g, j * 3, none⟩ = some (.int .i64 x.t) ∧ w.cell? ⟨g, j * 3 + 1, none⟩ = some (.string x.k) ∧ w.cell? ⟨g, j * 3 + 2, none⟩ = some (.string x.v) :=
  ⟨h.cells hj 0 _ rfl, h.cells hj 1 _ rfl, h.cells hj 2 _ rfl⟩
theorem row_put3 (h : rwK.Row w (.slice (some ⟨g, 0, none⟩) n c) es) {j : Nat} (hj : j < es.length) (x : Rw) : rwK.Row (set3 w g (j * 3) x) (.slice (some ⟨g, 0, none⟩) n c) (es.set j x) := by
  obtain ⟨z, hz⟩ : ∃ z, es[j]? = some z := ⟨_, List.getElem?_eq_getElem hj⟩
  have h1 := Kd.Row.put h (j := j) (i := 0) (x := z) (y := ⟨x.t, z.k, z.v⟩) (u := .int .i64 x.t) hz (by decide) rfl
  have h2 := Kd.Row.put h1 (j := j) (i := 1) (x := ⟨x.t, z.k, z.v⟩) (y := ⟨x.t, x.k, z.v⟩) (u := .string x.k) (by rw [List.getElem?_set_self hj]) (by decide) rfl
  have h3 := Kd.Row.put h2 (j := j) (i := 2) (x := ⟨x.t, x.k, z.v⟩) (y := x) (u := .string x.v) (by rw [List.set_set, List.getElem?_set_self hj]) (by decide) rfl
  rw [List.set_set, List.set_set] at h3
  exact h3
def hiR (A : Option Addr) (c k : Nat) : Option Addr := if c = k then A else A.map (·.add (k * 3))
theorem sliceR : Try.prog.underlying 22 = some (.slice (Try.prog.elem 22)) := by kernel_rfl
theorem sizeR (w : World) : (sizeOf (Try.prog.elem 22)).run Try.prog w = .ok 3 w := by kernel_rfl
theorem run_highR (A : Option Addr) (n c k : Nat) (hk : k ≤ n) (hc : n ≤ c) (w : World) : (Instr.slice 22 (.slice A n c) (some (.int .i64 (k : Int))) none none).run Try.prog w = .ok (.slice (hiR A c k) (n - k) (c - k)) w := by
  rw [run_slice_l w 22 A n c sliceR .i64 (k : Int) (by omega) (by omega), sizeR]
  simp [Result.andThen, sliced, hiR]
theorem run_lowR (A : Option Addr) (n c k : Nat) (hk : k ≤ c) (w : World) : (Instr.slice 22 (.slice A n c) none (some (.int .i64 (k : Int))) none).run Try.prog w = .ok (.slice A k c) w := run_lowK rwK A n c k hk w
theorem exec_lowR {o : Oper} {a : Act} {w : World} {x y : Operand} {A : Option Addr} {n c : Nat} (k : Nat) (ho : o.op = .slice 22 x none (some y) none) (hx : a.eval x = .slice A n c) (hy : a.eval y = .int .i64 (k : Int)) (hk : k ≤ c) :
    (execOp a.eval o).run Try.prog w = .ok (.value (.slice A k c)) w := by
  have hr := run_lowR A n c k hk w
  unfold execOp
  simp only [ho, hx, hy, Option.map_some, Option.map_none, Sem.run_bind, run_sliceAt_slice (P := Try.prog) (w := w) (h := sliceR), hr, Result.andThen_ok, Sem.run_pure]
theorem exec_highR {o : Oper} {a : Act} {w : World} {x y : Operand} {A : Option Addr} {n c : Nat} (k : Nat) (ho : o.op = .slice 22 x (some y) none none) (hx : a.eval x = .slice A n c) (hy : a.eval y = .int .i64 (k : Int)) (hk : k ≤ n) (hc : n ≤ c) :
    (execOp a.eval o).run Try.prog w = .ok (.value (.slice (hiR A c k) (n - k) (c - k))) w := by
  have hr := run_highR A n c k hk hc w
  unfold execOp
  simp only [ho, hx, hy, Option.map_some, Option.map_none, Sem.run_bind, run_sliceAt_slice (P := Try.prog) (w := w) (h := sliceR), hr, Result.andThen_ok, Sem.run_pure]
theorem kf_drop {α : Type} (K : Kd α) : ∀ (es : List α) (k : Nat), (K.flat es).drop (k * K.m) = K.flat (es.drop k)
  | [], k => by simp [Kd.flat]
  | a :: es, 0 => by simp
  | a :: es, k + 1 => by
    rw [List.drop_succ_cons, kf_cons, ← kf_drop K es k, show (k + 1) * K.m = (K.cells a).length + k * K.m by rw [K.len, Nat.add_mul]; omega, List.drop_append, List.drop_eq_nil_of_le (by omega), Nat.add_sub_cancel_left, List.nil_append]
/-- One taken out: append(l[:q], l[q+1:]...). -/
theorem del_run (h : rwK.Row w (.slice (some ⟨g, 0, none⟩) n c) es) {q : Nat} (hq : q < n) (hl : n ≤ 1000) (ty : TypeId) :
    ∃ v' w', (Builtin.append_ #[22, 22] ty #[.slice (some ⟨g, 0, none⟩) q c, .slice (hiR (some ⟨g, 0, none⟩) c (q + 1)) (n - (q + 1)) (c - (q + 1))]).run Try.prog w = .ok v' w' ∧ rwK.Row w' v' (es.take q ++ es.drop (q + 1)) ∧ w.grownBy w' (some g) ∧ (v'.ownBlock = some g ∨ v'.ownBlock = some w.heap.size) := by
  obtain ⟨rfl, hc⟩ := h.cap
  obtain ⟨i0, hi0, hz0, hzs, hzb⟩ := info_parts rwK.info
  have hlow := h.low (k := q) (by omega)
  have hlen : (es.take q).length = q := by rw [List.length_take]; omega
  have hlow2 : w.ownsRow 0 32 3 (.slice (some ⟨g, 0, none⟩) q c) q (rwK.flat (es.take q)) := by
    have := hlow
    unfold Kd.Row at this
    rw [hlen] at this
    exact this
  obtain ⟨ad, had, hcell⟩ : ∃ ad, hiR (some ⟨g, 0, none⟩) c (q + 1) = some ad ∧ ∀ (j : Nat) u, (rwK.flat (es.drop (q + 1)))[j]? = some u → w.cell? (ad.add j) = some u := by
    by_cases e : c = q + 1
    · refine ⟨⟨g, 0, none⟩, if_pos e, fun j u hu => ?_⟩
      rw [List.drop_eq_nil_of_le (by omega)] at hu
      simp [Kd.flat] at hu
    · refine ⟨⟨g, (q + 1) * 3, none⟩, ?_, fun j u hu => ?_⟩
      · unfold hiR
        rw [if_neg e]
        show some ((⟨g, 0, none⟩ : Addr).add ((q + 1) * 3)) = _
        rw [addr_add, Nat.zero_add]
      · rw [addr_add]
        rw [← kf_drop rwK es (q + 1), List.getElem?_drop] at hu
        have hlt := (List.getElem?_eq_some_iff.1 hu).1
        rw [kf_length] at hlt
        exact (World.ownsRow.cellAt h ((q + 1) * 3 + j) hlt).trans hu
  rw [had]
  obtain ⟨v', w', hrun, h2, h3, _, h5⟩ := run_append_own_at (P := Try.prog) w 0 22 ty 32 i0 rwK.z 3 40 rwK.hT hi0 hz0 hzs hzb rwK.hz (by decide) _ q (rwK.flat (es.take q)) hlow2 ad (es.length - (q + 1)) (c - (q + 1)) (rwK.flat (es.drop (q + 1))) (by rw [kf_length, List.length_drop]; rfl)
    hcell (kf_one rwK _) (by unfold maxLen; omega) (by omega) (Nat.zero_le _)
  refine ⟨v', w', hrun, ?_, h3, h5⟩
  unfold Kd.Row
  rw [List.length_append, hlen, List.length_drop, kf_append]
  exact h2
end
/-- What stands ahead of a row on its way down, and itself. -/
theorem mid_at {ys : List Rw} {x a : Rw} {p : Nat} (hp : ys[p]? = some a) : (ys.take (p + 1) ++ x :: ys.drop (p + 1))[p]? = some a ∧ (ys.take (p + 1) ++ x :: ys.drop (p + 1))[p + 1]? = some x := by
  have hlt : p < ys.length := (List.getElem?_eq_some_iff.1 hp).1
  have hl : (ys.take (p + 1)).length = p + 1 := by rw [List.length_take]; omega
  constructor
  · rw [List.getElem?_append_left (by omega), List.getElem?_take, if_pos (by omega)]
    exact hp
  · rw [List.getElem?_append_right (by omega), hl, Nat.sub_self]
    rfl
theorem mid_len {ys : List Rw} {x : Rw} {q : Nat} (hq : q ≤ ys.length) : (ys.take q ++ x :: ys.drop q).length = ys.length + 1 := by
  rw [List.length_append, List.length_cons, List.length_take, List.length_drop]
  omega
theorem swap_down14 {ys : List Rw} {x a : Rw} {p : Nat} (hp : ys[p]? = some a) : ((ys.take (p + 1) ++ x :: ys.drop (p + 1)).set (p + 1) a).set p x = ys.take p ++ x :: ys.drop p := by
  have hlt : p < ys.length := (List.getElem?_eq_some_iff.1 hp).1
  have e := (List.getElem?_eq_some_iff.1 hp).2
  have hl : (ys.take p).length = p := by rw [List.length_take]; omega
  have h1 : ys.take (p + 1) = ys.take p ++ [a] := by rw [List.take_add_one, hp]; rfl
  have h2 : ys.drop p = a :: ys.drop (p + 1) := by rw [List.drop_eq_getElem_cons hlt, e]
  rw [h1, h2, List.append_assoc]
  apply List.ext_getElem?
  intro j
  rcases Nat.lt_or_ge j p with hj | hj
  · rw [List.getElem?_set_ne (by omega), List.getElem?_set_ne (by omega), List.getElem?_append_left (by omega), List.getElem?_append_left (by omega)]
  · obtain ⟨k, rfl⟩ : ∃ k, j = p + k := ⟨j - p, by omega⟩
    rw [List.set_append_right _ _ (by omega), List.set_append_right _ _ (by omega), List.getElem?_append_right (by omega), List.getElem?_append_right (by omega), hl, Nat.add_sub_cancel_left, Nat.sub_self, Nat.add_sub_cancel_left]
    rfl
theorem mid_out {ys : List Rw} {x : Rw} {q : Nat} (hq : q ≤ ys.length) : (ys.take q ++ x :: ys.drop q).take q ++ (ys.take q ++ x :: ys.drop q).drop (q + 1) = ys := by
  have hl : (ys.take q).length = q := by rw [List.length_take]; omega
  rw [List.take_append_of_le_length (by omega), List.take_of_length_le (by omega), List.drop_append, List.drop_eq_nil_of_le (by omega), hl, show q + 1 - q = 1 by omega]
  simp
/-- Are rows few and short? -/
def lightR (l : List Rw) : Bool := decide (l.length ≤ 60) && l.all fun x => !decide (100 < wrap64 ((x.k.size : Int) + (x.v.size : Int)))
theorem lightR_iff {l : List Rw} : lightR l = true ↔ l.length ≤ 60 ∧ ∀ x ∈ l, decide (100 < wrap64 ((x.k.size : Int) + (x.v.size : Int))) = false := by
  unfold lightR
  simp only [Bool.and_eq_true, decide_eq_true_eq, List.all_eq_true, Bool.not_eq_true']
theorem lightR_no {l : List Rw} (h : ¬ (l.length ≤ 60 ∧ ∀ x ∈ l, decide (100 < wrap64 ((x.k.size : Int) + (x.v.size : Int))) = false)) : lightR l = false := Bool.eq_false_iff.2 fun e => h (lightR_iff.1 e)
set_option maxHeartbeats 4000000 in
theorem light_any {w : World} {v : Value} {l : List Rw} (hv : Rws w v l) : Calls Try.prog 12 #[v] w fun e w' => e = .returned (.bool (lightR l)) ∧ Below w.heap.size w w' := by
  obtain ⟨A0, cap, rfl⟩ := hv.form
  have HV := hide hv
  clear hv
  go_enter Try.func12, Try.ntmps12
  by_cases hlen : l.length ≤ 60
  · have hl1 : ¬ (60 : Int) < (l.length : Int) := by omega
    have HLEN := hide hlen
    clear hlen
    go_wp2
    go_loopw [10] (fun i wr => ∃ j : Nat, j ≤ l.length ∧ i = .int .i64 j ∧ Hid (Below w.heap.size w wr) ∧ Hid (∀ x ∈ l.take j, decide (100 < wrap64 ((x.k.size : Int) + (x.v.size : Int))) = false)) (fun i _ => l.length - (intOf i).toNat)
    case atStart => exact ⟨0, by omega, rfl, hide (Below.refl _ _), hide (by simp)⟩
    case round =>
      obtain ⟨j, hj, rfl, hb, ha⟩ := hrel
      by_cases hlt : j < l.length
      · obtain ⟨x, hc⟩ : ∃ x, l[j]? = some x := ⟨_, List.getElem?_eq_getElem hlt⟩
        obtain ⟨b1, o1, rfl, i0, i1, i2⟩ := HV.out.at_ hb.out hc
        have q0 : (0 : Int) ≤ (j : Int) := by omega
        have q1 : (j : Int) < (l.length : Int) := by omega
        have HLT := hide hlt
        have HTK : Hid (l.take (j + 1) = l.take j ++ [x]) := hide (by rw [List.take_add_one, hc]; rfl)
        have HMEM : Hid (x ∈ l) := hide (List.mem_of_getElem? hc)
        clear hlt hc
        obtain ⟨bb, hbb⟩ : ∃ b, decide (100 < wrap64 ((x.k.size : Int) + (x.v.size : Int))) = b := ⟨_, rfl⟩
        cases bb
        · have HB := hide hbb
          go_wp2
          go_roundw
          case rel => exact ⟨j + 1, by have := HLT.out; omega, by go_num, hide (hb.out.alloc hb.out.size _), hide (by rw [HTK.out]; exact fun y hy => (List.mem_append.1 hy).elim (ha.out y) (fun hy => by rw [List.mem_singleton.1 hy]; exact HB.out))⟩
          case measure => simp [intOf]; have := HLT.out; omega
        · have HB := hide hbb
          go_wp2
          go_ret
          rw [lightR_no (fun h => by have := h.2 x HMEM.out; rw [HB.out] at this; cases this)]
          exact ⟨rfl, hb.out.alloc hb.out.size _⟩
      · have q1 : ¬ (j : Int) < (l.length : Int) := by omega
        go_wp2
        go_ret
        rw [lightR_iff.2 ⟨HLEN.out, fun y hy => ha.out y (by rw [List.take_of_length_le (by omega)]; exact hy)⟩]
        exact ⟨rfl, hb.out⟩
  · have hl1 : (60 : Int) < (l.length : Int) := by omega
    go_wp2
    go_ret
    rw [lightR_no (fun h => hlen h.1)]
    exact ⟨rfl, Below.refl _ _⟩
end Go.Proofs.Ythkocbfioegcnaa
