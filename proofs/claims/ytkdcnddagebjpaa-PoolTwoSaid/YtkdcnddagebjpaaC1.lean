/-
  What stages from 8 on lean on beside a lane: rows and pages, part 1 of 1 (put together by merge2.py).
-/
import Derived.Test.YtkdcnddagebjpaaFit
import Derived.WalkLawsBesides
import Derived.Lib.AppendZerosOnto
import Derived.Lib.AppendStr
import Derived.Test.YtkdcnddagebjpaaRows
import Derived.Lib.SmallJoins
import Derived.Lib.ConvBytes
import Derived.Deep.LoopGhost
import Derived.WalkMore
namespace Go.Proofs.Ytkdcnddagebjpaa
set_option linter.unusedSimpArgs false
set_option linter.unusedVariables false
section
/- Contracts of package row: Right. -/
open Go.RowKit

/-- May it be? -/
def rowOkB (t : Int) (k v : ByteArray) : Bool := decide (0 ≤ t) && decide (t < 4) && decide (k.size ≤ 15) && decide (v.size ≤ 21)
theorem rightB_iff {t : Int} {k v : ByteArray} : rowOkB t k v = true ↔ 0 ≤ t ∧ t < 4 ∧ k.size ≤ 15 ∧ v.size ≤ 21 := by
  simp [rowOkB, and_assoc]
theorem rightB_not {t : Int} {k v : ByteArray} (h : rowOkB t k v = false) : t < 0 ∨ (0 ≤ t ∧ 4 ≤ t) ∨ (0 ≤ t ∧ t < 4 ∧ 15 < k.size) ∨ (0 ≤ t ∧ t < 4 ∧ k.size ≤ 15 ∧ 21 < v.size) := by
  have : ¬ (0 ≤ t ∧ t < 4 ∧ k.size ≤ 15 ∧ v.size ≤ 21) := fun e => by rw [rightB_iff.2 e] at h; cases h
  omega
theorem right_yes (t : Int) (k v : ByteArray) (w : World) (h : rowOkB t k v = true) :
    Calls Try.prog 22 #[.agg #[.int .i64 t, .string k, .string v]] w fun e w' => e = .returned (.bool true) ∧ Below w.heap.size w w' := by
  obtain ⟨h1, h2, h3, h4⟩ := rightB_iff.1 h
  clear h
  have e4 : decide ((v.size : Int) ≤ 21) = true := decide_eq_true (by omega)
  go_enter Try.func22, Try.ntmps22
  go_wp2
  go_ret
  exact ⟨rfl, (Below.refl _ _).alloc (Nat.le_refl _) _⟩
theorem right_no (t : Int) (k v : ByteArray) (w : World) (h : rowOkB t k v = false) :
    Calls Try.prog 22 #[.agg #[.int .i64 t, .string k, .string v]] w fun e w' => e = .returned (.bool false) ∧ Below w.heap.size w w' := by
  rcases rightB_not h with h1 | ⟨h0, h1⟩ | ⟨h0, h1, h2⟩ | ⟨h0, h1, h2, h3⟩
  rotate_right
  · have e4 : decide ((v.size : Int) ≤ 21) = false := decide_eq_false (by omega)
    clear h
    go_enter Try.func22, Try.ntmps22
    go_wp2
    go_ret
    exact ⟨rfl, (Below.refl _ _).alloc (Nat.le_refl _) _⟩
  all_goals
    clear h
    go_enter Try.func22, Try.ntmps22
    go_wp2
    go_ret
    exact ⟨rfl, (Below.refl _ _).alloc (Nat.le_refl _) _⟩
theorem row_right_any (t : Int) (k v : ByteArray) (w : World) :
    Calls Try.prog 22 #[.agg #[.int .i64 t, .string k, .string v]] w fun e w' => e = .returned (.bool (rowOkB t k v)) ∧ Below w.heap.size w w' := by
  cases h : rowOkB t k v
  · exact right_no t k v w h
  · exact right_yes t k v w h
end
section
/- append(v, make([]byte, n)...), v a row of the call's own. -/
open Go.RowKit
set_option maxRecDepth 20000

section
variable {P : Program} (w : World)
theorem zeroCells_u8 (k : Nat) : Builtin.zeroCells (Value.int .u8 0).cells k = (u8s (List.replicate k 0)).toArray := by
  rw [show (Value.int .u8 0).cells = #[.int .u8 0] from rfl]
  apply Array.ext
  · simp [Builtin.zeroCells, u8s]
  · intro i h1 h2
    have : i % 1 = 0 := Nat.mod_one i
    simp [Builtin.zeroCells, u8s, this]
theorem run_append_room_zeros (t tn ty e : TypeId) (i : TypeInfo) (kq kn : IntKind) (ht : P.underlying t = some (.slice e)) (htn : P.underlying tn = some (.int kn)) (hi : P.info? e = some i) (hz : i.zero = some (.int .u8 0)) (hs1 : i.size = 1) (hby : i.bytes = 1)
    (g sLen sCap : Nat) (cur : Array Value) (hg : w.heap[g]? = some (.cells cur e (0, 0))) (k : Nat) (h0 : 0 < k)
    (hroom : sLen + k ≤ sCap) (hfit : sLen + k ≤ cur.size) (h48 : k ≤ 140737488355328) :
    (Builtin.append_ #[t, tn] ty #[.slice (some ⟨g, 0, none⟩) sLen sCap, .int kq k]).run P w =
      .ok (.slice (some ⟨g, 0, none⟩) (sLen + k) sCap) (w.setRow g (cur.toList.take sLen ++ u8s (List.replicate k 0) ++ cur.toList.drop (sLen + k)).toArray) := by
  have hst := run_storeCells_at P g sLen e (u8s (List.replicate k 0)) 0 cur w hg (by simpa [u8s_length] using hfit) (oneCell_u8s _)
  simp only [Nat.add_zero, u8s_length, List.length_replicate] at hst
  have hk : k ≠ 0 := by omega
  have hw : IntKind.i64.wrap (k : Int) = k := by rw [IntKind.wrap_i64]; omega
  have hneg : ¬ ((k : Int) < 0) := by omega
  have h48i : ¬ (281474976710656 < (k : Int)) := by omega
  have hzc := zeroCells_u8 k
  simp [Builtin.append_, run_underlying ht, run_underlying htn, sizeOf, typeInfo, zeroValue, hi, hz, hs1, hby, asInt, asIntOf, hw, hk, hneg, h48i, hroom, Addr.add_lit, hzc, hst]
theorem run_append_own_zeros (base : Nat) (t tn ty e : TypeId) (i : TypeInfo) (kn kq : IntKind) (ht : P.underlying t = some (.slice e)) (htn : P.underlying tn = some (.int kn)) (hi : P.info? e = some i) (hz : i.zero = some (.int .u8 0))
    (hsize : i.size = 1) (hby : i.bytes = 1)
    (v : Value) (n : Nat) (xs : List Value) (hown : w.ownsRow base e 1 v n xs) (k : Nat)
    (h63 : n + k ≤ maxLen) (hbytes : n + k ≤ 140737488355328) (hbase : base ≤ w.heap.size) :
    ∃ v' w', (Builtin.append_ #[t, tn] ty #[v, .int kq k]).run P w = .ok v' w' ∧ w'.ownsRow base e 1 v' (n + k) (xs ++ u8s (List.replicate k 0)) ∧ w.grownBy w' v.ownBlock := by
  have hsmall : n + k ≤ 9223372036854775807 := by simp only [maxLen] at h63; omega
  have hxl : xs.length = n := by simpa using hown.1
  have hlen : (xs ++ u8s (List.replicate k 0)).length = (n + k) * 1 := by rw [List.length_append, hxl, u8s_length, List.length_replicate, Nat.mul_one]
  have hw0 : IntKind.i64.wrap (0 : Int) = 0 := by rw [IntKind.wrap_i64]; rfl
  have grown : ∀ (old : Nat), old < n + k → ∀ (row : Option Nat),
      (w.drew.alloc (.cells (xs.toArray ++ Builtin.zeroCells (Value.int .u8 0).cells k ++ Builtin.zeroCells (Value.int .u8 0).cells (grownCap w (n + k) old e - (n + k))) e)).ownsRow base e 1
        (.slice (some ⟨w.heap.size, 0, none⟩) (n + k) (grownCap w (n + k) old e)) (n + k) (xs ++ u8s (List.replicate k 0)) ∧
      w.grownBy (w.drew.alloc (.cells (xs.toArray ++ Builtin.zeroCells (Value.int .u8 0).cells k ++ Builtin.zeroCells (Value.int .u8 0).cells (grownCap w (n + k) old e - (n + k))) e)) row := by
    intro old ho row
    have hge := grownCap_ge w (n + k) old e
    have hcm : grownCap w (n + k) old e ≤ maxLen := grownCap_le_maxLen w (n + k) old e h63
    refine ⟨⟨hlen, .inr ⟨w.heap.size, _, _, rfl, hbase, heap_alloc_new w.drew _, hge, hcm, ?_, ?_⟩⟩, ⟨rfl, rfl, rfl, by simp, fun j hj _ => heap_alloc_old w.drew _ hj⟩⟩
    · have hz1 : (Value.int IntKind.u8 0).cells.size = 1 := rfl
      simp only [Array.size_append, List.size_toArray, size_zeroCells, hz1, hxl]
      omega
    · rw [zeroCells_u8 k]
      simp only [Array.toList_append, List.append_assoc]
      rw [← List.append_assoc, ← hlen]
      exact List.take_left
  rcases Nat.eq_zero_or_pos k with h0 | h0
  · subst h0
    have hx0 : xs ++ u8s (List.replicate 0 0) = xs := by simp [u8s]
    rw [hx0]
    rcases hown.2 with ⟨rfl, rfl⟩ | ⟨g, cap, cur, rfl, hbg, hg, hnc, hcm, hcs, htake⟩
    · exact ⟨.slice none 0 0, w, by simp [Builtin.append_, run_underlying ht, run_underlying htn, sizeOf, typeInfo, hi, hby, asInt, asIntOf, hw0], hown, ⟨rfl, rfl, rfl, Nat.le_refl _, fun _ _ _ => rfl⟩⟩
    · exact ⟨_, w, by simp [Builtin.append_, run_underlying ht, run_underlying htn, sizeOf, typeInfo, hi, hby, asInt, asIntOf, hw0, hnc, storeCells], hown, ⟨rfl, rfl, rfl, Nat.le_refl _, fun _ _ _ => rfl⟩⟩
  rcases hown.2 with ⟨rfl, rfl⟩ | ⟨g, cap, cur, rfl, hbg, hg, hnc, hcm, hcs, htake⟩
  · have hx : xs = [] := List.eq_nil_of_length_eq_zero hxl
    subst hx
    have hr := Lib.run_append_nil_zeros (P := P) w t tn ty e i (.int .u8 0) kq kn ht htn hi hz k h0 (by omega) (by omega) (by rw [hby]; omega)
    have hgr := grown 0 (by omega) (Value.ownBlock (.slice none 0 0))
    simp only [Nat.zero_add, List.nil_append, Array.empty_append] at hgr ⊢
    exact ⟨_, _, hr, hgr.1, hgr.2⟩
  · by_cases hroom : n + k ≤ cap
    · have hcs' : cur.size = cap := by simpa using hcs
      have hr := run_append_room_zeros (P := P) w t tn ty e i kq kn ht htn hi hz hsize hby g n cap cur hg k h0 hroom (by omega) (by omega)
      refine ⟨_, _, hr, ⟨hlen, .inr ⟨g, cap, _, rfl, hbg, setRow_heap w g cur _ e _ hg, hroom, hcm, ?_, ?_⟩⟩, ⟨rfl, rfl, rfl, by simp, fun j _ hj => setRow_other w g j _ (fun e => hj (by simp [Value.ownBlock, e]))⟩⟩
      · simp only [List.size_toArray, List.length_append, List.length_take, List.length_drop, Array.length_toList, u8s_length, List.length_replicate]
        omega
      · have ht' : cur.toList.take n = xs := by simpa using htake
        rw [ht', ← hlen]
        exact List.take_left
    · have holds : ∀ j u, xs[j]? = some u → w.drew.cell? ((⟨g, 0, none⟩ : Addr).add j) = some u := hown.cells (g := g) rfl
      have hf : (Builtin.firstCells i.size n (.slice (some ⟨g, 0, none⟩) n cap)).run P w.drew = .ok xs.toArray w.drew := by
        rw [hsize]
        exact run_firstCells_some (P := P) w.drew 1 n _ n cap xs (by rw [hxl]; omega) holds
      have hr := Lib.run_append_grow_zeros (P := P) w t tn ty e i (.int .u8 0) kq kn ht htn hi hz (some ⟨g, 0, none⟩) n cap xs hf k h0 (by omega) (by omega) (by omega) (by rw [hby]; omega) (by rw [hby]; exact growslice_fits (by omega) (by omega))
      have hgr := grown cap (by omega) (Value.ownBlock (.slice (some ⟨g, 0, none⟩) n cap))
      exact ⟨_, _, hr, hgr.1, hgr.2⟩
/-- The same as one step of a plain region. -/
theorem wpList_append_zeros {w : World} {ops : Array Oper} {rest : List Oper} {o : Oper} {a : Act} {Q : Exit → Act → World → Prop} (hgd : o.guard = none) (sl x : Operand) (t tn : TypeId)
    (ho : o.op = .call { callee := .builtin .append, args := #[sl, x], argTypes := #[t, tn] })
    (base : Nat) (e : TypeId) (i : TypeInfo) (kn kq : IntKind) (ht : P.underlying t = some (.slice e)) (htn : P.underlying tn = some (.int kn)) (hi : P.info? e = some i) (hz : i.zero = some (.int .u8 0))
    (hsize : i.size = 1) (hby : i.bytes = 1)
    (v : Value) (n : Nat) (xs : List Value) (hs : a.eval sl = v) (hown : w.ownsRow base e 1 v n xs) (k : Nat) (hx : a.eval x = .int kq k)
    (h63 : n + k ≤ maxLen) (hbytes : n + k ≤ 140737488355328) (hbase : base ≤ w.heap.size)
    (h : ∀ v' w', w'.ownsRow base e 1 v' (n + k) (xs ++ u8s (List.replicate k 0)) → w.grownBy w' v.ownBlock → wpList P ops Q rest (a.put o.dst v') w') : wpList P ops Q (o :: rest) a w := by
  obtain ⟨v', w', hr, h2, h3⟩ := run_append_own_zeros (P := P) w base t tn o.type e i kn kq ht htn hi hz hsize hby v n xs hown k h63 hbytes hbase
  exact Lib.wpList_append_run w hgd sl x t tn ho v (.int kq k) hs hx v' w' hr (h v' w' h2 h3)
end
end
section
/- Contracts of package row: field, Encode; and Equal of package bytes. -/
open Go.RowKit

/-- A text in the room of the longest one. -/
def fieldL (s : List UInt8) (room : Nat) : List UInt8 := UInt8.ofNat s.length :: s ++ List.replicate (room - s.length) 0
/-- A row's bytes. -/
def encL (t : Nat) (k v : List UInt8) : List UInt8 := [1, UInt8.ofNat t] ++ fieldL k 15 ++ fieldL v 21
theorem fieldL_length (s : List UInt8) (room : Nat) (h : s.length ≤ room) : (fieldL s room).length = room + 1 := by
  simp [fieldL]; omega
theorem encL_length (t : Nat) (k v : List UInt8) (hk : k.length ≤ 15) (hv : v.length ≤ 21) : (encL t k v).length = 40 := by
  simp [encL, fieldL_length _ _ hk, fieldL_length _ _ hv]

/-- b[:k] and b[k:] as operations of a region. -/
theorem exec_low {o : Oper} {a : Act} {w : World} {x : Operand} {A : Option Addr} {n c : Nat} (k : Nat) (ho : o.op = .slice 58 x none (some (.const (.int .i64 (k : Int)))) none) (hx : a.eval x = .slice A n c) (hk : k ≤ c) :
    (execOp a.eval o).run Try.prog w = .ok (.value (.slice A k c)) w := by
  have hr := run_low (P := Try.prog) slice8 size8 A n c k hk w
  have hc : a.eval (.const (.int .i64 (k : Int))) = .int .i64 (k : Int) := rfl
  unfold execOp
  simp only [ho, hx, hc, Option.map_none, Option.map_some, Sem.run_bind, run_sliceAt_slice (P := Try.prog) (w := w) (h := slice8), hr, Result.andThen_ok, Sem.run_pure]
theorem exec_high {o : Oper} {a : Act} {w : World} {x : Operand} {A : Option Addr} {n c : Nat} (k : Nat) (ho : o.op = .slice 58 x (some (.const (.int .i64 (k : Int)))) none none) (hx : a.eval x = .slice A n c) (hk : k ≤ n) :
    (execOp a.eval o).run Try.prog w = .ok (.value (.slice (hiA A c k) (n - k) (c - k))) w := by
  have hr := run_high (P := Try.prog) slice8 size8 A n c k hk w
  have hc : a.eval (.const (.int .i64 (k : Int))) = .int .i64 (k : Int) := rfl
  unfold execOp
  simp only [ho, hx, hc, Option.map_none, Option.map_some, Sem.run_bind, run_sliceAt_slice (P := Try.prog) (w := w) (h := slice8), hr, Result.andThen_ok, Sem.run_pure]
set_option maxHeartbeats 1000000 in
theorem field_any (v : Value) (l : List UInt8) (s : ByteArray) (room : Nat) (w : World) (hm : l.length ≤ 1000) (hr : room ≤ 200) (hs : s.size ≤ room) (hv : Rd w v (u8s l)) :
    Calls Try.prog 54 #[v, .string s, .int .i64 (room : Int)] w fun e w' => ∃ v', e = .returned v' ∧ Mine w' w.heap.size v' (l ++ fieldL s.data.toList room) ∧ Below w.heap.size w w' := by
  obtain ⟨i0, hi, hz0, hz1, hz2⟩ := info_parts info8
  have hsub := hide (show (room : Int) - (s.size : Int) = ((room - s.size : Nat) : Int) by omega)
  have hl3 := hide (show (l ++ UInt8.ofNat s.size :: s.data.toList).length + (room - s.size) ≤ maxLen by unfold maxLen; simp; omega)
  have hl4 := hide (show (l ++ UInt8.ofNat s.size :: s.data.toList).length + (room - s.size) ≤ 140737488355328 by simp; omega)
  go_enter Try.func54, Try.ntmps54
  go_wp2_with (first
    | (go_at_call 79; refine (text_any v l s _ (by omega) (by omega) hv).mono ?_; rintro e w1 ⟨v1, rfl, hown, hb1⟩)
    | (at_builtin; refine wpList_append_zeros rfl (.tmp 9) (.tmp 13) 58 3 rfl w.heap.size 5 i0 .i64 .i64 Try.underlying58 Try.underlying3 hi hz0 hz1 hz2 v1 _ _ rfl hown (room - s.size) (congrArg (Value.int .i64) hsub.out) hl3.out hl4.out hb1.size ?_; intro v2 w2 hown2 hgrow))
  go_ret
  refine ⟨_, rfl, ?_, hb1.grown hgrow hb1.size fun k hk => (World.ownsRow.lt hown k hk).1⟩
  unfold Mine
  have e : l ++ fieldL s.data.toList room = (l ++ UInt8.ofNat s.size :: s.data.toList) ++ List.replicate (room - s.size) 0 := by
    simp [fieldL]
  rw [e, u8s_append, List.length_append, List.length_replicate]
  exact hown2
theorem put_c1 (w : World) : Calls Try.prog 53 #[.slice none 0 0, .int .i64 1, .int .u64 1] w fun e w' => ∃ v', e = .returned v' ∧ Mine w' w.heap.size v' [1] ∧ Below w.heap.size w w' :=
  put_one (.slice none 0 0) [] 1 w (by simp) (Rd.nil_ _ _ _)
theorem field_15 (v : Value) (l : List UInt8) (s : ByteArray) (w : World) (hm : l.length ≤ 1000) (hs : s.size ≤ 15) (hv : Rd w v (u8s l)) :
    Calls Try.prog 54 #[v, .string s, .int .i64 15] w fun e w' => ∃ v', e = .returned v' ∧ Mine w' w.heap.size v' (l ++ fieldL s.data.toList 15) ∧ Below w.heap.size w w' := field_any v l s 15 w hm (by omega) hs hv
theorem field_21 (v : Value) (l : List UInt8) (s : ByteArray) (w : World) (hm : l.length ≤ 1000) (hs : s.size ≤ 21) (hv : Rd w v (u8s l)) :
    Calls Try.prog 54 #[v, .string s, .int .i64 21] w fun e w' => ∃ v', e = .returned v' ∧ Mine w' w.heap.size v' (l ++ fieldL s.data.toList 21) ∧ Below w.heap.size w w' := field_any v l s 21 w hm (by omega) hs hv
theorem Blk.three {w : World} {g : Nat} {t : TypeId} {x y z : Value} (h : Blk w g t #[x, y, z]) : w.cell? ⟨g, 0, none⟩ = some x ∧ w.cell? ⟨g, 1, none⟩ = some y ∧ w.cell? ⟨g, 2, none⟩ = some z := ⟨h.cell 0 _ rfl, h.cell 1 _ rfl, h.cell 2 _ rfl⟩
set_option maxHeartbeats 1000000 in
theorem encode_yes (t : Nat) (k v : ByteArray) (w : World) (h : rowOkB t k v = true) :
    Calls Try.prog 24 #[.agg #[.int .i64 (t : Int), .string k, .string v]] w fun e w' => ∃ v', e = .returned v' ∧ Mine w' w.heap.size v' (encL t k.data.toList v.data.toList) ∧ Below w.heap.size w w' := by
  obtain ⟨h1, h2, h3, h4⟩ := rightB_iff.1 h
  have hsk := size_data k
  have hW : Below w.heap.size w (w.alloc (.cells #[.int .i64 (t : Int), .string k, .string v] 34)) := (Below.refl _ _).alloc (Nat.le_refl _) _
  have B0 : Blk (w.alloc (.cells #[.int .i64 (t : Int), .string k, .string v] 34)) w.heap.size 34 #[.int .i64 (t : Int), .string k, .string v] := heap_new w _
  go_enter Try.func24, Try.ntmps24
  go_wp2_with (first
    | (go_at_call 22; refine (right_yes _ k v _ h).mono ?_; rintro e w1 ⟨rfl, hb1⟩; have B1 := B0.below hb1)
    | (go_at_call 53; (with_reducible refine (put_c1 _).mono ?_); rintro e w2 ⟨v2, rfl, hown2, hb2⟩; have B2 := B1.below hb2; obtain ⟨c1, c2, c3⟩ := B2.three)
    | (go_at_call 53; (with_reducible refine (put_one v2 _ t _ (by simp) hown2.rd).mono ?_); rintro e w3 ⟨v3, rfl, hown3, hb3⟩; have B3 := B2.below hb3; obtain ⟨c4, c5, c6⟩ := B3.three)
    | (go_at_call 54; (with_reducible refine (field_15 v3 _ k _ (by simp) h3 hown3.rd).mono ?_); rintro e w4 ⟨v4, rfl, hown4, hb4⟩; have B4 := B3.below hb4; obtain ⟨c7, c8, c9⟩ := B4.three)
    | (go_at_call 54; (with_reducible refine (field_21 v4 _ v _ (by simp [fieldL]; omega) h4 hown4.rd).mono ?_); rintro e w5 ⟨v5, rfl, hown5, hb5⟩))
  go_ret
  have s0 := hW.size
  have s1 := hb1.size
  have s2 := hb2.size
  have s3 := hb3.size
  have s4 := hb4.size
  refine ⟨_, rfl, hown5.more (by omega), ((((hW.trans (hb1.mono hW.size)).trans (hb2.mono ?_)).trans (hb3.mono ?_)).trans (hb4.mono ?_)).trans (hb5.mono ?_)⟩
  all_goals omega
theorem row_encode_no (t : Int) (k v : ByteArray) (w : World) (h : rowOkB t k v = false) :
    Calls Try.prog 24 #[.agg #[.int .i64 t, .string k, .string v]] w fun e w' => e = .returned (.slice none 0 0) ∧ Below w.heap.size w w' := by
  have hW : Below w.heap.size w (w.alloc (.cells #[.int .i64 t, .string k, .string v] 34)) := (Below.refl _ _).alloc (Nat.le_refl _) _
  go_enter Try.func24, Try.ntmps24
  go_wp2_with (go_at_call 22; refine (right_no _ k v _ h).mono ?_; rintro e w1 ⟨rfl, hb1⟩)
  go_ret
  exact ⟨rfl, hW.trans (hb1.mono hW.size)⟩
end
section
/- Contracts: a reader's Num and Text. -/
open Go.RowKit
set_option maxRecDepth 20000



end
section
/- Contracts of package row: readField, read, Decode. -/
open Go.RowKit

def St.fieldSt (s : St) (room : Nat) : St := s.textSt.take ((room : Int) - (s.text.length : Int))
theorem St.text_length (s : St) : s.text.length ≤ s.rest.length := Nat.le_trans (St.got_length _ _) (s.numSt_length 1)
theorem St.text_le (s : St) : s.text.length ≤ 255 := by
  unfold St.text St.got
  have := s.num1_lt
  split
  · rw [List.length_take]; omega
  · simp
theorem St.fieldSt_length (s : St) (room : Nat) : (s.fieldSt room).rest.length ≤ s.rest.length := Nat.le_trans (St.take_length _ _) s.textSt_length
theorem arr_size (l : List UInt8) : (⟨l.toArray⟩ : ByteArray).size = l.length := by show l.toArray.size = _; simp
theorem arr_list (l : List UInt8) : (⟨l.toArray⟩ : ByteArray).data.toList = l := by simp
theorem readField_any {w : World} {lo g : Nat} {s : St} (room : Nat) (h : Rdr w lo g s) (hm : s.rest.length ≤ 1000) (hr : room ≤ 100) :
    Calls Try.prog 94 #[ptr g, .int .i64 (room : Int)] w fun e w' => e = .returned (.string ⟨s.text.toArray⟩) ∧ Rdr w' lo g (s.fieldSt room) ∧ w.grownBy w' (some g) := by
  unfold St.fieldSt
  have hl := s.text_le
  have hm1 : s.textSt.rest.length ≤ 70368744177664 := Nat.le_trans s.textSt_length (by omega)
  have hsz := hide (arr_size s.text)
  go_enter Try.func94, Try.ntmps94
  go_wp2_with (first
    | (go_at_call 97; refine (text_any_r h (by omega)).mono ?_; rintro e w1 ⟨rfl, hr1, hg1⟩)
    | (go_at_call 89; refine (take_told ((room : Int) - (s.text.length : Int)) hr1 hm1).mono ?_; rintro e w2 ⟨A, c, rfl, hrd, hr2, hg2, hcv⟩))
  go_ret
  exact ⟨rfl, hr2, hg1.trans hg2⟩

/-- What a reader takes from where a row would stand. -/
def rowT (l : List UInt8) : Nat := ((⟨l, false⟩ : St).take 1).num 1
def rowS (l : List UInt8) : St := ((⟨l, false⟩ : St).take 1).numSt 1
def rowK (l : List UInt8) : List UInt8 := (rowS l).text
def rowV (l : List UInt8) : List UInt8 := ((rowS l).fieldSt 15).text
theorem St.text_ofR (t r : List UInt8) (h : t.length ≤ 255) : (⟨UInt8.ofNat t.length :: t ++ r, false⟩ : St).text = t ∧ (⟨UInt8.ofNat t.length :: t ++ r, false⟩ : St).textSt = ⟨r, false⟩ := by
  have hb : (UInt8.ofNat t.length).toNat = t.length := by rw [UInt8.toNat_ofNat']; omega
  obtain ⟨h1, h2⟩ := St.byte_num (UInt8.ofNat t.length) (t ++ r)
  unfold St.text St.textSt
  rw [List.cons_append, h1, h2, hb]
  exact ⟨(St.some_take t r _ rfl).2, (St.some_take t r _ rfl).1⟩
theorem St.field_of (t r : List UInt8) (room : Nat) (h : t.length ≤ room) (hr : room ≤ 255) : (⟨fieldL t room ++ r, false⟩ : St).text = t ∧ (⟨fieldL t room ++ r, false⟩ : St).fieldSt room = ⟨r, false⟩ := by
  have e : fieldL t room ++ r = UInt8.ofNat t.length :: t ++ (List.replicate (room - t.length) 0 ++ r) := by simp [fieldL]
  unfold St.fieldSt
  rw [e]
  obtain ⟨h1, h2⟩ := St.text_ofR t (List.replicate (room - t.length) 0 ++ r) (by omega)
  rw [h1, h2]
  exact ⟨rfl, (St.some_take _ r _ (by simp; omega)).1⟩
theorem row_enc (t : Nat) (k v : List UInt8) (ht : t < 256) (hk : k.length ≤ 15) (hv : v.length ≤ 21) : rowT (encL t k v) = t ∧ rowK (encL t k v) = k ∧ rowV (encL t k v) = v := by
  have e1 : (⟨encL t k v, false⟩ : St).take 1 = ⟨UInt8.ofNat t :: (fieldL k 15 ++ (fieldL v 21 ++ [])), false⟩ := by
    rw [show encL t k v = 1 :: (UInt8.ofNat t :: (fieldL k 15 ++ (fieldL v 21 ++ []))) by simp [encL]]
    exact St.byte_take _ _
  obtain ⟨h1, h2⟩ := St.byte_num (UInt8.ofNat t) (fieldL k 15 ++ (fieldL v 21 ++ []))
  obtain ⟨h3, h4⟩ := St.field_of k (fieldL v 21 ++ []) 15 hk (by omega)
  obtain ⟨h5, _⟩ := St.field_of v [] 21 hv (by omega)
  unfold rowV rowK rowT rowS
  rw [e1, h1, h2, h3, h4, h5]
  exact ⟨by rw [UInt8.toNat_ofNat']; omega, rfl, rfl⟩
theorem rowT_lt (l : List UInt8) : rowT l < 256 := St.num1_lt _
theorem rowS_length (l : List UInt8) : (rowS l).rest.length ≤ l.length := Nat.le_trans (St.numSt_length _ _) (St.take_length _ _)

theorem take_1 {w : World} {lo g : Nat} {s : St} (h : Rdr w lo g s) (hm : s.rest.length ≤ 70368744177664) :
    Calls Try.prog 89 #[ptr g, .int .i64 1] w fun e w' => ∃ A c, e = .returned (.slice A (s.got 1).length c) ∧ Rdr w' lo g (s.take 1) ∧ w.grownBy w' (some g) :=
  (take_told 1 h hm).mono fun _ _ ⟨A, c, h1, _, h3, h4, _⟩ => ⟨A, c, h1, h3, h4⟩
theorem readField_15 {w : World} {lo g : Nat} {s : St} (h : Rdr w lo g s) (hm : s.rest.length ≤ 1000) :
    Calls Try.prog 94 #[ptr g, .int .i64 15] w fun e w' => e = .returned (.string ⟨s.text.toArray⟩) ∧ Rdr w' lo g (s.fieldSt 15) ∧ w.grownBy w' (some g) := readField_any 15 h hm (by omega)
theorem readField_21 {w : World} {lo g : Nat} {s : St} (h : Rdr w lo g s) (hm : s.rest.length ≤ 1000) :
    Calls Try.prog 94 #[ptr g, .int .i64 21] w fun e w' => e = .returned (.string ⟨s.text.toArray⟩) ∧ Rdr w' lo g (s.fieldSt 21) ∧ w.grownBy w' (some g) := readField_any 21 h hm (by omega)
theorem Blk.three_f {w : World} {g : Nat} {t : TypeId} {cs : Array Value} (h : Blk w g t cs) : w.frozen? ⟨g, 0, none⟩ = false ∧ w.frozen? ⟨g, 1, none⟩ = false ∧ w.frozen? ⟨g, 2, none⟩ = false := ⟨h.frozen 0, h.frozen 1, h.frozen 2⟩
theorem grownBy_set {w w' : World} {row : Option Nat} (h : w.grownBy w' row) {p : Addr} (hp : w.heap.size ≤ p.block) (u : Value) : w.grownBy (w'.setCell p u) row :=
  ⟨h.os, h.tape, h.output, by have := h.size; simpa [World.setCell] using this, fun k hk hne => (Below.heap_setCell _ _ _ _ (by omega)).trans (h.block k hk hne)⟩
theorem grownBy_below {w w' : World} {row : Option Nat} (hb : Below w.heap.size w w') : w.grownBy w' row := ⟨hb.os, hb.tape, hb.output, hb.size, fun k hk _ => hb.block k hk⟩
set_option maxHeartbeats 1000000 in
theorem row_read_any {w : World} {lo g : Nat} {l : List UInt8} (h : Rdr w lo g ⟨l, false⟩) (hm : l.length ≤ 1000) :
    Calls Try.prog 77 #[ptr g] w fun e w' => e = .returned (.agg #[.int .i64 (rowT l : Int), .string ⟨(rowK l).toArray⟩, .string ⟨(rowV l).toArray⟩]) ∧ w.grownBy w' (some g) := by
  have hT := rowT_lt l
  have hgl := h.lt
  have B0 : Blk (w.alloc (.cells #[.int .i64 0, .string ⟨#[]⟩, .string ⟨#[]⟩] 34)) w.heap.size 34 #[.int .i64 0, .string ⟨#[]⟩, .string ⟨#[]⟩] := heap_new w _
  have hne : some g ≠ some w.heap.size := fun e => by injection e with e; omega
  have hS := rowS_length l
  have hS2 := St.fieldSt_length (rowS l) 15
  have h0 := h.alloc (.cells #[.int .i64 0, .string ⟨#[]⟩, .string ⟨#[]⟩] 34)
  have hgw := hide (World.grownBy_alloc w (.cells #[.int .i64 0, .string ⟨#[]⟩, .string ⟨#[]⟩] 34) (some g))
  have hm0 : (⟨l, false⟩ : St).rest.length ≤ 70368744177664 := by show l.length ≤ _; omega
  have hm1 : ((⟨l, false⟩ : St).take 1).rest.length ≤ 70368744177664 := Nat.le_trans (St.take_length _ _) hm0
  have HT := hide (show ((⟨l, false⟩ : St).take 1).num 1 = rowT l from rfl)
  have HS := hide (show ((⟨l, false⟩ : St).take 1).numSt 1 = rowS l from rfl)
  have HK := hide (show (rowS l).text = rowK l from rfl)
  have HV := hide (show ((rowS l).fieldSt 15).text = rowV l from rfl)
  go_enter Try.func77, Try.ntmps77
  go_wp2_with (first
    | (go_at_call 89; refine (take_1 h0 hm0).mono ?_; rintro e w1 ⟨A, c, rfl, hr1, hg1⟩)
    | (go_at_call 68; refine (num_any 1 hr1 hm1).mono ?_; rw [HT.out, HS.out]; rintro e w2 ⟨rfl, hr2, hg2⟩)
    | (go_at_call 94; (with_reducible refine (readField_15 hr2 (by omega)).mono ?_); rw [HK.out]; rintro e w3 ⟨rfl, hr3, hg3⟩)
    | (go_at_call 94; (with_reducible refine (readField_21 hr3 (by omega)).mono ?_); rw [HV.out]; rintro e w4 ⟨rfl, hr4, hg4⟩; have B4 := (((B0.grown hg1 hne).grown hg2 hne).grown hg3 hne).grown hg4 hne; obtain ⟨c1, c2, c3⟩ := B4.three; obtain ⟨f1, f2, f3⟩ := B4.three_f))
  refine bodyPost_ret (v := .agg #[.int .i64 (rowT l : Int), .string ⟨(rowK l).toArray⟩, .string ⟨(rowV l).toArray⟩]) (by simp [results, Try.results77, go_sem, c1, c2, c3]) rfl ⟨rfl, ?_⟩
  have hg := (((hgw.out.trans hg1).trans hg2).trans hg3).trans hg4
  exact grownBy_set (grownBy_set (grownBy_set hg (Nat.le_refl _) _) (Nat.le_refl _) _) (Nat.le_refl _) _

/-- What bytes tell. -/
def Dec (l : List UInt8) (t : Int) (k v : ByteArray) (e : Int) : Prop :=
  (e = 9 ∧ t = 0 ∧ k = ⟨#[]⟩ ∧ v = ⟨#[]⟩ ∧ l ≠ List.replicate 40 0 ∧ ∀ (t' : Nat) (k' v' : List UInt8), t' < 4 → k'.length ≤ 15 → v'.length ≤ 21 → encL t' k' v' ≠ l) ∨
  (e = 5 ∧ t = 0 ∧ k = ⟨#[]⟩ ∧ v = ⟨#[]⟩ ∧ l = List.replicate 40 0) ∨
  (e = 0 ∧ rowOkB t k v = true ∧ encL t.toNat k.data.toList v.data.toList = l)
end
section
/- The contract of Decode of package row. -/
open Go.RowKit

theorem equal_yes (v u : Value) (l m : List UInt8) (w : World) (hv : Rd w v (u8s l)) (hu : Rd w u (u8s m)) (h : l = m) :
    Calls Try.prog 74 #[v, u] w fun e w' => e = .returned (.bool true) ∧ w = w' := by
  have := equal_any v u l m w hv hu
  rwa [beq_iff_eq.2 h] at this
theorem equal_no (v u : Value) (l m : List UInt8) (w : World) (hv : Rd w v (u8s l)) (hu : Rd w u (u8s m)) (h : l ≠ m) :
    Calls Try.prog 74 #[v, u] w fun e w' => e = .returned (.bool false) ∧ w = w' := by
  have := equal_any v u l m w hv hu
  rwa [beq_eq_false_iff_ne.2 h] at this
theorem decode_size (v : Value) (l : List UInt8) (w : World) (hv : Rd w v (u8s l)) (h : l.length ≠ 40) :
    Calls Try.prog 52 #[v] w fun e w' => e = .returned (.tuple #[.agg #[.int .i64 0, .string ⟨#[]⟩, .string ⟨#[]⟩], .int .i64 9]) ∧ Below w.heap.size w w' := by
  obtain ⟨A, c, rfl, _, _⟩ := id hv
  rw [u8s_length] at hv ⊢
  have h1 : ((l.length : Int) != 40) = true := by rw [bne_iff_ne]; omega
  clear hv h
  go_enter Try.func52, Try.ntmps52
  go_wp2
  refine bodyPost_ret (v := .tuple #[.agg #[.int .i64 0, .string ⟨#[]⟩, .string ⟨#[]⟩], .int .i64 9]) (by simp [results, Try.results52, go_sem]) rfl ⟨rfl, ?_⟩
  exact (Below.refl _ _).alloc (Nat.le_refl _) _
theorem rd_sub {w : World} {v : Value} {l : List UInt8} (hv : Rd w v (u8s l)) {n : Nat} (hn : l.length = n) : ∃ A c, v = .slice A n c := by
  obtain ⟨A, c, rfl, _, _⟩ := hv
  exact ⟨A, c, by rw [u8s_length, hn]⟩
theorem decode_zeros (v : Value) (l : List UInt8) (w : World) (hv : Rd w v (u8s l)) (h : l = z40) :
    Calls Try.prog 52 #[v] w fun e w' => e = .returned (.tuple #[.agg #[.int .i64 0, .string ⟨#[]⟩, .string ⟨#[]⟩], .int .i64 5]) ∧ Below w.heap.size w w' := by
  have hmk := run_make40
  obtain ⟨A, c, rfl⟩ := rd_sub hv (n := 40) (by rw [h]; rfl)
  have h1 := (hv.alloc (.cells #[.int .i64 0, .string ⟨#[]⟩, .string ⟨#[]⟩] 34)).alloc (.cells (blk8 z40) 5)
  have hz : Rd ((w.alloc (.cells #[.int .i64 0, .string ⟨#[]⟩, .string ⟨#[]⟩] 34)).alloc (.cells (blk8 z40) 5)) (.slice (some ⟨w.heap.size + 1, 0, none⟩) 40 40) (u8s z40) := by
    refine Blk.rd8 (g := w.heap.size + 1) (t := 5) ?_ rfl (Nat.le_refl _)
    exact heap_at _ _ (by simp)
  have hb := hide ((((Below.refl w.heap.size w).alloc (Nat.le_refl _) (.cells #[.int .i64 0, .string ⟨#[]⟩, .string ⟨#[]⟩] 34)).alloc (by simp) (.cells (blk8 z40) 5)))
  clear hv
  have H := hide h
  clear h
  go_enter Try.func52, Try.ntmps52
  go_wp2_with (go_at_call 74; refine (equal_yes _ _ l z40 _ h1 hz H.out).mono ?_; rintro e w1 ⟨rfl, rfl⟩)
  refine bodyPost_ret (v := .tuple #[.agg #[.int .i64 0, .string ⟨#[]⟩, .string ⟨#[]⟩], .int .i64 5]) (by simp [results, Try.results52, go_sem]) rfl ⟨rfl, ?_⟩
  exact hb.out
theorem dec_some {l : List UInt8} (hl : l.length = 40) (hz : l ≠ z40) : ∃ (k v : ByteArray), k = ⟨(rowK l).toArray⟩ ∧ v = ⟨(rowV l).toArray⟩ ∧
    ((rowOkB (rowT l : Int) k v = true ∧ encL (rowT l) (rowK l) (rowV l) = l) ∨ ((rowOkB (rowT l : Int) k v = false ∨ (rowOkB (rowT l : Int) k v = true ∧ encL (rowT l) (rowK l) (rowV l) ≠ l)) ∧ Dec l 0 ⟨#[]⟩ ⟨#[]⟩ 9)) := by
  refine ⟨_, _, rfl, rfl, ?_⟩
  by_cases h : rowOkB (rowT l : Int) ⟨(rowK l).toArray⟩ ⟨(rowV l).toArray⟩ = true ∧ encL (rowT l) (rowK l) (rowV l) = l
  · exact .inl h
  · refine .inr ⟨?_, .inl ⟨rfl, rfl, rfl, rfl, hz, ?_⟩⟩
    · by_cases h1 : rowOkB (rowT l : Int) ⟨(rowK l).toArray⟩ ⟨(rowV l).toArray⟩ = true
      · exact .inr ⟨h1, fun e => h ⟨h1, e⟩⟩
      · exact .inl (by simpa using h1)
    · rintro t k v ht hk hv rfl
      obtain ⟨h1, h2, h3⟩ := row_enc t k v (by omega) hk hv
      refine h ⟨?_, ?_⟩
      · rw [h1, h2, h3, rightB_iff, arr_size, arr_size]
        omega
      · rw [h1, h2, h3]
/-- The world in which Decode asks for zeros. -/
def decW (w : World) : World := (w.alloc (.cells #[.int .i64 0, .string ⟨#[]⟩, .string ⟨#[]⟩] 34)).alloc (.cells (blk8 z40) 5)
theorem decW_below (w : World) : Below w.heap.size w (decW w) := ((Below.refl w.heap.size w).alloc (Nat.le_refl _) _).alloc (by simp) _
theorem decW_blk (w : World) : Blk (decW w) w.heap.size 34 #[.int .i64 0, .string ⟨#[]⟩, .string ⟨#[]⟩] := Blk.alloc (heap_new w _) _
theorem decW_zeros (w : World) : Rd (decW w) (.slice (some ⟨w.heap.size + 1, 0, none⟩) 40 40) (u8s z40) := by
  refine Blk.rd8 (g := w.heap.size + 1) (t := 5) ?_ rfl (Nat.le_refl _)
  exact heap_at _ _ (by simp)
theorem decW_size (w : World) : (decW w).heap.size = w.heap.size + 2 := by simp [decW]
theorem dec_equal_no (v : Value) (l : List UInt8) (w : World) (hv : Rd (decW w) v (u8s l)) (h : l ≠ z40) :
    Calls Try.prog 74 #[v, .slice (some ⟨w.heap.size + 1, 0, none⟩) 40 40] ((w.alloc (.cells #[.int .i64 0, .string ⟨#[]⟩, .string ⟨#[]⟩] 34)).alloc (.cells (blk8 z40) 5)) fun e w' => e = .returned (.bool false) ∧ decW w = w' :=
  equal_no v _ l z40 (decW w) hv (decW_zeros w) h
theorem read_told {w : World} {lo g : Nat} {l : List UInt8} (h : Rdr w lo g ⟨l, false⟩) (hm : l.length ≤ 1000) (k v : ByteArray) (hk : k = ⟨(rowK l).toArray⟩) (hv : v = ⟨(rowV l).toArray⟩) :
    Calls Try.prog 77 #[ptr g] w fun e w' => e = .returned (.agg #[.int .i64 (rowT l : Int), .string k, .string v]) ∧ w.grownBy w' (some g) := by
  subst hk hv
  exact row_read_any h hm
theorem encode_told (t : Nat) (k v : ByteArray) (l : List UInt8) (w : World) (hk : k = ⟨(rowK l).toArray⟩) (hv : v = ⟨(rowV l).toArray⟩) (h : rowOkB t k v = true) :
    Calls Try.prog 24 #[.agg #[.int .i64 (t : Int), .string k, .string v]] w fun e w' => ∃ v', e = .returned v' ∧ Rd w' v' (u8s (encL t (rowK l) (rowV l))) ∧ Below w.heap.size w w' := by
  refine (encode_yes t k v w h).mono ?_
  rintro e w' ⟨v', rfl, hm, hb⟩
  rw [hk, hv, arr_list, arr_list] at hm
  exact ⟨v', rfl, hm.rd, hb⟩
theorem below_set {B : Nat} {a w : World} (h : Below B a w) {p : Addr} (hp : B ≤ p.block) (u : Value) : Below B a (w.setCell p u) := Below.setCell h hp u
theorem dec_below {w w2 w3 : World} {g : Nat} (h2 : Below (decW w).heap.size (decW w) w2) (hlo : (decW w).heap.size ≤ g) (h3 : w2.grownBy w3 (some g)) : Below w.heap.size w w3 := by
  have h := decW_below w
  have hs := decW_size w
  refine (h.trans (h2.mono (by omega))).grown h3 (by have := h2.size; omega) fun k hk => ?_
  injection hk with hk
  omega
set_option maxHeartbeats 1000000 in
theorem decode_row (v : Value) (l : List UInt8) (w : World) (hv : Rd w v (u8s l)) (hl : l.length = 40) (hz : l ≠ z40) :
    Calls Try.prog 52 #[v] w fun e w' => ∃ t k v e', e = .returned (.tuple #[.agg #[.int .i64 t, .string k, .string v], .int .i64 e']) ∧ Dec l t k v e' ∧ Below w.heap.size w w' := by
  obtain ⟨k, u, hk, hu, h⟩ := dec_some hl hz
  have hmk := run_make40
  obtain ⟨A, c, rfl⟩ := rd_sub hv hl
  have h1 := hv.below (decW_below w)
  have HB := hide (decW_below w)
  have B0 := decW_blk w
  have HS := hide (decW_size w)
  have HK := hide hk
  have HU := hide hu
  have HL := hide hl
  have HZ := hide hz
  have HV := hide hv
  clear hk hu hv hl hz
  rcases h with ⟨hr, he⟩ | ⟨hr | ⟨hr, he⟩, hd⟩
  · have HE := hide he
    clear he
    go_enter Try.func52, Try.ntmps52
    go_wp2_with (first
      | (go_at_call 74; (with_reducible refine (dec_equal_no _ l w h1 HZ.out).mono ?_); rintro e w1 ⟨rfl, rfl⟩)
      | (go_at_call 67; (with_reducible refine (new_any _ l _ (by rw [HL.out]; decide) h1).mono ?_); rintro e w2 ⟨g, rfl, hr2, hb2⟩; have B2 := B0.below hb2; have hlo := hide hr2.lo_le)
      | (go_at_call 77; (with_reducible refine (read_told hr2 (by rw [HL.out]; decide) k u HK.out HU.out).mono ?_); rintro e w3 ⟨rfl, hg3⟩; have B3 := B2.grown hg3 (fun e => by injection e with e; have := hlo.out; have := HS.out; omega); have HB3 := dec_below hb2 hlo.out hg3; have h3 := HV.out.below HB3; have R3 : Blk (w3.alloc (.cells #[.int .i64 (rowT l : Int), .string k, .string u] 34)) w3.heap.size 34 #[.int .i64 (rowT l : Int), .string k, .string u] := heap_new w3 _; have HB4 := hide (HB3.alloc HB3.size (.cells #[.int .i64 (rowT l : Int), .string k, .string u] 34)))
      | (go_at_call 24; (with_reducible refine (encode_told (rowT l) k u l _ HK.out HU.out hr).mono ?_); rw [HE.out]; rintro e w4 ⟨v4, rfl, hr4, hb4⟩; have h4 := (h3.alloc (.cells #[.int .i64 (rowT l : Int), .string k, .string u] 34)).below hb4; obtain ⟨c1, c2, c3⟩ := ((B3.alloc _).below hb4).three; obtain ⟨f1, f2, f3⟩ := ((B3.alloc _).below hb4).three_f; obtain ⟨c4, c5, c6⟩ := (R3.below hb4).three)
      | (go_at_call 74; (with_reducible refine (equal_yes v4 _ l l _ hr4 h4 rfl).mono ?_); rintro e w5 ⟨rfl, rfl⟩))
    refine bodyPost_ret (v := .tuple #[.agg #[.int .i64 (rowT l : Int), .string k, .string u], .int .i64 0]) (by simp [results, Try.results52, go_sem, c1, c2, c3]) rfl ⟨_, _, _, _, rfl, .inr (.inr ⟨rfl, hr, ?_⟩), ?_⟩
    · rw [HK.out, HU.out, arr_list, arr_list]; exact HE.out
    · exact below_set (below_set (below_set (HB4.out.trans (hb4.mono HB4.out.size)) (Nat.le_refl _) _) (Nat.le_refl _) _) (Nat.le_refl _) _
  · have HD := hide hd
    clear hd
    have hne : ([] : List UInt8) ≠ l := fun e => by have := HL.out; rw [← e] at this; cases this
    have HN := hide hne
    clear hne
    go_enter Try.func52, Try.ntmps52
    go_wp2_with (first
      | (go_at_call 74; (with_reducible refine (dec_equal_no _ l w h1 HZ.out).mono ?_); rintro e w1 ⟨rfl, rfl⟩)
      | (go_at_call 67; (with_reducible refine (new_any _ l _ (by rw [HL.out]; decide) h1).mono ?_); rintro e w2 ⟨g, rfl, hr2, hb2⟩; have B2 := B0.below hb2; have hlo := hide hr2.lo_le)
      | (go_at_call 77; (with_reducible refine (read_told hr2 (by rw [HL.out]; decide) k u HK.out HU.out).mono ?_); rintro e w3 ⟨rfl, hg3⟩; have B3 := B2.grown hg3 (fun e => by injection e with e; have := hlo.out; have := HS.out; omega); have HB3 := dec_below hb2 hlo.out hg3; have h3 := HV.out.below HB3; have R3 : Blk (w3.alloc (.cells #[.int .i64 (rowT l : Int), .string k, .string u] 34)) w3.heap.size 34 #[.int .i64 (rowT l : Int), .string k, .string u] := heap_new w3 _; have HB4 := hide (HB3.alloc HB3.size (.cells #[.int .i64 (rowT l : Int), .string k, .string u] 34)))
      | (go_at_call 24; (with_reducible refine (row_encode_no _ k u _ hr).mono ?_); rintro e w4 ⟨rfl, hb4⟩; have h4 := (h3.alloc (.cells #[.int .i64 (rowT l : Int), .string k, .string u] 34)).below hb4; obtain ⟨c1, c2, c3⟩ := ((B3.alloc _).below hb4).three; obtain ⟨f1, f2, f3⟩ := ((B3.alloc _).below hb4).three_f)
      | (go_at_call 74; (with_reducible refine (equal_no (.slice none 0 0) _ [] l _ (Rd.nil_ _ _ _) h4 HN.out).mono ?_); rintro e w5 ⟨rfl, rfl⟩))
    refine bodyPost_ret (v := .tuple #[.agg #[.int .i64 0, .string ⟨#[]⟩, .string ⟨#[]⟩], .int .i64 9]) (by simp [results, Try.results52, go_sem, c1, c2, c3]) rfl ⟨_, _, _, _, rfl, HD.out, ?_⟩
    exact below_set (below_set (below_set (HB4.out.trans (hb4.mono HB4.out.size)) (Nat.le_refl _) _) (Nat.le_refl _) _) (Nat.le_refl _) _
  · have HD := hide hd
    have HE := hide he
    clear hd he
    · go_enter Try.func52, Try.ntmps52
      go_wp2_with (first
        | (go_at_call 74; (with_reducible refine (dec_equal_no _ l w h1 HZ.out).mono ?_); rintro e w1 ⟨rfl, rfl⟩)
        | (go_at_call 67; (with_reducible refine (new_any _ l _ (by rw [HL.out]; decide) h1).mono ?_); rintro e w2 ⟨g, rfl, hr2, hb2⟩; have B2 := B0.below hb2; have hlo := hide hr2.lo_le)
        | (go_at_call 77; (with_reducible refine (read_told hr2 (by rw [HL.out]; decide) k u HK.out HU.out).mono ?_); rintro e w3 ⟨rfl, hg3⟩; have B3 := B2.grown hg3 (fun e => by injection e with e; have := hlo.out; have := HS.out; omega); have HB3 := dec_below hb2 hlo.out hg3; have h3 := HV.out.below HB3; have R3 : Blk (w3.alloc (.cells #[.int .i64 (rowT l : Int), .string k, .string u] 34)) w3.heap.size 34 #[.int .i64 (rowT l : Int), .string k, .string u] := heap_new w3 _; have HB4 := hide (HB3.alloc HB3.size (.cells #[.int .i64 (rowT l : Int), .string k, .string u] 34)))
        | (go_at_call 24; (with_reducible refine (encode_told (rowT l) k u l _ HK.out HU.out hr).mono ?_); rintro e w4 ⟨v4, rfl, hr4, hb4⟩; have h4 := (h3.alloc (.cells #[.int .i64 (rowT l : Int), .string k, .string u] 34)).below hb4; obtain ⟨c1, c2, c3⟩ := ((B3.alloc _).below hb4).three; obtain ⟨f1, f2, f3⟩ := ((B3.alloc _).below hb4).three_f; obtain ⟨c4, c5, c6⟩ := (R3.below hb4).three)
        | (go_at_call 74; (with_reducible refine (equal_no v4 _ _ l _ hr4 h4 HE.out).mono ?_); rintro e w5 ⟨rfl, rfl⟩))
      refine bodyPost_ret (v := .tuple #[.agg #[.int .i64 0, .string ⟨#[]⟩, .string ⟨#[]⟩], .int .i64 9]) (by simp [results, Try.results52, go_sem, c1, c2, c3]) rfl ⟨_, _, _, _, rfl, HD.out, ?_⟩
      exact below_set (below_set (below_set (HB4.out.trans (hb4.mono HB4.out.size)) (Nat.le_refl _) _) (Nat.le_refl _) _) (Nat.le_refl _) _
end
section
/- A row that came in; a pair of ints that came in. -/
open Go.ChangeShapes Go.WideShapes Go.ChangeAt Go.RowKit Go.Joins

section
variable {H : Type} {enc : TypeId × Value → H} {P : Program} {w : World} {base b0 : Nat} {spare : Nat → Bool} {held : Bool} {r : Reach} {v : Value} {d : DataW H} {ps : List MemPlace}
theorem open_row {t : TypeId} {f0 f1 f2 : Field} (hs : P.underlying t = some (.struct #[f0, f1, f2])) (hone : Go.Deep.oneCellFields P #[f0, f1, f2] = true) (hC : P.cellsOf t = 3)
    (u0 : P.underlying f0.type = some (.int .i64)) (u1 : P.underlying f1.type = some .string) (u2 : P.underlying f2.type = some .string) (hval : Value.okWide P w r b0 t v) (hd : DataW.Trod enc P w base spare held t v d ps) :
    ∃ (n : Int) (k u : ByteArray), v = .agg #[.int .i64 n, .string k, .string u] ∧ (Lit.int .i64 n).wf = true ∧ k.size ≤ maxLen ∧ u.size ≤ maxLen := by
  obtain ⟨v0, v1, v2, y0, y1, y2, m, rfl, _, _, h0, h1, h2⟩ := open_agg3 hs hone hC hval hd
  obtain ⟨n, e0, _, w0⟩ := DataW.trod_int u0 h0
  obtain ⟨k, e1, _, hk⟩ := DataW.trod_string u1 h1
  obtain ⟨u, e2, _, hu⟩ := DataW.trod_string u2 h2
  injection e0 with e0
  injection e1 with e1
  injection e2 with e2
  subst e0 e1 e2
  exact ⟨n, k, u, rfl, w0, hk, hu⟩
theorem open_two_ints {q t : TypeId} (hq : P.underlying q = some (.array 2 t)) (hcq : P.cellsOf q = 2) (hct : P.cellsOf t = 1) (ht : P.underlying t = some (.int .i64)) (hval : Value.okWide P w r b0 q v)
    (hd : DataW.Trod enc P w base spare held q v d ps) : ∃ m0 m1 : Int, v = .agg #[.int .i64 m0, .int .i64 m1] ∧ (Lit.int .i64 m0).wf = true ∧ (Lit.int .i64 m1).wf = true := by
  unfold Value.okWide at hval
  rw [hq] at hval
  obtain ⟨cs, rfl, hcs, _⟩ := hval
  rw [hcq] at hcs
  obtain ⟨fuel, hf⟩ := hd
  have hlist : ∃ a b, cs = #[a, b] := by
    obtain ⟨l⟩ := cs
    match l, hcs with
    | [a, b], _ => exact ⟨a, b, rfl⟩
  obtain ⟨a, b, rfl⟩ := hlist
  cases fuel with
  | zero => simp [DataW.trod] at hf
  | succ fuel =>
    have hf1 : DataW.trod enc P w base spare held (fuel + 1) q [a, b] = some (d, ps) := by simpa [Value.cells] using hf
    unfold DataW.trod at hf1
    rw [hq] at hf1
    simp only [hcq, hct, List.length_cons, List.length_nil, if_true] at hf1
    rw [show List.range 2 = [0, 1] from rfl] at hf1
    simp only [List.mapM_cons, List.mapM_nil, Option.map_eq_some_iff] at hf1
    obtain ⟨xs, hxs, _⟩ := hf1
    cases h0 : DataW.trod enc P w base spare held fuel t [a] with
    | none => simp [h0] at hxs
    | some x0 =>
      cases h1 : DataW.trod enc P w base spare held fuel t [b] with
      | none => simp [h0, h1] at hxs
      | some x1 =>
        obtain ⟨z0, e0, _, w0⟩ := DataW.trod_int ht h0
        obtain ⟨z1, e1, _, w1⟩ := DataW.trod_int ht h1
        injection e0 with e0
        injection e1 with e1
        subst e0 e1
        exact ⟨z0, z1, rfl, w0, w1⟩
end
end
section
/- A page: its value, its block; what Decode of package row tells of a slot's bytes, as functions. -/
open Go.RowKit

set_option linter.unusedSimpArgs false
set_option linter.unusedVariables false

/-- A page. -/
structure Pg where
  mark : Nat
  ten : Nat
  num : Nat
  s : Nat → ByteArray
def Pg.cells (p : Pg) : Array Value := #[.int .u64 (p.mark : Int), .int .i64 (p.ten : Int), .int .i64 (p.num : Int), .string (p.s 0), .string (p.s 1), .string (p.s 2), .string (p.s 3), .string (p.s 4)]
def Pg.val (p : Pg) : Value := .agg p.cells
/-- The page in block g. -/
def PgB (w : World) (g : Nat) (p : Pg) : Prop := Blk w g 53 p.cells
def Pg.set (p : Pg) (i : Nat) (v : ByteArray) : Pg := ⟨p.mark, p.ten, p.num, fun j => if j = i then v else p.s j⟩
theorem PgB.slot {w : World} {g : Nat} {p : Pg} (h : PgB w g p) {i : Nat} (hi : i < 5) : w.cell? ⟨g, 3 + i, none⟩ = some (.string (p.s i)) := by
  refine Blk.cell h _ _ ?_
  match i, hi with
  | 0, _ => rfl
  | 1, _ => rfl
  | 2, _ => rfl
  | 3, _ => rfl
  | 4, _ => rfl
theorem PgB.markC {w : World} {g : Nat} {p : Pg} (h : PgB w g p) : w.cell? ⟨g, 0, none⟩ = some (.int .u64 (p.mark : Int)) := Blk.cell h 0 _ rfl
theorem PgB.tenC {w : World} {g : Nat} {p : Pg} (h : PgB w g p) : w.cell? ⟨g, 1, none⟩ = some (.int .i64 (p.ten : Int)) := Blk.cell h 1 _ rfl
theorem PgB.numC {w : World} {g : Nat} {p : Pg} (h : PgB w g p) : w.cell? ⟨g, 2, none⟩ = some (.int .i64 (p.num : Int)) := Blk.cell h 2 _ rfl
theorem PgB.slots {w : World} {g : Nat} {p : Pg} (h : PgB w g p) : w.cell? ⟨g, 3, none⟩ = some (.string (p.s 0)) ∧ w.cell? ⟨g, 4, none⟩ = some (.string (p.s 1)) ∧ w.cell? ⟨g, 5, none⟩ = some (.string (p.s 2)) ∧ w.cell? ⟨g, 6, none⟩ = some (.string (p.s 3)) ∧ w.cell? ⟨g, 7, none⟩ = some (.string (p.s 4)) :=
  ⟨Blk.cell h 3 _ rfl, Blk.cell h 4 _ rfl, Blk.cell h 5 _ rfl, Blk.cell h 6 _ rfl, Blk.cell h 7 _ rfl⟩
theorem PgB.set_slot {w : World} {g : Nat} {p : Pg} (h : PgB w g p) {i : Nat} (hi : i < 5) (v : ByteArray) : PgB (w.setCell ⟨g, 3 + i, none⟩ (.string v)) g (p.set i v) := by
  have := Blk.set_ h (3 + i) (.string v)
  match i, hi, this with
  | 0, _, this => exact this
  | 1, _, this => exact this
  | 2, _, this => exact this
  | 3, _, this => exact this
  | 4, _, this => exact this

/-- A page stored whole. -/
def set8 (W : World) (g : Nat) (p : Pg) : World :=
  (((((((W.setCell ⟨g, 0, none⟩ (.int .u64 (p.mark : Int))).setCell ⟨g, 1, none⟩ (.int .i64 (p.ten : Int))).setCell ⟨g, 2, none⟩ (.int .i64 (p.num : Int))).setCell ⟨g, 3, none⟩ (.string (p.s 0))).setCell ⟨g, 4, none⟩ (.string (p.s 1))).setCell ⟨g, 5, none⟩ (.string (p.s 2))).setCell ⟨g, 6, none⟩ (.string (p.s 3))).setCell ⟨g, 7, none⟩ (.string (p.s 4))
theorem blk_set {w : World} {g : Nat} {t : TypeId} {cs cs' : Array Value} (h : Blk w g t cs) (i : Nat) (u : Value) (e : cs.setIfInBounds i u = cs') : Blk (w.setCell ⟨g, i, none⟩ u) g t cs' := e ▸ h.set_ i u
theorem PgB.set8 {w : World} {g : Nat} {q : Pg} (h : PgB w g q) (p : Pg) : PgB (set8 w g p) g p := by
  unfold PgB Pg.cells at *
  unfold Go.Proofs.Ytkdcnddagebjpaa.set8
  have h0 := blk_set h 0 (.int .u64 (p.mark : Int)) rfl
  have h1 := blk_set h0 1 (.int .i64 (p.ten : Int)) rfl
  have h2 := blk_set h1 2 (.int .i64 (p.num : Int)) rfl
  have h3 := blk_set h2 3 (.string (p.s 0)) rfl
  have h4 := blk_set h3 4 (.string (p.s 1)) rfl
  have h5 := blk_set h4 5 (.string (p.s 2)) rfl
  have h6 := blk_set h5 6 (.string (p.s 3)) rfl
  exact blk_set h6 7 (.string (p.s 4)) (by simp)
theorem pg_set8_below {w w' : World} {B g : Nat} {p : Pg} (h : Below B w w') (hg : B ≤ g) : Below B w (Go.Proofs.Ytkdcnddagebjpaa.set8 w' g p) :=
  ((((((((h.setCell hg _).setCell hg _).setCell hg _).setCell hg _).setCell hg _).setCell hg _).setCell hg _).setCell hg _)
theorem PgB.below {w w' : World} {g : Nat} {p : Pg} (h : PgB w g p) (hb : Below w.heap.size w w') : PgB w' g p := Blk.below h hb
theorem PgB.alloc {w : World} {g : Nat} {p : Pg} (h : PgB w g p) (o : Obj) : PgB (w.alloc o) g p := Blk.alloc h o
theorem PgB.drew {w : World} {g : Nat} {p : Pg} (h : PgB w g p) : PgB w.drew g p := h
theorem PgB.grown {w w' : World} {g : Nat} {p : Pg} {row : Option Nat} (h : PgB w g p) (hg : w.grownBy w' row) (hne : row ≠ some g) : PgB w' g p := Blk.grown h hg hne
theorem PgB.lt {w : World} {g : Nat} {p : Pg} (h : PgB w g p) : g < w.heap.size := Blk.lt h
theorem PgB.frozen {w : World} {g : Nat} {p : Pg} (h : PgB w g p) (i : Nat) : w.frozen? ⟨g, i, none⟩ = false := Blk.frozen h i
theorem PgB.far {w : World} {g : Nat} {p : Pg} (h : PgB w g p) {a : Addr} (ha : g ≠ a.block) (u : Value) : PgB (w.setCell a u) g p := Blk.far h ha u

/-- Are these the bytes of a row? -/
def rowB (l : List UInt8) : Bool := decide (l.length = 40) && rowOkB (rowT l : Int) ⟨(rowK l).toArray⟩ ⟨(rowV l).toArray⟩ && (encL (rowT l) (rowK l) (rowV l) == l)
theorem rowB_length {l : List UInt8} (h : rowB l = true) : l.length = 40 := by
  unfold rowB at h; simp at h; exact h.1.1
theorem rowB_enc (t : Nat) (k v : List UInt8) (ht : t < 4) (hk : k.length ≤ 15) (hv : v.length ≤ 21) : rowB (encL t k v) = true := by
  obtain ⟨h1, h2, h3⟩ := row_enc t k v (by omega) hk hv
  unfold rowB
  rw [h1, h2, h3, encL_length _ _ _ hk hv, rightB_iff.2 ⟨by omega, by omega, by rw [arr_size]; exact hk, by rw [arr_size]; exact hv⟩]
  simp
theorem rowB_z40 : rowB z40 = false := by decide
def decE (l : List UInt8) : Int := if rowB l = true then 0 else if l = z40 then 5 else 9
def decT (l : List UInt8) : Int := if rowB l = true then (rowT l : Int) else 0
def decK (l : List UInt8) : ByteArray := if rowB l = true then ⟨(rowK l).toArray⟩ else ⟨#[]⟩
def decV (l : List UInt8) : ByteArray := if rowB l = true then ⟨(rowV l).toArray⟩ else ⟨#[]⟩
def decR (l : List UInt8) : Value := .agg #[.int .i64 (decT l), .string (decK l), .string (decV l)]
theorem dec_fn {l : List UInt8} {t : Int} {k v : ByteArray} {e : Int} (hl : l.length = 40) (h : Dec l t k v e) : t = decT l ∧ k = decK l ∧ v = decV l ∧ e = decE l := by
  rcases h with ⟨rfl, rfl, rfl, rfl, hz, hn⟩ | ⟨rfl, rfl, rfl, rfl, hz⟩ | ⟨rfl, hr, he⟩
  · have hb : rowB l = false := by
      rw [← Bool.not_eq_true]
      intro hb
      unfold rowB at hb
      simp only [Bool.and_eq_true, beq_iff_eq, rightB_iff, arr_size] at hb
      exact hn _ _ _ (by omega) (by omega) (by omega) hb.2
    have hz' : l ≠ z40 := hz
    simp [decE, decT, decK, decV, hb, hz']
  · have hz' : l = z40 := hz
    subst hz'
    simp [decE, decT, decK, decV, rowB_z40]
  · obtain ⟨h1, h2, h3, h4⟩ := rightB_iff.1 hr
    obtain ⟨n, rfl⟩ : ∃ n : Nat, t = (n : Int) := ⟨t.toNat, by omega⟩
    rw [Int.toNat_natCast] at he
    have hk : k.data.toList.length ≤ 15 := by rw [size_data]; exact h3
    have hv : v.data.toList.length ≤ 21 := by rw [size_data]; exact h4
    have hb : rowB l = true := by rw [← he]; exact rowB_enc n _ _ (by omega) hk hv
    obtain ⟨e1, e2, e3⟩ := row_enc n _ _ (by omega) hk hv
    rw [he] at e1 e2 e3
    simp [decE, decT, decK, decV, hb, e1, e2, e3]
theorem decode_fn (v : Value) (l : List UInt8) (w : World) (hv : Rd w v (u8s l)) :
    Calls Try.prog 52 #[v] w fun e w' => e = .returned (.tuple #[decR l, .int .i64 (decE l)]) ∧ Below w.heap.size w w' := by
  by_cases hl : l.length = 40
  · by_cases hz : l = z40
    · refine (decode_zeros v l w hv hz).mono ?_
      rintro e w' ⟨rfl, hb⟩
      subst hz
      exact ⟨by simp [decR, decE, decT, decK, decV, rowB_z40], hb⟩
    · refine (decode_row v l w hv hl hz).mono ?_
      rintro e w' ⟨t, k, u, e', rfl, hd, hb⟩
      obtain ⟨rfl, rfl, rfl, rfl⟩ := dec_fn hl hd
      exact ⟨rfl, hb⟩
  · refine (decode_size v l w hv hl).mono ?_
    rintro e w' ⟨rfl, hb⟩
    have h1 : rowB l = false := by
      rw [← Bool.not_eq_true]; exact fun h => hl (rowB_length h)
    have h2 : l ≠ z40 := fun e => hl (by rw [e]; rfl)
    exact ⟨by simp [decR, decE, decT, decK, decV, h1, h2], hb⟩
end
section
/- '[]byte(s)' of any text. -/
open Go.RowKit

set_option linter.unusedSimpArgs false
set_option linter.unusedVariables false

/-- The world behind it. -/
def cvtW (W : World) (s : ByteArray) : World := Lib.bytesWorld W 5 s
def cvtV (W : World) (s : ByteArray) : Value := .slice (some ⟨W.heap.size, 0, none⟩) s.size (grownCap W s.size 0 5)
theorem run_cvt (s : ByteArray) (W : World) : (convert 9 58 (.string s)).run Try.prog W = .ok (cvtV W s) (cvtW W s) :=
  Lib.run_convert_string_bytes W 9 58 5 s Try.underlying9 Try.underlying58 Try.underlying5
theorem cvt_below (W : World) (s : ByteArray) : Below W.heap.size W (cvtW W s) := by
  have hb := Lib.bytesWorld_at_old W 5 s
  refine ⟨?_, ?_, ?_, ?_, hb⟩
  · show (Lib.bytesWorld W 5 s).os = _
    rfl
  · rfl
  · rfl
  · show _ ≤ (Lib.bytesWorld W 5 s).heap.size
    rw [Lib.bytesWorld_size]; omega
theorem cvt_rd (W : World) (s : ByteArray) : Rd (cvtW W s) (cvtV W s) (u8s s.data.toList) := by
  have hl : (u8s s.data.toList).length = s.size := by rw [u8s_length]; exact Array.length_toList
  refine ⟨_, _, by rw [hl]; rfl, ?_, fun _ => ⟨W.heap.size, 0, rfl, ?_, fun j u hu => ?_⟩⟩
  · rw [hl]
    exact grownCap_ge W s.size 0 _
  · show _ < (Lib.bytesWorld W 5 s).heap.size
    rw [Lib.bytesWorld_size]; omega
  · have hj : j < (u8s s.data.toList).length := (List.getElem?_eq_some_iff.1 hu).1
    rw [hl] at hj
    have hj2 : j < s.data.toList.length := by rw [Array.length_toList]; exact hj
    rw [u8s_get _ j hj2] at hu
    injection hu with hu
    subst hu
    rw [Nat.zero_add]
    refine (Lib.bytesWorld_cell W 5 s j hj).trans ?_
    simp [List.getD, hj]
end
section
/- Contracts of package page: has, Slot, Set. -/
open Go.RowKit

set_option linter.unusedSimpArgs false
set_option linter.unusedVariables false

theorem has_in {w : World} {g : Nat} (i : Nat) (hi : i < 5) :
    Calls Try.prog 51 #[ptr g, .int .i64 (i : Int)] w fun e w' => e = .returned (.bool true) ∧ w = w' := by
  have h1 : (0 : Int) ≤ (i : Int) := by omega
  have h2 : (i : Int) < 5 := by omega
  unfold ptr
  go_enter Try.func51, Try.ntmps51
  go_wp2
  go_ret
  exact ⟨rfl, rfl⟩
theorem has_out {w : World} {g : Nat} (i : Int) (hi : i < 0 ∨ (0 ≤ i ∧ 5 ≤ i)) :
    Calls Try.prog 51 #[ptr g, .int .i64 i] w fun e w' => e = .returned (.bool false) ∧ w = w' := by
  unfold ptr
  rcases hi with h1 | ⟨h0, h1⟩
  · go_enter Try.func51, Try.ntmps51
    go_wp2
    go_ret
    exact ⟨rfl, rfl⟩
  · have e5 : decide (i < 5) = false := decide_eq_false (by omega)
    go_enter Try.func51, Try.ntmps51
    go_wp2
    go_ret
    exact ⟨rfl, rfl⟩
theorem pg_has_nil {w : World} (i : Int) :
    Calls Try.prog 51 #[.pointer none, .int .i64 i] w fun e w' => e = .returned (.bool false) ∧ w = w' := by
  go_enter Try.func51, Try.ntmps51
  go_wp2
  go_ret
  exact ⟨rfl, rfl⟩
theorem slot_in {w : World} {g : Nat} {p : Pg} (h : PgB w g p) (i : Nat) (hi : i < 5) :
    Calls Try.prog 25 #[ptr g, .int .i64 (i : Int)] w fun e w' => e = .returned (.string (p.s i)) ∧ w = w' := by
  have hc := h.slot hi
  have h1 : (0 : Int) ≤ (i : Int) := by omega
  have h2 : (i : Int) < 5 := by omega
  have hh := has_in (w := w) (g := g) i hi
  unfold ptr at *
  go_enter Try.func25, Try.ntmps25
  go_wp2_with (go_at_call 51; refine hh.mono ?_; rintro e w1 ⟨rfl, rfl⟩)
  go_ret
  exact ⟨rfl, rfl⟩
theorem slot_out {w : World} {g : Nat} (i : Int) (hi : i < 0 ∨ (0 ≤ i ∧ 5 ≤ i)) :
    Calls Try.prog 25 #[ptr g, .int .i64 i] w fun e w' => e = .returned (.string ⟨#[]⟩) ∧ w = w' := by
  go_enter Try.func25, Try.ntmps25
  go_wp2_with (go_at_call 51; refine (has_out i hi).mono ?_; rintro e w1 ⟨rfl, rfl⟩)
  go_ret
  exact ⟨rfl, rfl⟩
theorem slot_nil {w : World} (i : Int) :
    Calls Try.prog 25 #[.pointer none, .int .i64 i] w fun e w' => e = .returned (.string ⟨#[]⟩) ∧ w = w' := by
  go_enter Try.func25, Try.ntmps25
  go_wp2_with (go_at_call 51; refine (pg_has_nil i).mono ?_; rintro e w1 ⟨rfl, rfl⟩)
  go_ret
  exact ⟨rfl, rfl⟩
theorem set_out {w : World} {g : Nat} (i : Int) (s : ByteArray) (hi : i < 0 ∨ (0 ≤ i ∧ 5 ≤ i)) :
    Calls Try.prog 23 #[ptr g, .int .i64 i, .string s] w fun e w' => e = .returned (.bool false) ∧ w = w' := by
  go_enter Try.func23, Try.ntmps23
  go_wp2_with (go_at_call 51; refine (has_out i hi).mono ?_; rintro e w1 ⟨rfl, rfl⟩)
  go_ret
  exact ⟨rfl, rfl⟩
theorem set_nil {w : World} (i : Int) (s : ByteArray) :
    Calls Try.prog 23 #[.pointer none, .int .i64 i, .string s] w fun e w' => e = .returned (.bool false) ∧ w = w' := by
  go_enter Try.func23, Try.ntmps23
  go_wp2_with (go_at_call 51; refine (pg_has_nil i).mono ?_; rintro e w1 ⟨rfl, rfl⟩)
  go_ret
  exact ⟨rfl, rfl⟩
/-- May a slot have it? -/
def okB (s : ByteArray) : Bool := decide (s = ⟨#[]⟩) || rowB s.data.toList
theorem okB_row {s : ByteArray} (h : okB s = true) (h0 : s ≠ ⟨#[]⟩) : rowB s.data.toList = true := by
  unfold okB at h
  simp only [Bool.or_eq_true, decide_eq_true_eq] at h
  exact h.resolve_left h0
theorem decE_row {l : List UInt8} (h : rowB l = true) : decE l = 0 := by simp [decE, h]
theorem decE_no {l : List UInt8} (h : rowB l = false) : decE l ≠ 0 := by
  unfold decE
  rw [h, if_neg (by simp)]
  split <;> omega
/-- What Decode of a slot's text leaves of the world. -/
theorem set_step {w w2 : World} {g : Nat} {p : Pg} {s : ByteArray} (h : PgB w g p) (hb2 : Below (cvtW w s).heap.size (cvtW w s) w2) (o : Obj) : PgB (w2.alloc o) g p ∧ w.grownBy (w2.alloc o) (some g) := by
  refine ⟨((h.below (cvt_below w s)).below hb2).alloc o, ?_⟩
  exact grownBy_below (Below.alloc ((cvt_below w s).trans (hb2.mono (cvt_below w s).size)) (Nat.le_trans (cvt_below w s).size hb2.size) o)
theorem grownBy_own {w w' : World} {g : Nat} (h : w.grownBy w' (some g)) (i : Nat) (u : Value) : w.grownBy (w'.setCell ⟨g, i, none⟩ u) (some g) :=
  ⟨h.os, h.tape, h.output, by have := h.size; simpa [World.setCell] using this, fun k hk hne => (Below.heap_setCell _ _ _ _ (fun e => hne (congrArg some e))).trans (h.block k hk hne)⟩
theorem set_empty {w : World} {g : Nat} {p : Pg} (h : PgB w g p) (i : Nat) (hi : i < 5) :
    Calls Try.prog 23 #[ptr g, .int .i64 (i : Int), .string ⟨#[]⟩] w fun e w' => e = .returned (.bool true) ∧ PgB w' g (p.set i ⟨#[]⟩) ∧ w.grownBy w' (some g) := by
  have hh := has_in (w := w) (g := g) i hi
  have h1 : (0 : Int) ≤ (i : Int) := by omega
  have h2 : (i : Int) < 5 := by omega
  have hcv := run_cvt ⟨#[]⟩ w
  have hrd := hide (cvt_rd w ⟨#[]⟩)
  have HP := hide h
  clear h
  unfold ptr at *
  go_enter Try.func23, Try.ntmps23
  go_wp2_with (first
    | (go_at_call 51; refine hh.mono ?_; rintro e w1 ⟨rfl, rfl⟩)
    | (go_at_call 52; refine (decode_fn _ _ _ hrd.out).mono ?_; unfold decR; generalize decT _ = t; generalize decK _ = k; generalize decV _ = v; generalize decE _ = er; rintro e w2 ⟨rfl, hb2⟩; obtain ⟨P2, G2⟩ := set_step HP.out hb2 (.cells #[.int .i64 t, .string k, .string v] 34); have hc := P2.slot hi; have hf := P2.frozen (3 + i); have HP2 := hide P2; have HG2 := hide G2; clear P2 G2 hb2))
  go_ret
  exact ⟨rfl, HP2.out.set_slot hi _, grownBy_own HG2.out _ _⟩
theorem set_row {w : World} {g : Nat} {p : Pg} (h : PgB w g p) (i : Nat) (hi : i < 5) (s : ByteArray) (h0 : s ≠ ⟨#[]⟩) (hs : rowB s.data.toList = true) :
    Calls Try.prog 23 #[ptr g, .int .i64 (i : Int), .string s] w fun e w' => e = .returned (.bool true) ∧ PgB w' g (p.set i s) ∧ w.grownBy w' (some g) := by
  have hh := has_in (w := w) (g := g) i hi
  have h1 : (0 : Int) ≤ (i : Int) := by omega
  have h2 : (i : Int) < 5 := by omega
  have hcv := run_cvt s w
  have hrd := hide (cvt_rd w s)
  have hs0 := toList_ne h0
  have HE := hide (decE_row hs)
  have HP := hide h
  clear h h0 hs
  unfold ptr at *
  go_enter Try.func23, Try.ntmps23
  go_wp2_with (first
    | (go_at_call 51; refine hh.mono ?_; rintro e w1 ⟨rfl, rfl⟩)
    | (go_at_call 52; refine (decode_fn _ _ _ hrd.out).mono ?_; rw [HE.out]; unfold decR; generalize decT _ = t; generalize decK _ = k; generalize decV _ = v; rintro e w2 ⟨rfl, hb2⟩; obtain ⟨P2, G2⟩ := set_step HP.out hb2 (.cells #[.int .i64 t, .string k, .string v] 34); have hc := P2.slot hi; have hf := P2.frozen (3 + i); have HP2 := hide P2; have HG2 := hide G2; clear P2 G2 hb2))
  go_ret
  exact ⟨rfl, HP2.out.set_slot hi _, grownBy_own HG2.out _ _⟩
theorem set_no {w : World} {g : Nat} {p : Pg} (h : PgB w g p) (i : Nat) (hi : i < 5) (s : ByteArray) (h0 : s ≠ ⟨#[]⟩) (hs : rowB s.data.toList = false) :
    Calls Try.prog 23 #[ptr g, .int .i64 (i : Int), .string s] w fun e w' => e = .returned (.bool false) ∧ PgB w' g p ∧ w.grownBy w' (some g) := by
  have hh := has_in (w := w) (g := g) i hi
  have h1 : (0 : Int) ≤ (i : Int) := by omega
  have h2 : (i : Int) < 5 := by omega
  have hcv := run_cvt s w
  have hrd := hide (cvt_rd w s)
  have hs0 := toList_ne h0
  have hs1 := isEmpty_ne h0
  have hE : (decE s.data.toList != 0) = true := bne_iff_ne.2 (decE_no hs)
  generalize hl : s.data.toList = l at *
  have HP := hide h
  clear h h0 hs hl
  unfold ptr at *
  go_enter Try.func23, Try.ntmps23
  go_wp2_with (first
    | (go_at_call 51; refine hh.mono ?_; rintro e w1 ⟨rfl, rfl⟩)
    | (go_at_call 52; refine (decode_fn _ _ _ hrd.out).mono ?_; unfold decR; generalize decT _ = t; generalize decK _ = k; generalize decV _ = v; generalize decE _ = er at *; rintro e w2 ⟨rfl, hb2⟩; obtain ⟨P2, G2⟩ := set_step HP.out hb2 (.cells #[.int .i64 t, .string k, .string v] 34); have HP2 := hide P2; have HG2 := hide G2; clear P2 G2 hb2))
  go_ret
  exact ⟨rfl, HP2.out, HG2.out⟩
theorem set_in {w : World} {g : Nat} {p : Pg} (h : PgB w g p) (i : Nat) (hi : i < 5) (s : ByteArray) (hs : okB s = true) :
    Calls Try.prog 23 #[ptr g, .int .i64 (i : Int), .string s] w fun e w' => e = .returned (.bool true) ∧ PgB w' g (p.set i s) ∧ w.grownBy w' (some g) := by
  by_cases h0 : s = ⟨#[]⟩
  · subst h0; exact set_empty h i hi
  · exact set_row h i hi s h0 (okB_row hs h0)
/-- Set, whatever the text. -/
def Pg.put (p : Pg) (i : Nat) (s : ByteArray) : Pg := if okB s = true then p.set i s else p
theorem set_any {w : World} {g : Nat} {p : Pg} (h : PgB w g p) (i : Nat) (hi : i < 5) (s : ByteArray) :
    Calls Try.prog 23 #[ptr g, .int .i64 (i : Int), .string s] w fun e w' => e = .returned (.bool (okB s)) ∧ PgB w' g (p.put i s) ∧ w.grownBy w' (some g) := by
  cases hs : okB s
  · have h0 : s ≠ ⟨#[]⟩ := fun e => by subst e; simp [okB] at hs
    have h1 : rowB s.data.toList = false := by
      unfold okB at hs; simp at hs; exact hs.2
    rw [show p.put i s = p by simp [Pg.put, hs]]
    exact set_no h i hi s h0 h1
  · rw [show p.put i s = p.set i s by simp [Pg.put, hs]]
    exact set_in h i hi s hs
end
section
/- Contract of package page: said. -/
open Go.RowKit

set_option linter.unusedSimpArgs false
set_option linter.unusedVariables false

/-- A slot's forty bytes. -/
def padS (s : ByteArray) : List UInt8 := s.data.toList ++ List.replicate (40 - s.size) 0
/-- What a page says up to its slot k. -/
def Pg.part (p : Pg) : Nat → List UInt8
  | 0 => be 2 p.ten ++ be 2 p.num
  | k + 1 => p.part k ++ padS (p.s k)
def Pg.saidL (p : Pg) : List UInt8 := p.part 5 ++ List.replicate 20 0
def Pg.sized (p : Pg) : Prop := ∀ j, j < 5 → (p.s j).size ≤ 40
theorem padS_length {s : ByteArray} (h : s.size ≤ 40) : (padS s).length = 40 := by
  simp [padS]; omega
theorem Pg.part_length {p : Pg} (h : p.sized) : ∀ k, k ≤ 5 → (p.part k).length = 4 + 40 * k
  | 0, _ => by simp [Pg.part, be_length]
  | k + 1, hk => by
    rw [Pg.part, List.length_append, Pg.part_length h k (by omega), padS_length (h k (by omega))]
    omega
theorem Pg.said_length {p : Pg} (h : p.sized) : p.saidL.length = 224 := by
  rw [Pg.saidL, List.length_append, Pg.part_length h 5 (by omega), List.length_replicate]
theorem put_2n (x : Nat) (w : World) :
    Calls Try.prog 53 #[.slice none 0 0, .int .i64 2, .int .u64 (x : Int)] w fun e w' => ∃ v', e = .returned v' ∧ Mine w' w.heap.size v' (be 2 x) ∧ Below w.heap.size w w' :=
  put_2 (.slice none 0 0) [] x w (by simp) (Rd.nil_ _ _ _)

/-- The slots' array, an element of it. -/
theorem run_index5 (p : Pg) (k : Nat) (hk : k < 5) (W : World) : (Instr.index 51 (.agg #[.string (p.s 0), .string (p.s 1), .string (p.s 2), .string (p.s 3), .string (p.s 4)]) (.int .i64 (k : Int))).run Try.prog W = .ok (.string (p.s k)) W := by
  match k, hk with
  | 0, _ => simp [go_sem, Instr.index]
  | 1, _ => simp [go_sem, Instr.index]
  | 2, _ => simp [go_sem, Instr.index]
  | 3, _ => simp [go_sem, Instr.index]
  | 4, _ => simp [go_sem, Instr.index]
set_option maxRecDepth 20000 in
set_option maxHeartbeats 1000000 in
theorem pg_said_any {w : World} {g : Nat} {p : Pg} (h : PgB w g p) (hs : p.sized) (ht : p.ten < 65536) (hn : p.num < 65536) :
    Calls Try.prog 86 #[ptr g] w fun e w' => ∃ v', e = .returned v' ∧ Mine w' w.heap.size v' p.saidL ∧ Below w.heap.size w w' := by
  obtain ⟨i0, hi, hz0, hz1, hz2⟩ := info_parts info8
  have d1 := h.tenC
  have HP := hide h
  clear h
  unfold ptr
  go_enter Try.func86, Try.ntmps86
  go_wp2_with (first
    | (go_at_call 53; (with_reducible refine (put_2n p.ten _).mono ?_); rintro e w1 ⟨v1, rfl, hown1, hb1⟩; have P1 := HP.out.below hb1; have d2 := P1.numC)
    | (go_at_call 53; (with_reducible refine (put_2 v1 _ p.num _ (by simp [be_length]) hown1.rd).mono ?_); rintro e w2 ⟨v2, rfl, hown2, hb2⟩; have P2 := P1.below hb2; obtain ⟨c0, c1, c2, c3, c4⟩ := P2.slots; have PP := hide P2; clear P2 P1))
  have HB := hide (hb1.trans (hb2.mono hb1.size))
  have HM := hide hown2
  have HS := hide hb1.size
  clear hown1 hown2 hb1 hb2
  go_loopg [3, 23] 5 (fun n v i wr => ∃ k : Nat, k + n = 5 ∧ i = .int .i64 k ∧ Hid (Mine wr w.heap.size v (p.part k)) ∧ Hid (Below w.heap.size w wr))
  case atStart => exact ⟨0, by omega, rfl, hide (HM.out.more HS.out), HB⟩
  case round =>
    obtain ⟨k, hk, rfl, hm, hbe⟩ := hrel
    have hsz := hbe.out.size
    cases gk with
    | zero =>
      obtain rfl : k = 5 := by omega
      have hl : (p.part 5).length = 204 := p.part_length hs 5 (by omega)
      obtain ⟨A, c, rfl⟩ := hm.out.form
      have HO : Hid (wr.ownsRow w.heap.size 5 1 (.slice A 204 c) 204 (u8s (p.part 5))) := by have := hm.out; unfold Mine at this; rw [hl] at this; exact hide this
      have HK := hide (fun k hk => (World.ownsRow.lt HO.out k hk).1)
      rw [hl]
      clear hm hl
      go_wp2_with (at_builtin; refine wpList_append_zeros rfl (.tmp 35) (.tmp 38) 58 3 rfl w.heap.size 5 i0 .i64 .i64 Try.underlying58 Try.underlying3 hi hz0 hz1 hz2 _ 204 (u8s (p.part 5)) rfl HO.out 20 rfl (by decide) (by decide) hsz ?_; intro v2 w2 hown2 hgrow)
      go_ret
      refine ⟨_, rfl, ?_, hbe.out.grown hgrow hsz HK.out⟩
      unfold Mine
      rw [p.said_length hs, Pg.saidL, u8s_append]
      exact hown2
    | succ n =>
      have hlt : k < 5 := by omega
      have hix := run_index5 p k hlt
      have hl : (p.part k).length = 4 + 40 * k := p.part_length hs k (by omega)
      have hsz2 := hs k hlt
      obtain ⟨A, c, rfl⟩ := hm.out.form
      have hsub := hide (show (40 : Int) - ((p.s k).size : Int) = ((40 - (p.s k).size : Nat) : Int) by omega)
      go_wp2_with (first
        | (at_builtin; refine Lib.wpList_append_own_string _ rfl (.tmp 26) (.tmp 27) 58 9 rfl w.heap.size 5 i0 Try.underlying58 Try.underlying9 hi hz0 hz1 hz2 _ (p.part k).length (u8s (p.part k)) rfl hm.out (p.s k) rfl (by unfold maxLen; omega) (by omega) hsz ?_; intro v2 w2 hown2 hgrow hat_; have hbe2 := hbe.out.grown hgrow hsz (fun k hk => (World.ownsRow.lt hm.out k hk).1))
        | (at_builtin; refine wpList_append_zeros rfl (.tmp 29) (.tmp 32) 58 3 rfl w.heap.size 5 i0 .i64 .i64 Try.underlying58 Try.underlying3 hi hz0 hz1 hz2 v2 _ _ rfl hown2 (40 - (p.s k).size) (congrArg (Value.int .i64) hsub.out) (by unfold maxLen; omega) (by omega) hbe2.size ?_; intro v3 w3 hown3 hgrow3; have hbe3 := hbe2.grown hgrow3 hbe2.size (fun k hk => (World.ownsRow.lt hown2 k hk).1)))
      go_roundg n
      case rel =>
        refine ⟨k + 1, by omega, by go_num, hide ?_, hide hbe3⟩
        unfold Mine
        rw [Pg.part, padS, List.length_append, List.length_append, List.length_replicate, u8s_append, u8s_append, ← Nat.add_assoc, ← List.append_assoc, size_data]
        exact hown3
      case measure => omega
end
section
/- Contract of package page: Free. -/
open Go.RowKit

set_option linter.unusedSimpArgs false
set_option linter.unusedVariables false

/-- Ints as cells hold them. -/
def i64s (l : List Int) : List Value := l.map fun x => .int .i64 x
theorem i64s_length (l : List Int) : (i64s l).length = l.length := List.length_map ..
theorem i64s_get (l : List Int) (j : Nat) (h : j < l.length) : (i64s l)[j]? = some (.int .i64 l[j]) := by
  simp [i64s, h]
/-- Is a slot free, and none of these? -/
def Pg.freeB (p : Pg) (but : List Int) (j : Nat) : Bool := decide (p.s j = ⟨#[]⟩) && decide ((j : Int) ∉ but)
def Pg.freeI (p : Pg) (but : List Int) : Int :=
  if p.freeB but 0 = true then 0 else if p.freeB but 1 = true then 1 else if p.freeB but 2 = true then 2 else if p.freeB but 3 = true then 3 else if p.freeB but 4 = true then 4 else -1
theorem free_here (p : Pg) (but : List Int) (k : Nat) (hk : k < 5) (h : ∀ j, j < k → p.freeB but j = false) (h1 : p.freeB but k = true) : p.freeI but = (k : Int) := by
  unfold Pg.freeI
  match k, hk with
  | 0, _ => simp [h1]
  | 1, _ => simp [h1, h 0 (by omega)]
  | 2, _ => simp [h1, h 0 (by omega), h 1 (by omega)]
  | 3, _ => simp [h1, h 0 (by omega), h 1 (by omega), h 2 (by omega)]
  | 4, _ => simp [h1, h 0 (by omega), h 1 (by omega), h 2 (by omega), h 3 (by omega)]
theorem free_none (p : Pg) (but : List Int) (h : ∀ j, j < 5 → p.freeB but j = false) : p.freeI but = -1 := by
  unfold Pg.freeI
  simp [h 0 (by omega), h 1 (by omega), h 2 (by omega), h 3 (by omega), h 4 (by omega)]
theorem freeB_next {p : Pg} {but : List Int} {k : Nat} (h : ∀ j, j < k → p.freeB but j = false) (h1 : p.freeB but k = false) : ∀ j, j < k + 1 → p.freeB but j = false := by
  intro j hj
  rcases Nat.lt_or_ge j k with hlt | hge
  · exact h j hlt
  · obtain rfl : j = k := by omega
    exact h1
theorem freeB_full {p : Pg} {but : List Int} {k : Nat} (h : p.s k ≠ ⟨#[]⟩) : p.freeB but k = false := by simp [Pg.freeB, h]
theorem freeB_but {p : Pg} {but : List Int} {k j : Nat} (hj : j < but.length) (h : but[j] = (k : Int)) : p.freeB but k = false := by
  have : (k : Int) ∈ but := by rw [← h]; exact List.getElem_mem hj
  simp [Pg.freeB, this]
theorem freeB_yes {p : Pg} {but : List Int} {k : Nat} (h : p.s k = ⟨#[]⟩) (h1 : ∀ q, q < but.length → but[q]? ≠ some (k : Int)) : p.freeB but k = true := by
  have : (k : Int) ∉ but := by
    intro hm
    obtain ⟨q, hq, e⟩ := List.getElem_of_mem hm
    exact h1 q hq (by rw [List.getElem?_eq_getElem hq, e])
  simp [Pg.freeB, h, this]
theorem but_next {but : List Int} {j : Nat} {k : Int} (hj : j < but.length) (h : ∀ q, q < j → but[q]? ≠ some k) (h1 : but[j] ≠ k) : ∀ q, q < j + 1 → but[q]? ≠ some k := by
  intro q hq
  rcases Nat.lt_or_ge q j with hlt | hge
  · exact h q hlt
  · obtain rfl : q = j := by omega
    rw [List.getElem?_eq_getElem hj]
    intro e
    injection e with e
    exact h1 e
end
section
/- Contract of package page: Encode. -/
open Go.RowKit

set_option linter.unusedSimpArgs false
set_option linter.unusedVariables false

/-- A page's first k sectors. -/
def Pg.secs (p : Pg) : Nat → List UInt8
  | 0 => []
  | k + 1 => p.secs k ++ be 8 p.mark ++ (p.saidL.drop (k * 56)).take 56
/-- A page's bytes. -/
def Pg.encL (p : Pg) : List UInt8 := if p.mark = 0 then z256 else p.secs 4
theorem Pg.secs_length {p : Pg} (h : p.sized) : ∀ k, k ≤ 4 → (p.secs k).length = 64 * k
  | 0, _ => rfl
  | k + 1, hk => by
    rw [Pg.secs, List.length_append, List.length_append, Pg.secs_length h k (by omega), be_length, List.length_take, List.length_drop, p.said_length h]
    omega
theorem Pg.encL_length {p : Pg} (h : p.sized) : p.encL.length = 256 := by
  unfold Pg.encL
  split
  · exact z256_length
  · rw [Pg.secs_length h 4 (by omega)]
theorem pg_mine_new {w : World} {b g n : Nat} (l : List UInt8) (hb : b ≤ g) (hg : w.heap.size = g) (hn : l.length = n) (hl : n ≤ 1000) : Mine (w.alloc (.cells (blk8 l) 5)) b (.slice (some ⟨g, 0, none⟩) n n) l := by
  subst hn hg
  refine ⟨by rw [u8s_length, Nat.mul_one], .inr ⟨w.heap.size, l.length, blk8 l, rfl, hb, heap_new _ _, Nat.le_refl _, by unfold maxLen; omega, by rw [blk8_size, Nat.mul_one], ?_⟩⟩
  show List.take (l.length * 1) (u8s l) = u8s l
  rw [Nat.mul_one, ← u8s_length, List.take_length]
set_option maxRecDepth 20000 in
theorem enc_zero {p : Pg} (w : World) (hz : p.mark = 0) :
    Calls Try.prog 65 #[p.val] w fun e w' => ∃ v', e = .returned v' ∧ Mine w' w.heap.size v' p.encL ∧ Below w.heap.size w w' := by
  have hmk := run_make256
  have HE := hide (show p.encL = z256 from if_pos hz)
  unfold Pg.val
  unfold Pg.cells
  rw [hz]
  clear hz
  go_enter Try.func65, Try.ntmps65
  go_wp2
  go_ret
  rw [HE.out]
  exact ⟨_, rfl, pg_mine_new z256 (Nat.le_succ _) (by simp) z256_length (by omega), ((Below.refl w.heap.size w).alloc (Nat.le_refl _) _).alloc (by simp) _⟩
theorem said_told {w : World} {g : Nat} {p : Pg} (h : PgB w g p) (hs : p.sized) (ht : p.ten < 65536) (hn : p.num < 65536) :
    Calls Try.prog 86 #[ptr g] w fun e w' => ∃ A c, e = .returned (.slice A 224 c) ∧ 224 ≤ c ∧ Rd w' (.slice A 224 c) (u8s p.saidL) ∧ PgB w' g p ∧ Below w.heap.size w w' := by
  refine (pg_said_any h hs ht hn).mono ?_
  rintro e w' ⟨v, rfl, hm, hb⟩
  obtain ⟨A, c, rfl⟩ := hm.form
  have hl := p.said_length hs
  have hr := hm.rd
  have hc : 224 ≤ c := by obtain ⟨_, _, he, hc, _⟩ := hm.rd; injection he with _ e2 e3; rw [u8s_length, hl] at hc; omega
  rw [hl] at hr ⊢
  exact ⟨A, c, rfl, hc, hr, h.below hb, hb⟩
theorem run_from {A : Option Addr} {c k : Nat} (hk : k < 4) (W : World) : (Instr.slice 58 (.slice A 224 c) (some (.int .i64 ((k : Int) * 56))) none none).run Try.prog W = .ok (.slice (hiA A c (k * 56)) (224 - k * 56) (c - k * 56)) W := by
  have := run_high (P := Try.prog) slice8 size8 A 224 c (k * 56) (by omega) W
  rwa [show ((k * 56 : Nat) : Int) = (k : Int) * 56 by omega] at this
theorem run_to {A : Option Addr} {n c : Nat} (hc : 56 ≤ c) (W : World) : (Instr.slice 58 (.slice A n c) none (some (.int .i64 56)) none).run Try.prog W = .ok (.slice A 56 c) W :=
  run_low (P := Try.prog) slice8 size8 A n c 56 hc W
theorem rd_sec {w : World} {A : Option Addr} {c k : Nat} {l : List UInt8} (hk : k < 4) (h : Rd w (.slice A 224 c) (u8s l)) : Rd w (.slice (hiA A c (k * 56)) 56 (c - k * 56)) (u8s ((l.drop (k * 56)).take 56)) :=
  Rd.low (Rd.high (k := k * 56) h (by omega)) (by omega)
set_option maxRecDepth 20000 in
set_option maxHeartbeats 1000000 in
theorem enc_some {p : Pg} (w : World) (hs : p.sized) (ht : p.ten < 65536) (hn : p.num < 65536) (hz : p.mark ≠ 0) :
    Calls Try.prog 65 #[p.val] w fun e w' => ∃ v', e = .returned v' ∧ Mine w' w.heap.size v' p.encL ∧ Below w.heap.size w w' := by
  obtain ⟨i0, hi, hz0, hz1, hz2⟩ := info_parts info8
  have HE := hide (show p.encL = p.secs 4 from if_neg hz)
  have B0 : PgB (w.alloc (.cells p.cells 53)) w.heap.size p := heap_new w _
  have hbw := hide ((Below.refl w.heap.size w).alloc (Nat.le_refl _) (.cells p.cells 53))
  have hzi : ¬ ((p.mark : Int) = 0) := by omega
  have hsa := said_told B0 hs ht hn
  clear B0
  unfold Pg.val
  unfold Pg.cells ptr at *
  generalize hW : w.alloc (.cells #[.int .u64 (p.mark : Int), .int .i64 (p.ten : Int), .int .i64 (p.num : Int), .string (p.s 0), .string (p.s 1), .string (p.s 2), .string (p.s 3), .string (p.s 4)] 53) = W0 at hsa hbw
  have hW2 := hide hW
  subst hW
  go_enter Try.func65, Try.ntmps65
  go_wp2_with (go_at_call 86; refine hsa.mono ?_; rintro e ws ⟨A, c, rfl, hcc, HM, P1, HB1⟩)
  have hs1 := hide HB1.size
  have HB := hide (hbw.out.trans (HB1.mono (by simp)))
  have HM := hide HM
  have HP1 := hide P1
  have hs2 := hide (show w.heap.size ≤ ws.heap.size from HB.out.size)
  clear P1 HB1 hsa hbw hW2
  go_loopg [4, 11] 4 (fun n v i wr => ∃ k : Nat, k + n = 4 ∧ i = .int .i64 k ∧ Hid (Mine wr ws.heap.size v (p.secs k)) ∧ Hid (Below ws.heap.size ws wr))
  case atStart => exact ⟨0, by omega, rfl, hide (own_nil _ _ _), hide (Below.refl _ _)⟩
  case round =>
    obtain ⟨k, hk, rfl, hm, hbe⟩ := hrel
    cases gk with
    | zero =>
      obtain rfl : k = 4 := by omega
      go_wp2
      go_ret
      rw [HE.out]
      exact ⟨_, rfl, hm.out.more hs2.out, HB.out.trans (hbe.out.mono hs2.out)⟩
    | succ n =>
      have hlt : k < 4 := by omega
      have P2 := HP1.out.below hbe.out
      have d0 := P2.markC
      have hM2 := hide (HM.out.below hbe.out)
      have hlk := p.secs_length hs k (by omega)
      have hfr := fun W => run_from (A := A) (c := c) hlt W
      have hto := fun W => run_to (A := hiA A c (k * 56)) (n := 224 - k * 56) (c := c - k * 56) (by omega) W
      have hsz := hide (hbe.out.size)
      clear P2
      go_wp2_with (first
        | (go_at_call 53; (with_reducible refine (put_8 _ _ p.mark _ (by rw [hlk]; omega) hm.out.rd).mono ?_); rintro e w2 ⟨v2, rfl, hown2, hb2⟩; have hM3 := hide (rd_sec hlt (hM2.out.below hb2)); have hown3 := hide (hown2.more hsz.out); have hbe3 := hide (hbe.out.trans (hb2.mono hsz.out)); clear hown2 hb2)
        | (at_builtin; refine wpList_append_rd rfl (.tmp 18) (.tmp 23) 58 rfl (base := ws.heap.size) 5 i0 (.int .u8 0) 1 Try.underlying58 hi hz0 hz1 hz2 rfl v2 _ _ rfl hown3.out (.slice (hiA A c (k * 56)) 56 (c - k * 56)) _ rfl hM3.out (oneCell_u8s _) (by simp [u8s_length, hlk, be_length]; unfold maxLen; omega) (by simp [u8s_length, hlk, be_length]; omega) hbe3.out.size ?_; intro v4 w4 hown4 hgrow hat_))
      go_roundg n
      case rel =>
        refine ⟨k + 1, by omega, by go_num, hide ?_, hide (hbe3.out.grown hgrow hbe3.out.size fun k hk => (World.ownsRow.lt hown3.out k hk).1)⟩
        unfold Mine
        rw [Pg.secs, List.length_append, u8s_append, ← u8s_length ((p.saidL.drop (k * 56)).take 56)]
        exact hown4
      case measure => omega
theorem encode_pg {p : Pg} (w : World) (hs : p.sized) (ht : p.ten < 65536) (hn : p.num < 65536) :
    Calls Try.prog 65 #[p.val] w fun e w' => ∃ v', e = .returned v' ∧ Mine w' w.heap.size v' p.encL ∧ Below w.heap.size w w' := by
  by_cases hz : p.mark = 0
  · exact enc_zero w hz
  · exact enc_some w hs ht hn hz
end
section
/- Contract of package page: read. -/
open Go.RowKit

set_option linter.unusedSimpArgs false
set_option linter.unusedVariables false

/-- What is read of a page's bytes: the reader behind k sectors, the last mark, what they say. -/
def rdSt (l : List UInt8) : Nat → St
  | 0 => ⟨l, false⟩
  | k + 1 => ((rdSt l k).numSt 8).take 56
def rdMark (l : List UInt8) : Nat → Nat
  | 0 => 0
  | k + 1 => (rdSt l k).num 8
def rdSaid (l : List UInt8) : Nat → List UInt8
  | 0 => []
  | k + 1 => rdSaid l k ++ ((rdSt l k).numSt 8).got 56
def slSt (m : List UInt8) : Nat → St
  | 0 => ((⟨m, false⟩ : St).numSt 2).numSt 2
  | k + 1 => (slSt m k).take 40
def rdPg (l : List UInt8) : Nat → Pg
  | 0 => ⟨rdMark l 4, (⟨rdSaid l 4, false⟩ : St).num 2, ((⟨rdSaid l 4, false⟩ : St).numSt 2).num 2, fun _ => ⟨#[]⟩⟩
  | k + 1 => (rdPg l k).put k ⟨((slSt (rdSaid l 4) k).got 40).toArray⟩
def readP (l : List UInt8) : Pg := rdPg l 5
def pZ : Pg := ⟨0, 0, 0, fun _ => ⟨#[]⟩⟩
theorem St.got_le_n (s : St) (n : Nat) : (s.got n).length ≤ n := by
  unfold St.got
  split
  · rw [List.length_take]; simp; omega
  · simp
theorem rdSt_length (l : List UInt8) : ∀ k, (rdSt l k).rest.length ≤ l.length
  | 0 => Nat.le_refl _
  | k + 1 => Nat.le_trans (St.take_length _ _) (Nat.le_trans (St.numSt_length _ _) (rdSt_length l k))
theorem rdSaid_length (l : List UInt8) : ∀ k, (rdSaid l k).length ≤ 56 * k
  | 0 => Nat.le_refl _
  | k + 1 => by
    have : (((rdSt l k).numSt 8).got 56).length ≤ 56 := ((rdSt l k).numSt 8).got_le_n 56
    have := rdSaid_length l k
    rw [rdSaid, List.length_append]
    omega
theorem slSt_length (m : List UInt8) : ∀ k, (slSt m k).rest.length ≤ m.length
  | 0 => Nat.le_trans (St.numSt_length _ _) (St.numSt_length _ _)
  | k + 1 => Nat.le_trans (St.take_length _ _) (slSt_length m k)
theorem rdMark_lt (l : List UInt8) (k : Nat) : rdMark l k < 18446744073709551616 := by
  cases k with
  | zero => show 0 < _; omega
  | succ k => exact St.num_lt _ _
theorem Pg.put_head (p : Pg) (k : Nat) (s : ByteArray) : (p.put k s).mark = p.mark ∧ (p.put k s).ten = p.ten ∧ (p.put k s).num = p.num := by
  unfold Pg.put
  split <;> exact ⟨rfl, rfl, rfl⟩

/-- What 'read' holds: a reader, the page that it fills, the page that it will answer. -/
def RdS (w wr : World) (lo g2 g3 g4 : Nat) (s : St) (p : Pg) : Prop :=
  Rdr wr lo g3 s ∧ PgB wr g4 p ∧ PgB wr g2 pZ ∧ Below w.heap.size w wr ∧ w.heap.size ≤ g2 ∧ w.heap.size ≤ lo ∧ g2 < lo ∧ g2 < g4 ∧ (g4 < lo ∨ g3 < g4)
theorem RdS.rdr {w wr : World} {lo g2 g3 g4 : Nat} {s : St} {p : Pg} (h : RdS w wr lo g2 g3 g4 s p) : Rdr wr lo g3 s := h.1
theorem RdS.pg {w wr : World} {lo g2 g3 g4 : Nat} {s : St} {p : Pg} (h : RdS w wr lo g2 g3 g4 s p) : PgB wr g4 p := h.2.1
theorem RdS.res {w wr : World} {lo g2 g3 g4 : Nat} {s : St} {p : Pg} (h : RdS w wr lo g2 g3 g4 s p) : PgB wr g2 pZ := h.2.2.1
theorem RdS.bel {w wr : World} {lo g2 g3 g4 : Nat} {s : St} {p : Pg} (h : RdS w wr lo g2 g3 g4 s p) : Below w.heap.size w wr := h.2.2.2.1
theorem RdS.step {w wr wr' : World} {lo g2 g3 g4 : Nat} {s s' : St} {p : Pg} (h : RdS w wr lo g2 g3 g4 s p) (hg : wr.grownBy wr' (some g3)) (hr : Rdr wr' lo g3 s') : RdS w wr' lo g2 g3 g4 s' p := by
  obtain ⟨h1, h2, h3, h4, h5, h6, h7, h8, h9⟩ := h
  have := h1.lo_le
  refine ⟨hr, h2.grown hg (fun e => by injection e with e; omega), h3.grown hg (fun e => by injection e with e; omega), h4.grown hg h4.size (fun k hk => by injection hk with hk; omega), h5, h6, h7, h8, h9⟩
theorem RdS.own {w wr wr' : World} {lo g2 g3 g4 : Nat} {s : St} {p : Pg} {row : Option Nat} (h : RdS w wr lo g2 g3 g4 s p) (hg : wr.grownBy wr' row) (hk : ∀ k, row = some k → g3 < k ∧ g4 < k) : RdS w wr' lo g2 g3 g4 s p := by
  obtain ⟨h1, h2, h3, h4, h5, h6, h7, h8, h9⟩ := h
  have := h1.lo_le
  refine ⟨h1.keep hg (fun k e => .inr (hk k e).1), h2.grown hg (fun e => by have := hk _ e; omega), h3.grown hg (fun e => by have := hk _ e; omega), h4.grown hg h4.size (fun k e => by have := hk k e; omega), h5, h6, h7, h8, h9⟩
theorem RdS.page {w wr wr' : World} {lo g2 g3 g4 : Nat} {s : St} {p p' : Pg} (h : RdS w wr lo g2 g3 g4 s p) (hg : wr.grownBy wr' (some g4)) (hp : PgB wr' g4 p') : RdS w wr' lo g2 g3 g4 s p' := by
  obtain ⟨h1, h2, h3, h4, h5, h6, h7, h8, h9⟩ := h
  have := h1.lo_le
  refine ⟨h1.keep hg (fun k e => by injection e with e; omega), hp, h3.grown hg (fun e => by injection e with e; omega), h4.grown hg h4.size (fun k e => by injection e with e; omega), h5, h6, h7, h8, h9⟩
theorem RdS.renew {w wr wr' : World} {lo g2 g3 g4 g5 : Nat} {s s' : St} {p : Pg} (h : RdS w wr lo g2 g3 g4 s p) (hr : Rdr wr' wr.heap.size g5 s') (hb : Below wr.heap.size wr wr') : RdS w wr' wr.heap.size g2 g5 g4 s' p := by
  obtain ⟨h1, h2, h3, h4, h5, h6, h7, h8, h9⟩ := h
  have := h2.lt
  exact ⟨hr, h2.below hb, h3.below hb, h4.trans (hb.mono h4.size), h5, h4.size, by omega, h8, .inl this⟩
theorem Mine.grown {w w' : World} {base : Nat} {v : Value} {l : List UInt8} {row : Option Nat} (h : Mine w base v l) (hg : w.grownBy w' row) (hr : ∀ k, row = some k → k < base) : Mine w' base v l := by
  refine World.ownsRow.kept (row := row) h hg ?_
  cases hv : v.ownBlock with
  | none => exact .inl rfl
  | some k => refine .inr fun e => ?_; have := hr k e.symm; have := (World.ownsRow.lt h k hv).1; omega
theorem PgB.set_mark {w : World} {g : Nat} {p : Pg} (h : PgB w g p) (m : Nat) : PgB (w.setCell ⟨g, 0, none⟩ (.int .u64 (m : Int))) g ⟨m, p.ten, p.num, p.s⟩ := Blk.set_ h 0 _
theorem PgB.set_who {w : World} {g : Nat} {p : Pg} (h : PgB w g p) (t n : Nat) : PgB ((w.setCell ⟨g, 1, none⟩ (.int .i64 (t : Int))).setCell ⟨g, 2, none⟩ (.int .i64 (n : Int))) g ⟨p.mark, t, n, p.s⟩ := Blk.set_ (Blk.set_ h 1 _) 2 _
theorem grownBy_refl (w : World) (row : Option Nat) : w.grownBy w row := ⟨rfl, rfl, rfl, Nat.le_refl _, fun _ _ _ => rfl⟩
theorem num_8 {w : World} {lo g : Nat} {s : St} (h : Rdr w lo g s) (hm : s.rest.length ≤ 70368744177664) :
    Calls Try.prog 68 #[ptr g, .int .i64 8] w fun e w' => e = .returned (.int .u64 (s.num 8 : Int)) ∧ Rdr w' lo g (s.numSt 8) ∧ w.grownBy w' (some g) := num_any 8 h hm
theorem num_2 {w : World} {lo g : Nat} {s : St} (h : Rdr w lo g s) (hm : s.rest.length ≤ 70368744177664) :
    Calls Try.prog 68 #[ptr g, .int .i64 2] w fun e w' => e = .returned (.int .u64 (s.num 2 : Int)) ∧ Rdr w' lo g (s.numSt 2) ∧ w.grownBy w' (some g) := num_any 2 h hm
theorem take_56 {w : World} {lo g : Nat} {s : St} (h : Rdr w lo g s) (hm : s.rest.length ≤ 70368744177664) :
    Calls Try.prog 89 #[ptr g, .int .i64 56] w fun e w' => ∃ A c, e = .returned (.slice A (s.got 56).length c) ∧ Rd w' (.slice A (s.got 56).length c) (u8s (s.got 56)) ∧ Rdr w' lo g (s.take 56) ∧ w.grownBy w' (some g) :=
  (take_told 56 h hm).mono fun _ _ ⟨A, c, h1, h2, h3, h4, _⟩ => ⟨A, c, h1, h2, h3, h4⟩
theorem take_40 {w : World} {lo g : Nat} {s : St} (h : Rdr w lo g s) (hm : s.rest.length ≤ 70368744177664) :
    Calls Try.prog 89 #[ptr g, .int .i64 40] w fun e w' => ∃ A c, e = .returned (.slice A (s.got 40).length c) ∧ Rdr w' lo g (s.take 40) ∧ w.grownBy w' (some g) ∧
      (convert 58 9 (.slice A (s.got 40).length c)).run Try.prog w' = .ok (.string ⟨(s.got 40).toArray⟩) w' :=
  (take_told 40 h hm).mono fun _ _ ⟨A, c, h1, _, h3, h4, h5⟩ => ⟨A, c, h1, h3, h4, h5⟩
theorem pgb_zero (w : World) : PgB (w.alloc (.cells #[.int .u64 0, .int .i64 0, .int .i64 0, .string ⟨#[]⟩, .string ⟨#[]⟩, .string ⟨#[]⟩, .string ⟨#[]⟩, .string ⟨#[]⟩] 53)) w.heap.size pZ := heap_new w _
theorem rds_new {w w2 : World} {g3 : Nat} {s : St} (hr : Rdr w2 (w.alloc (.cells #[.int .u64 0, .int .i64 0, .int .i64 0, .string ⟨#[]⟩, .string ⟨#[]⟩, .string ⟨#[]⟩, .string ⟨#[]⟩, .string ⟨#[]⟩] 53)).heap.size g3 s) (hb : Below (w.alloc (.cells #[.int .u64 0, .int .i64 0, .int .i64 0, .string ⟨#[]⟩, .string ⟨#[]⟩, .string ⟨#[]⟩, .string ⟨#[]⟩, .string ⟨#[]⟩] 53)).heap.size (w.alloc (.cells #[.int .u64 0, .int .i64 0, .int .i64 0, .string ⟨#[]⟩, .string ⟨#[]⟩, .string ⟨#[]⟩, .string ⟨#[]⟩, .string ⟨#[]⟩] 53)) w2) :
    RdS w (w2.alloc (.cells #[.int .u64 0, .int .i64 0, .int .i64 0, .string ⟨#[]⟩, .string ⟨#[]⟩, .string ⟨#[]⟩, .string ⟨#[]⟩, .string ⟨#[]⟩] 53)) (w.heap.size + 1) w.heap.size g3 w2.heap.size s pZ := by
  have hs : (w.alloc (.cells #[.int .u64 0, .int .i64 0, .int .i64 0, .string ⟨#[]⟩, .string ⟨#[]⟩, .string ⟨#[]⟩, .string ⟨#[]⟩, .string ⟨#[]⟩] 53)).heap.size = w.heap.size + 1 := by simp
  have hb0 := (Below.refl w.heap.size w).alloc (Nat.le_refl _) (.cells #[.int .u64 0, .int .i64 0, .int .i64 0, .string ⟨#[]⟩, .string ⟨#[]⟩, .string ⟨#[]⟩, .string ⟨#[]⟩, .string ⟨#[]⟩] 53)
  have h2 := hb.size
  have hlt := hr.lt
  rw [hs] at hr h2
  refine ⟨hr.alloc _, pgb_zero w2, ((pgb_zero w).below hb).alloc _, ?_, Nat.le_refl _, by omega, by omega, by omega, .inr hlt⟩
  exact (hb0.trans (hb.mono (by rw [hs]; omega))).alloc (by omega) _
set_option maxRecDepth 20000 in
set_option maxHeartbeats 2000000 in
theorem read_pg (v : Value) (l : List UInt8) (w : World) (hm : l.length ≤ 1000000) (hv : Rd w v (u8s l)) :
    Calls Try.prog 73 #[v] w fun e w' => e = .returned (readP l).val ∧ Below w.heap.size w w' := by
  obtain ⟨i0, hi, hz0, hz1, hz2⟩ := info_parts info8
  have hv1 := hide (hv.alloc (.cells #[.int .u64 0, .int .i64 0, .int .i64 0, .string ⟨#[]⟩, .string ⟨#[]⟩, .string ⟨#[]⟩, .string ⟨#[]⟩, .string ⟨#[]⟩] 53))
  clear hv
  go_enter Try.func73, Try.ntmps73
  go_wp2_with (first
    | (go_at_call 67; (with_reducible refine (new_any _ l _ (by omega) hv1.out).mono ?_); rintro e w2 ⟨g3, rfl, hr2, hb2⟩; have R0 := hide (rds_new hr2 hb2); clear hr2 hb2))
  have hB := hide (show w2.heap.size < (w2.alloc (.cells #[.int .u64 0, .int .i64 0, .int .i64 0, .string ⟨#[]⟩, .string ⟨#[]⟩, .string ⟨#[]⟩, .string ⟨#[]⟩, .string ⟨#[]⟩] 53)).heap.size by simp)
  generalize w2.alloc (.cells #[.int .u64 0, .int .i64 0, .int .i64 0, .string ⟨#[]⟩, .string ⟨#[]⟩, .string ⟨#[]⟩, .string ⟨#[]⟩, .string ⟨#[]⟩] 53) = w3 at *
  generalize w2.heap.size = g4 at *
  go_loopg [5, 9] 4 (fun n v i wr => ∃ k : Nat, k + n = 4 ∧ i = .int .i64 k ∧ Hid (RdS w wr (w.heap.size + 1) w.heap.size g3 g4 (rdSt l k) ⟨rdMark l k, 0, 0, fun _ => ⟨#[]⟩⟩) ∧ Hid (Mine wr w3.heap.size v (rdSaid l k)) ∧ Hid (w3.heap.size ≤ wr.heap.size))
  case atStart => exact ⟨0, by omega, rfl, R0, hide (own_nil _ _ _), hide (Nat.le_refl _)⟩
  case round =>
    obtain ⟨k, hk, rfl, hr, hmi, hsz⟩ := hrel
    cases gk with
    | zero =>
      obtain rfl : k = 4 := by omega
      have hl4 := rdSaid_length l 4
      have hl6 : (⟨rdSaid l 4, false⟩ : St).rest.length ≤ 70368744177664 := Nat.le_trans hl4 (by omega)
      have hl7 : ((⟨rdSaid l 4, false⟩ : St).numSt 2).rest.length ≤ 70368744177664 := Nat.le_trans (St.numSt_length _ 2) hl6
      go_wp2_with (first
        | (go_at_call 67; (with_reducible refine (new_any _ (rdSaid l 4) _ (by omega) hmi.out.rd).mono ?_); rintro e w5 ⟨g5, rfl, hr5, hb5⟩; have R5 := hide (hr.out.renew hr5 hb5); clear hr5 hb5)
        | (go_at_call 68; (with_reducible refine (num_2 R5.out.rdr hl6).mono ?_); rintro e w6 ⟨rfl, hr6, hg6⟩; have R6 := hide (R5.out.step hg6 hr6); have n6 := St.num2_lt ⟨rdSaid l 4, false⟩; clear hr6 hg6)
        | (go_at_call 68; (with_reducible refine (num_2 R6.out.rdr hl7).mono ?_); rintro e w7 ⟨rfl, hr7, hg7⟩; have R7 := hide (R6.out.step hg7 hr7); have n7 := St.num2_lt ((⟨rdSaid l 4, false⟩ : St).numSt 2); have d1 := R7.out.pg.tenC; have d2 := R7.out.pg.numC; have f1 := R7.out.pg.frozen 1; have f2 := R7.out.pg.frozen 2; clear hr7 hg7))
      have R8 := hide (R7.out.page (grownBy_own (grownBy_own (grownBy_refl w7 (some g4)) 1 (.int .i64 ((⟨rdSaid l 4, false⟩ : St).num 2 : Int))) 2 (.int .i64 (((⟨rdSaid l 4, false⟩ : St).numSt 2).num 2 : Int))) (R7.out.pg.set_who ((⟨rdSaid l 4, false⟩ : St).num 2) (((⟨rdSaid l 4, false⟩ : St).numSt 2).num 2)))
      have HS := hide (slSt_length (rdSaid l 4))
      clear R7 R6 R5 n6 n7 d1 d2 f1 f2 hr hmi hsz
      go_loopg [29] 5 (fun n i wr2 => ∃ k : Nat, k + n = 5 ∧ i = .int .i64 k ∧ Hid (RdS w wr2 wr.heap.size w.heap.size g5 g4 (slSt (rdSaid l 4) k) (rdPg l k)))
      case atStart => exact ⟨0, by omega, rfl, R8⟩
      case round =>
        obtain ⟨k, hk, rfl, hr9⟩ := hrel
        cases gk with
        | zero =>
          obtain rfl : k = 5 := by omega
          have P9 := hr9.out.pg
          have Z9 := hr9.out.res
          have c0 := P9.markC
          have c1 := P9.tenC
          have c2 := P9.numC
          obtain ⟨c3, c4, c5, c6, c7⟩ := P9.slots
          have z0 := Z9.markC
          have z1 := Z9.tenC
          have z2 := Z9.numC
          obtain ⟨z3, z4, z5, z6, z7⟩ := Z9.slots
          have hfr := fun i => Z9.frozen i
          have HR := hide (show readP l = rdPg l 5 from rfl)
          clear P9 Z9
          go_wp2
          refine bodyPost_ret (v := (rdPg l 5).val) (by simp [results, Try.results73, go_sem, z0, z1, z2, z3, z4, z5, z6, z7, Pg.val, Pg.cells]) rfl ⟨by rw [HR.out], ?_⟩
          exact pg_set8_below (p := rdPg l 5) hr9.out.bel (Nat.le_refl _)
        | succ n =>
          have hlt : k < 5 := by omega
          have hl8 : (slSt (rdSaid l 4) k).rest.length ≤ 70368744177664 := Nat.le_trans (HS.out k) hl6
          go_wp2_with (first
            | (go_at_call 89; (with_reducible refine (take_40 hr9.out.rdr hl8).mono ?_); rintro e w8 ⟨A, c, rfl, hr8, hg8, hcv⟩; have R9 := hide (hr9.out.step hg8 hr8); clear hr8 hg8)
            | (go_at_call 23; refine (set_any R9.out.pg k hlt ⟨((slSt (rdSaid l 4) k).got 40).toArray⟩).mono ?_; rintro e w9 ⟨rfl, hp9, hg9⟩; have R10 := hide (R9.out.page hg9 hp9); clear hp9 hg9))
          go_roundg n
          case rel => exact ⟨k + 1, by omega, by go_num, R10⟩
          case measure => omega
    | succ n =>
      have hlt : k < 4 := by omega
      have hl0 := rdSt_length l k
      have hl1 := Nat.le_trans ((rdSt l k).numSt_length 8) hl0
      have hls := rdSaid_length l k
      have hl5 : (((rdSt l k).numSt 8).got 56).length ≤ 56 := ((rdSt l k).numSt 8).got_le_n 56
      have g3lt := hide (show g3 < w3.heap.size from R0.out.rdr.lt)
      go_wp2_with (first
        | (go_at_call 68; (with_reducible refine (num_8 hr.out.rdr (by omega)).mono ?_); rintro e w4 ⟨rfl, hr4, hg4⟩; have R4 := hr.out.step hg4 hr4; have hm4 := hmi.out.grown hg4 (fun k hk => by injection hk with hk; have := g3lt.out; omega); have d0 := R4.pg.markC; have f0 := R4.pg.frozen 0; have hg5 := grownBy_own (grownBy_refl w4 (some g4)) 0 (.int .u64 ((rdSt l k).num 8 : Int)); have R5 := hide (R4.page hg5 (R4.pg.set_mark ((rdSt l k).num 8))); have hm5 := hide (hm4.grown hg5 (fun k hk => by injection hk with hk; have := hB.out; omega)); have hB5 := hide (Nat.le_trans hsz.out (Nat.le_trans hg4.size hg5.size)); clear hr4 hg4 hg5 hm4 R4)
        | (go_at_call 89; (with_reducible refine (take_56 R5.out.rdr (by omega)).mono ?_); rintro e w6 ⟨A, c, rfl, hrd6, hr6, hg6⟩; have R6 := hide (R5.out.step hg6 hr6); have hm6 := hide (hm5.out.grown hg6 (fun k hk => by injection hk with hk; have := g3lt.out; omega)); have hrd := hide hrd6; have hB6 := hide (Nat.le_trans hB5.out hg6.size); clear hr6 hg6 hrd6)
        | (at_builtin; refine wpList_append_rd rfl (.tmp 14) (.tmp 16) 58 rfl (base := w3.heap.size) 5 i0 (.int .u8 0) 1 Try.underlying58 hi hz0 hz1 hz2 rfl u5 _ _ rfl hm6.out (.slice A (((rdSt l k).numSt 8).got 56).length c) _ rfl hrd.out (oneCell_u8s _) (by rw [u8s_length]; unfold maxLen; omega) (by rw [u8s_length]; omega) hB6.out ?_; intro v7 w7 hown7 hgrow hat_))
      go_roundg n
      case rel =>
        refine ⟨k + 1, by omega, by go_num, hide (R6.out.own hgrow fun k hk => ?_), hide ?_, hide (Nat.le_trans hB6.out hgrow.size)⟩
        · have := (World.ownsRow.lt hm6.out k hk).1; have := g3lt.out; have := hB.out; omega
        · unfold Mine
          rw [rdSaid, List.length_append, u8s_append, ← u8s_length (((rdSt l k).numSt 8).got 56)]
          exact hown7
      case measure => omega
end
section
/- Contract of package page: Decode, as a function of the bytes. -/
open Go.RowKit

set_option linter.unusedSimpArgs false
set_option linter.unusedVariables false

theorem okB_empty : okB ⟨#[]⟩ = true := by simp [okB]
theorem okB_size {s : ByteArray} (h : okB s = true) : s.size ≤ 40 := by
  unfold okB at h
  simp only [Bool.or_eq_true, decide_eq_true_eq] at h
  rcases h with rfl | h
  · exact Nat.zero_le _
  · have := rowB_length h
    rw [size_data] at this
    omega
theorem rdPg_ok (l : List UInt8) : ∀ k j, okB ((rdPg l k).s j) = true
  | 0, _ => okB_empty
  | k + 1, j => by
    rw [rdPg]
    unfold Pg.put
    split
    · rename_i h
      show okB (if j = k then _ else _) = true
      split
      · exact h
      · exact rdPg_ok l k j
    · exact rdPg_ok l k j
theorem rdPg_head (l : List UInt8) : ∀ k, (rdPg l k).mark = rdMark l 4 ∧ (rdPg l k).ten = (⟨rdSaid l 4, false⟩ : St).num 2 ∧ (rdPg l k).num = ((⟨rdSaid l 4, false⟩ : St).numSt 2).num 2
  | 0 => ⟨rfl, rfl, rfl⟩
  | k + 1 => by
    rw [rdPg]
    obtain ⟨h1, h2, h3⟩ := (rdPg l k).put_head k ⟨((slSt (rdSaid l 4) k).got 40).toArray⟩
    rw [h1, h2, h3]
    exact rdPg_head l k
/-- A page that may be. -/
def Pg.good (p : Pg) : Prop := p.mark < 18446744073709551616 ∧ p.ten < 65536 ∧ p.num < 65536 ∧ ∀ j, j < 5 → okB (p.s j) = true
theorem Pg.good_sized {p : Pg} (h : p.good) : p.sized := fun j hj => okB_size (h.2.2.2 j hj)
theorem readP_good (l : List UInt8) : (readP l).good := by
  obtain ⟨h1, h2, h3⟩ := rdPg_head l 5
  refine ⟨?_, ?_, ?_, fun j _ => rdPg_ok l 5 j⟩
  · show (rdPg l 5).mark < _; rw [h1]; exact rdMark_lt l 4
  · show (rdPg l 5).ten < _; rw [h2]; exact St.num2_lt _
  · show (rdPg l 5).num < _; rw [h3]; exact St.num2_lt _
/-- The page of zeros. -/
def pTN (t n : Nat) : Pg := ⟨0, t, n, fun _ => ⟨#[]⟩⟩
/-- What Decode takes it for. -/
def readTN (l : List UInt8) (t n : Nat) : Pg := if (readP l).mark = 0 then pTN t n else readP l
/-- Is it that page? -/
def isPg (l : List UInt8) (t n : Nat) : Prop := (readTN l t n).ten = t ∧ (readTN l t n).num = n ∧ (readTN l t n).encL = l
def zVal : Value := .agg #[.int .u64 0, .int .i64 0, .int .i64 0, .string ⟨#[]⟩, .string ⟨#[]⟩, .string ⟨#[]⟩, .string ⟨#[]⟩, .string ⟨#[]⟩]
theorem pgb_new (w : World) (p : Pg) : PgB (w.alloc (.cells p.cells 53)) w.heap.size p := heap_new w _
theorem read_told8 (v : Value) (l : List UInt8) (q : Pg) (w : World) (hq : readP l = q) (hm : l.length ≤ 1000000) (hv : Rd w v (u8s l)) :
    Calls Try.prog 73 #[v] w fun e w' => e = .returned (.agg #[.int .u64 (q.mark : Int), .int .i64 (q.ten : Int), .int .i64 (q.num : Int), .string (q.s 0), .string (q.s 1), .string (q.s 2), .string (q.s 3), .string (q.s 4)]) ∧ Below w.heap.size w w' := by
  subst hq
  exact read_pg v l w hm hv
theorem encode_told8 (q : Pg) (w : World) (hs : q.sized) (ht : q.ten < 65536) (hn : q.num < 65536) :
    Calls Try.prog 65 #[.agg #[.int .u64 (q.mark : Int), .int .i64 (q.ten : Int), .int .i64 (q.num : Int), .string (q.s 0), .string (q.s 1), .string (q.s 2), .string (q.s 3), .string (q.s 4)]] w fun e w' => ∃ v', e = .returned v' ∧ Rd w' v' (u8s q.encL) ∧ Below w.heap.size w w' := by
  refine (encode_pg (p := q) w hs ht hn).mono ?_
  rintro e w' ⟨v', rfl, hm, hb⟩
  exact ⟨v', rfl, hm.rd, hb⟩
/-- The result's cells, behind one more block. -/
theorem PgB.zero_alloc {w : World} {g : Nat} (h : PgB w g pZ) : (∀ o, (w.alloc o).cell? ⟨g, 0, none⟩ = some (.int .u64 0)) ∧ (∀ o, (w.alloc o).cell? ⟨g, 1, none⟩ = some (.int .i64 0)) ∧ (∀ o, (w.alloc o).cell? ⟨g, 2, none⟩ = some (.int .i64 0)) ∧
    (∀ o, (w.alloc o).cell? ⟨g, 3, none⟩ = some (.string ⟨#[]⟩)) ∧ (∀ o, (w.alloc o).cell? ⟨g, 4, none⟩ = some (.string ⟨#[]⟩)) ∧ (∀ o, (w.alloc o).cell? ⟨g, 5, none⟩ = some (.string ⟨#[]⟩)) ∧ (∀ o, (w.alloc o).cell? ⟨g, 6, none⟩ = some (.string ⟨#[]⟩)) ∧ (∀ o, (w.alloc o).cell? ⟨g, 7, none⟩ = some (.string ⟨#[]⟩)) ∧
    ∀ o i, (w.alloc o).frozen? ⟨g, i, none⟩ = false :=
  ⟨fun o => (h.alloc o).markC, fun o => (h.alloc o).tenC, fun o => (h.alloc o).numC, fun o => (h.alloc o).slots.1, fun o => (h.alloc o).slots.2.1, fun o => (h.alloc o).slots.2.2.1, fun o => (h.alloc o).slots.2.2.2.1, fun o => (h.alloc o).slots.2.2.2.2, fun o i => (h.alloc o).frozen i⟩
theorem PgB.zero_cells {w : World} {g : Nat} (h : PgB w g pZ) : w.cell? ⟨g, 0, none⟩ = some (.int .u64 0) ∧ w.cell? ⟨g, 1, none⟩ = some (.int .i64 0) ∧ w.cell? ⟨g, 2, none⟩ = some (.int .i64 0) ∧
    w.cell? ⟨g, 3, none⟩ = some (.string ⟨#[]⟩) ∧ w.cell? ⟨g, 4, none⟩ = some (.string ⟨#[]⟩) ∧ w.cell? ⟨g, 5, none⟩ = some (.string ⟨#[]⟩) ∧ w.cell? ⟨g, 6, none⟩ = some (.string ⟨#[]⟩) ∧ w.cell? ⟨g, 7, none⟩ = some (.string ⟨#[]⟩) ∧ ∀ i, w.frozen? ⟨g, i, none⟩ = false :=
  ⟨h.markC, h.tenC, h.numC, h.slots.1, h.slots.2.1, h.slots.2.2.1, h.slots.2.2.2.1, h.slots.2.2.2.2, fun i => h.frozen i⟩
theorem pdec_step {w w1 : World} (hb : Below (w.alloc (.cells pZ.cells 53)).heap.size (w.alloc (.cells pZ.cells 53)) w1) (o : Obj) : PgB w1 w.heap.size pZ ∧ Below w.heap.size w (w1.alloc o) := by
  have b0 := (Below.refl w.heap.size w).alloc (Nat.le_refl _) (.cells pZ.cells 53)
  have hs := hb.size
  have b1 := b0.trans (hb.mono b0.size)
  exact ⟨(pgb_new w pZ).below hb, b1.alloc b1.size o⟩
set_option maxRecDepth 20000 in
set_option maxHeartbeats 2000000 in
theorem pdec_who (v : Value) (l : List UInt8) (t n : Nat) (w : World) (hm : l.length ≤ 1000000) (hv : Rd w v (u8s l)) (h0 : (readP l).mark ≠ 0) (h1 : (readP l).ten ≠ t) :
    Calls Try.prog 45 #[v, .int .i64 (t : Int), .int .i64 (n : Int)] w fun e w' => e = .returned (.tuple #[zVal, .int .i64 11]) ∧ Below w.heap.size w w' := by
  generalize hq : readP l = q at *
  have hv1 := hide (hv.alloc (.cells pZ.cells 53))
  have hz : ¬ ((q.mark : Int) = 0) := by omega
  have hz1 : ¬ ((q.ten : Int) = (t : Int)) := by omega
  have HQ := hide hq
  have HW := hide hv
  clear hv hq
  go_enter Try.func45, Try.ntmps45
  go_wp2_with (go_at_call 73; refine (read_told8 _ l q _ HQ.out hm hv1.out).mono ?_; rintro e w1 ⟨rfl, hb1⟩; obtain ⟨Z1, B1⟩ := pdec_step hb1 (.cells #[.int .u64 (q.mark : Int), .int .i64 (q.ten : Int), .int .i64 (q.num : Int), .string (q.s 0), .string (q.s 1), .string (q.s 2), .string (q.s 3), .string (q.s 4)] 53); have HZ := hide Z1; have HB := hide B1; have P1 := hide (pgb_new w1 q); obtain ⟨z0, z1, z2, z3, z4, z5, z6, z7, zf⟩ := Z1.zero_alloc; clear Z1 B1 hb1)
  refine bodyPost_ret (v := .tuple #[zVal, .int .i64 11]) (by simp [results, Try.results45, go_sem, z0, z1, z2, z3, z4, z5, z6, z7, zVal, Pg.val, Pg.cells]) rfl ⟨rfl, ?_⟩
  exact pg_set8_below (p := pZ) HB.out (Nat.le_refl _)
set_option maxRecDepth 20000 in
set_option maxHeartbeats 2000000 in
theorem pdec_num (v : Value) (l : List UInt8) (t n : Nat) (w : World) (hm : l.length ≤ 1000000) (hv : Rd w v (u8s l)) (h0 : (readP l).mark ≠ 0) (h1 : (readP l).ten = t) (h2 : (readP l).num ≠ n) :
    Calls Try.prog 45 #[v, .int .i64 (t : Int), .int .i64 (n : Int)] w fun e w' => e = .returned (.tuple #[zVal, .int .i64 11]) ∧ Below w.heap.size w w' := by
  generalize hq : readP l = q at *
  have hv1 := hide (hv.alloc (.cells pZ.cells 53))
  have hz : ¬ ((q.mark : Int) = 0) := by omega
  have hz2 : ¬ ((q.num : Int) = (n : Int)) := by omega
  subst h1
  have HQ := hide hq
  have HW := hide hv
  clear hv hq
  go_enter Try.func45, Try.ntmps45
  go_wp2_with (go_at_call 73; refine (read_told8 _ l q _ HQ.out hm hv1.out).mono ?_; rintro e w1 ⟨rfl, hb1⟩; obtain ⟨Z1, B1⟩ := pdec_step hb1 (.cells #[.int .u64 (q.mark : Int), .int .i64 (q.ten : Int), .int .i64 (q.num : Int), .string (q.s 0), .string (q.s 1), .string (q.s 2), .string (q.s 3), .string (q.s 4)] 53); have HZ := hide Z1; have HB := hide B1; have P1 := hide (pgb_new w1 q); obtain ⟨z0, z1, z2, z3, z4, z5, z6, z7, zf⟩ := Z1.zero_alloc; clear Z1 B1 hb1)
  refine bodyPost_ret (v := .tuple #[zVal, .int .i64 11]) (by simp [results, Try.results45, go_sem, z0, z1, z2, z3, z4, z5, z6, z7, zVal, Pg.val, Pg.cells]) rfl ⟨rfl, ?_⟩
  exact pg_set8_below (p := pZ) HB.out (Nat.le_refl _)
set_option maxRecDepth 20000 in
set_option maxHeartbeats 2000000 in
theorem pdec_yes (v : Value) (l : List UInt8) (t n : Nat) (w : World) (hm : l.length ≤ 1000000) (hv : Rd w v (u8s l)) (h0 : (readP l).mark ≠ 0) (h1 : (readP l).ten = t) (h2 : (readP l).num = n) (h3 : (readP l).encL = l) :
    Calls Try.prog 45 #[v, .int .i64 (t : Int), .int .i64 (n : Int)] w fun e w' => e = .returned (.tuple #[(readP l).val, .int .i64 0]) ∧ Below w.heap.size w w' := by
  generalize hq : readP l = q at *
  have hv1 := hide (hv.alloc (.cells pZ.cells 53))
  have hz : ¬ ((q.mark : Int) = 0) := by omega
  subst h1 h2
  have HG : q.good := by rw [← hq]; exact readP_good l
  have HS := hide (Pg.good_sized HG)
  have hq1 := HG.2.1
  have hq2 := HG.2.2.1
  have HX := hide h3
  clear HG h3
  have HQ := hide hq
  have HW := hide hv
  clear hv hq
  go_enter Try.func45, Try.ntmps45
  go_wp2_with (first
    | (go_at_call 73; refine (read_told8 _ l q _ HQ.out hm hv1.out).mono ?_; rintro e w1 ⟨rfl, hb1⟩; obtain ⟨Z1, B1⟩ := pdec_step hb1 (.cells #[.int .u64 (q.mark : Int), .int .i64 (q.ten : Int), .int .i64 (q.num : Int), .string (q.s 0), .string (q.s 1), .string (q.s 2), .string (q.s 3), .string (q.s 4)] 53); have HZ := hide Z1; have HB := hide B1; have P1 := hide (pgb_new w1 q); obtain ⟨z0, z1, z2, z3, z4, z5, z6, z7, zf⟩ := Z1.zero_alloc; clear Z1 B1 hb1)
    | (go_at_call 65; refine (encode_told8 q _ HS.out hq1 hq2).mono ?_; rintro e w2 ⟨v2, rfl, hr2, hb2⟩; have P2 := P1.out.below hb2; have HZ2 := (HZ.out.alloc _).below hb2; have HB2 := hide (HB.out.trans (hb2.mono HB.out.size)); have hv2 := HW.out.below HB2.out; obtain ⟨z0, z1, z2, z3, z4, z5, z6, z7, zf⟩ := HZ2.zero_cells; have c0 := P2.markC; have c1 := P2.tenC; have c2 := P2.numC; obtain ⟨c3, c4, c5, c6, c7⟩ := P2.slots; clear P2 HZ2 hb2)
    | (go_at_call 74; refine (equal_yes _ _ q.encL l _ hr2 hv2 HX.out).mono ?_; rintro e w3 ⟨rfl, rfl⟩))
  refine bodyPost_ret (v := .tuple #[q.val, .int .i64 0]) (by simp [results, Try.results45, go_sem, z0, z1, z2, z3, z4, z5, z6, z7, zVal, Pg.val, Pg.cells]) rfl ⟨rfl, ?_⟩
  exact pg_set8_below (p := q) HB2.out (Nat.le_refl _)
set_option maxRecDepth 20000 in
set_option maxHeartbeats 2000000 in
theorem pdec_no (v : Value) (l : List UInt8) (t n : Nat) (w : World) (hm : l.length ≤ 1000000) (hv : Rd w v (u8s l)) (h0 : (readP l).mark ≠ 0) (h1 : (readP l).ten = t) (h2 : (readP l).num = n) (h3 : (readP l).encL ≠ l) :
    Calls Try.prog 45 #[v, .int .i64 (t : Int), .int .i64 (n : Int)] w fun e w' => e = .returned (.tuple #[zVal, .int .i64 11]) ∧ Below w.heap.size w w' := by
  generalize hq : readP l = q at *
  have hv1 := hide (hv.alloc (.cells pZ.cells 53))
  have hz : ¬ ((q.mark : Int) = 0) := by omega
  subst h1 h2
  have HG : q.good := by rw [← hq]; exact readP_good l
  have HS := hide (Pg.good_sized HG)
  have hq1 := HG.2.1
  have hq2 := HG.2.2.1
  have HX := hide h3
  clear HG h3
  have HQ := hide hq
  have HW := hide hv
  clear hv hq
  go_enter Try.func45, Try.ntmps45
  go_wp2_with (first
    | (go_at_call 73; refine (read_told8 _ l q _ HQ.out hm hv1.out).mono ?_; rintro e w1 ⟨rfl, hb1⟩; obtain ⟨Z1, B1⟩ := pdec_step hb1 (.cells #[.int .u64 (q.mark : Int), .int .i64 (q.ten : Int), .int .i64 (q.num : Int), .string (q.s 0), .string (q.s 1), .string (q.s 2), .string (q.s 3), .string (q.s 4)] 53); have HZ := hide Z1; have HB := hide B1; have P1 := hide (pgb_new w1 q); obtain ⟨z0, z1, z2, z3, z4, z5, z6, z7, zf⟩ := Z1.zero_alloc; clear Z1 B1 hb1)
    | (go_at_call 65; refine (encode_told8 q _ HS.out hq1 hq2).mono ?_; rintro e w2 ⟨v2, rfl, hr2, hb2⟩; have P2 := P1.out.below hb2; have HZ2 := (HZ.out.alloc _).below hb2; have HB2 := hide (HB.out.trans (hb2.mono HB.out.size)); have hv2 := HW.out.below HB2.out; obtain ⟨z0, z1, z2, z3, z4, z5, z6, z7, zf⟩ := HZ2.zero_cells; have c0 := P2.markC; have c1 := P2.tenC; have c2 := P2.numC; obtain ⟨c3, c4, c5, c6, c7⟩ := P2.slots; clear P2 HZ2 hb2)
    | (go_at_call 74; refine (equal_no _ _ q.encL l _ hr2 hv2 HX.out).mono ?_; rintro e w3 ⟨rfl, rfl⟩))
  refine bodyPost_ret (v := .tuple #[zVal, .int .i64 11]) (by simp [results, Try.results45, go_sem, z0, z1, z2, z3, z4, z5, z6, z7, zVal, Pg.val, Pg.cells]) rfl ⟨rfl, ?_⟩
  exact pg_set8_below (p := pZ) HB2.out (Nat.le_refl _)
theorem encode_zero8 (t n : Nat) (w : World) :
    Calls Try.prog 65 #[.agg #[.int .u64 0, .int .i64 (t : Int), .int .i64 (n : Int), .string ⟨#[]⟩, .string ⟨#[]⟩, .string ⟨#[]⟩, .string ⟨#[]⟩, .string ⟨#[]⟩]] w fun e w' => ∃ v', e = .returned v' ∧ Rd w' v' (u8s z256) ∧ Below w.heap.size w w' := by
  refine (enc_zero (p := pTN t n) w rfl).mono ?_
  rintro e w' ⟨v', rfl, hm, hb⟩
  exact ⟨v', rfl, hm.rd, hb⟩
theorem PgB.tn_cells {w : World} {g t n : Nat} (h : PgB w g (pTN t n)) : w.cell? ⟨g, 0, none⟩ = some (.int .u64 0) ∧ w.cell? ⟨g, 1, none⟩ = some (.int .i64 (t : Int)) ∧ w.cell? ⟨g, 2, none⟩ = some (.int .i64 (n : Int)) ∧
    w.cell? ⟨g, 3, none⟩ = some (.string ⟨#[]⟩) ∧ w.cell? ⟨g, 4, none⟩ = some (.string ⟨#[]⟩) ∧ w.cell? ⟨g, 5, none⟩ = some (.string ⟨#[]⟩) ∧ w.cell? ⟨g, 6, none⟩ = some (.string ⟨#[]⟩) ∧ w.cell? ⟨g, 7, none⟩ = some (.string ⟨#[]⟩) :=
  ⟨h.markC, h.tenC, h.numC, h.slots.1, h.slots.2.1, h.slots.2.2.1, h.slots.2.2.2.1, h.slots.2.2.2.2⟩
set_option maxRecDepth 20000 in
set_option maxHeartbeats 2000000 in
theorem pdec0_yes (v : Value) (l : List UInt8) (t n : Nat) (w : World) (hm : l.length ≤ 1000000) (hv : Rd w v (u8s l)) (h0 : (readP l).mark = 0) (h3 : z256 = l) :
    Calls Try.prog 45 #[v, .int .i64 (t : Int), .int .i64 (n : Int)] w fun e w' => e = .returned (.tuple #[(pTN t n).val, .int .i64 0]) ∧ Below w.heap.size w w' := by
  generalize hq : readP l = q at *
  have hv1 := hide (hv.alloc (.cells pZ.cells 53))
  have hz : (q.mark : Int) = 0 := by omega
  have HX := hide h3
  clear h3
  have HQ := hide hq
  have HW := hide hv
  clear hv hq
  go_enter Try.func45, Try.ntmps45
  go_wp2_with (first
    | (go_at_call 73; refine (read_told8 _ l q _ HQ.out hm hv1.out).mono ?_; rintro e w1 ⟨rfl, hb1⟩; obtain ⟨Z1, B1⟩ := pdec_step hb1 (.cells #[.int .u64 0, .int .i64 (t : Int), .int .i64 (n : Int), .string ⟨#[]⟩, .string ⟨#[]⟩, .string ⟨#[]⟩, .string ⟨#[]⟩, .string ⟨#[]⟩] 53); have HZ := hide Z1; have HB := hide B1; have P1 := hide (pgb_new w1 (pTN t n)); obtain ⟨z0, z1, z2, z3, z4, z5, z6, z7, zf⟩ := Z1.zero_alloc; clear Z1 B1 hb1)
    | (go_at_call 65; refine (encode_zero8 t n _).mono ?_; rintro e w2 ⟨v2, rfl, hr2, hb2⟩; have P2 := P1.out.below hb2; have HZ2 := (HZ.out.alloc _).below hb2; have HB2 := hide (HB.out.trans (hb2.mono HB.out.size)); have hv2 := HW.out.below HB2.out; obtain ⟨z0, z1, z2, z3, z4, z5, z6, z7, zf⟩ := HZ2.zero_cells; obtain ⟨c0, c1, c2, c3, c4, c5, c6, c7⟩ := P2.tn_cells; clear P2 HZ2 hb2)
    | (go_at_call 74; refine (equal_yes _ _ z256 l _ hr2 hv2 HX.out).mono ?_; rintro e w3 ⟨rfl, rfl⟩))
  refine bodyPost_ret (v := .tuple #[(pTN t n).val, .int .i64 0]) (by simp [results, Try.results45, go_sem, z0, z1, z2, z3, z4, z5, z6, z7, zVal, Pg.val, Pg.cells, pTN]) rfl ⟨rfl, ?_⟩
  exact pg_set8_below (p := pTN t n) HB2.out (Nat.le_refl _)
set_option maxRecDepth 20000 in
set_option maxHeartbeats 2000000 in
theorem pdec0_no (v : Value) (l : List UInt8) (t n : Nat) (w : World) (hm : l.length ≤ 1000000) (hv : Rd w v (u8s l)) (h0 : (readP l).mark = 0) (h3 : z256 ≠ l) :
    Calls Try.prog 45 #[v, .int .i64 (t : Int), .int .i64 (n : Int)] w fun e w' => e = .returned (.tuple #[zVal, .int .i64 11]) ∧ Below w.heap.size w w' := by
  generalize hq : readP l = q at *
  have hv1 := hide (hv.alloc (.cells pZ.cells 53))
  have hz : (q.mark : Int) = 0 := by omega
  have HX := hide h3
  clear h3
  have HQ := hide hq
  have HW := hide hv
  clear hv hq
  go_enter Try.func45, Try.ntmps45
  go_wp2_with (first
    | (go_at_call 73; refine (read_told8 _ l q _ HQ.out hm hv1.out).mono ?_; rintro e w1 ⟨rfl, hb1⟩; obtain ⟨Z1, B1⟩ := pdec_step hb1 (.cells #[.int .u64 0, .int .i64 (t : Int), .int .i64 (n : Int), .string ⟨#[]⟩, .string ⟨#[]⟩, .string ⟨#[]⟩, .string ⟨#[]⟩, .string ⟨#[]⟩] 53); have HZ := hide Z1; have HB := hide B1; have P1 := hide (pgb_new w1 (pTN t n)); obtain ⟨z0, z1, z2, z3, z4, z5, z6, z7, zf⟩ := Z1.zero_alloc; clear Z1 B1 hb1)
    | (go_at_call 65; refine (encode_zero8 t n _).mono ?_; rintro e w2 ⟨v2, rfl, hr2, hb2⟩; have P2 := P1.out.below hb2; have HZ2 := (HZ.out.alloc _).below hb2; have HB2 := hide (HB.out.trans (hb2.mono HB.out.size)); have hv2 := HW.out.below HB2.out; obtain ⟨z0, z1, z2, z3, z4, z5, z6, z7, zf⟩ := HZ2.zero_cells; obtain ⟨c0, c1, c2, c3, c4, c5, c6, c7⟩ := P2.tn_cells; clear P2 HZ2 hb2)
    | (go_at_call 74; refine (equal_no _ _ z256 l _ hr2 hv2 HX.out).mono ?_; rintro e w3 ⟨rfl, rfl⟩))
  refine bodyPost_ret (v := .tuple #[zVal, .int .i64 11]) (by simp [results, Try.results45, go_sem, z0, z1, z2, z3, z4, z5, z6, z7, zVal, Pg.val, Pg.cells, pTN]) rfl ⟨rfl, ?_⟩
  exact pg_set8_below (p := pZ) HB2.out (Nat.le_refl _)
end
section
/- Package page: a page comes back from its bytes; Decode's answer. -/
open Go.RowKit

set_option linter.unusedSimpArgs false
set_option linter.unusedVariables false

theorem St.num_some (n m : Nat) (r : List UInt8) (h1 : 1 ≤ n) (h8 : n ≤ 8) : (⟨be n m ++ r, false⟩ : St).num (n : Int) = m % 256 ^ n ∧ (⟨be n m ++ r, false⟩ : St).numSt (n : Int) = ⟨r, false⟩ := by
  obtain ⟨h3, h4⟩ := St.some_take (be n m) r (n : Int) (by rw [be_length])
  unfold St.num St.numSt
  rw [if_pos (by omega), if_pos (by omega), h3, h4, val_be]
  exact ⟨rfl, rfl⟩
/-- A sector. -/
def Pg.sec (p : Pg) (k : Nat) : List UInt8 := be 8 p.mark ++ (p.saidL.drop (k * 56)).take 56
theorem Pg.secs_all (p : Pg) : p.secs 4 = p.sec 0 ++ (p.sec 1 ++ (p.sec 2 ++ (p.sec 3 ++ []))) := by
  simp [Pg.secs, Pg.sec]
theorem sec_read {p : Pg} (hs : p.sized) (hm : p.mark < 18446744073709551616) (k : Nat) (hk : k < 4) (r : List UInt8) :
    (⟨p.sec k ++ r, false⟩ : St).num 8 = p.mark ∧ ((⟨p.sec k ++ r, false⟩ : St).numSt 8).take 56 = ⟨r, false⟩ ∧ ((⟨p.sec k ++ r, false⟩ : St).numSt 8).got 56 = (p.saidL.drop (k * 56)).take 56 := by
  obtain ⟨h1, h2⟩ := St.num_some 8 p.mark ((p.saidL.drop (k * 56)).take 56 ++ r) (by omega) (by omega)
  have e : p.sec k ++ r = be 8 p.mark ++ ((p.saidL.drop (k * 56)).take 56 ++ r) := by simp [Pg.sec]
  have hl : (((p.saidL.drop (k * 56)).take 56).length : Int) = 56 := by
    rw [List.length_take, List.length_drop, p.said_length hs]; omega
  obtain ⟨h3, h4⟩ := St.some_take ((p.saidL.drop (k * 56)).take 56) r 56 hl
  rw [e]
  have h1' : (⟨be 8 p.mark ++ ((p.saidL.drop (k * 56)).take 56 ++ r), false⟩ : St).num 8 = p.mark % 256 ^ 8 := h1
  have h2' : (⟨be 8 p.mark ++ ((p.saidL.drop (k * 56)).take 56 ++ r), false⟩ : St).numSt 8 = ⟨(p.saidL.drop (k * 56)).take 56 ++ r, false⟩ := h2
  rw [h1', h2', h3, h4]
  exact ⟨Nat.mod_eq_of_lt hm, rfl, rfl⟩
theorem four_parts (m : List UInt8) (h : m.length = 224) : (((([] ++ (m.drop (0 * 56)).take 56) ++ (m.drop (1 * 56)).take 56) ++ (m.drop (2 * 56)).take 56) ++ (m.drop (3 * 56)).take 56) = m := by
  have e (k : Nat) : m.take (k * 56) ++ (m.drop (k * 56)).take 56 = m.take ((k + 1) * 56) := by
    rw [Nat.add_mul, Nat.one_mul, List.take_add]
  have e0 : ([] : List UInt8) = m.take (0 * 56) := by simp
  rw [e0, e 0, e 1, e 2, e 3]
  exact List.take_of_length_le (by omega)
theorem secs_read {p : Pg} (hs : p.sized) (hm : p.mark < 18446744073709551616) : rdMark (p.secs 4) 4 = p.mark ∧ rdSaid (p.secs 4) 4 = p.saidL := by
  rw [p.secs_all]
  obtain ⟨a0, b0, c0⟩ := sec_read hs hm 0 (by omega) (p.sec 1 ++ (p.sec 2 ++ (p.sec 3 ++ [])))
  obtain ⟨a1, b1, c1⟩ := sec_read hs hm 1 (by omega) (p.sec 2 ++ (p.sec 3 ++ []))
  obtain ⟨a2, b2, c2⟩ := sec_read hs hm 2 (by omega) (p.sec 3 ++ [])
  obtain ⟨a3, b3, c3⟩ := sec_read hs hm 3 (by omega) []
  generalize hl : p.sec 0 ++ (p.sec 1 ++ (p.sec 2 ++ (p.sec 3 ++ []))) = l at *
  have s0 : rdSt l 0 = ⟨l, false⟩ := rfl
  have s1 : rdSt l 1 = ⟨p.sec 1 ++ (p.sec 2 ++ (p.sec 3 ++ [])), false⟩ := b0
  have s2 : rdSt l 2 = ⟨p.sec 2 ++ (p.sec 3 ++ []), false⟩ := by rw [rdSt, s1]; exact b1
  have s3 : rdSt l 3 = ⟨p.sec 3 ++ [], false⟩ := by rw [rdSt, s2]; exact b2
  refine ⟨by rw [rdMark, s3]; exact a3, ?_⟩
  rw [rdSaid, s3, c3, rdSaid, s2, c2, rdSaid, s1, c1, rdSaid, s0, c0, rdSaid]
  exact four_parts _ (p.said_length hs)
theorem said_all (p : Pg) : p.saidL = be 2 p.ten ++ (be 2 p.num ++ (padS (p.s 0) ++ (padS (p.s 1) ++ (padS (p.s 2) ++ (padS (p.s 3) ++ (padS (p.s 4) ++ List.replicate 20 0)))))) := by
  simp [Pg.saidL, Pg.part]
theorem pad_take {s : ByteArray} (h : s.size ≤ 40) (r : List UInt8) : (⟨padS s ++ r, false⟩ : St).take 40 = ⟨r, false⟩ ∧ (⟨padS s ++ r, false⟩ : St).got 40 = padS s :=
  St.some_take (padS s) r 40 (by rw [padS_length h]; rfl)
theorem said_read {p : Pg} (hs : p.sized) (ht : p.ten < 65536) (hn : p.num < 65536) :
    (⟨p.saidL, false⟩ : St).num 2 = p.ten ∧ ((⟨p.saidL, false⟩ : St).numSt 2).num 2 = p.num ∧ ∀ k, k < 5 → (slSt p.saidL k).got 40 = padS (p.s k) := by
  rw [said_all p]
  obtain ⟨h1, h2⟩ := St.num_some 2 p.ten (be 2 p.num ++ (padS (p.s 0) ++ (padS (p.s 1) ++ (padS (p.s 2) ++ (padS (p.s 3) ++ (padS (p.s 4) ++ List.replicate 20 0)))))) (by omega) (by omega)
  obtain ⟨h3, h4⟩ := St.num_some 2 p.num (padS (p.s 0) ++ (padS (p.s 1) ++ (padS (p.s 2) ++ (padS (p.s 3) ++ (padS (p.s 4) ++ List.replicate 20 0))))) (by omega) (by omega)
  obtain ⟨t0, g0⟩ := pad_take (hs 0 (by omega)) (padS (p.s 1) ++ (padS (p.s 2) ++ (padS (p.s 3) ++ (padS (p.s 4) ++ List.replicate 20 0))))
  obtain ⟨t1, g1⟩ := pad_take (hs 1 (by omega)) (padS (p.s 2) ++ (padS (p.s 3) ++ (padS (p.s 4) ++ List.replicate 20 0)))
  obtain ⟨t2, g2⟩ := pad_take (hs 2 (by omega)) (padS (p.s 3) ++ (padS (p.s 4) ++ List.replicate 20 0))
  obtain ⟨t3, g3⟩ := pad_take (hs 3 (by omega)) (padS (p.s 4) ++ List.replicate 20 0)
  obtain ⟨_, g4⟩ := pad_take (hs 4 (by omega)) (List.replicate 20 0)
  have e2 : ((2 : Nat) : Int) = 2 := rfl
  rw [e2] at h1 h2 h3 h4
  generalize hl : be 2 p.ten ++ (be 2 p.num ++ (padS (p.s 0) ++ (padS (p.s 1) ++ (padS (p.s 2) ++ (padS (p.s 3) ++ (padS (p.s 4) ++ List.replicate 20 0)))))) = l at *
  have s0 : slSt l 0 = ⟨padS (p.s 0) ++ (padS (p.s 1) ++ (padS (p.s 2) ++ (padS (p.s 3) ++ (padS (p.s 4) ++ List.replicate 20 0)))), false⟩ := by rw [slSt, h2, h4]
  have s1 : slSt l 1 = ⟨padS (p.s 1) ++ (padS (p.s 2) ++ (padS (p.s 3) ++ (padS (p.s 4) ++ List.replicate 20 0))), false⟩ := by rw [slSt, s0]; exact t0
  have s2 : slSt l 2 = ⟨padS (p.s 2) ++ (padS (p.s 3) ++ (padS (p.s 4) ++ List.replicate 20 0)), false⟩ := by rw [slSt, s1]; exact t1
  have s3 : slSt l 3 = ⟨padS (p.s 3) ++ (padS (p.s 4) ++ List.replicate 20 0), false⟩ := by rw [slSt, s2]; exact t2
  have s4 : slSt l 4 = ⟨padS (p.s 4) ++ List.replicate 20 0, false⟩ := by rw [slSt, s3]; exact t3
  refine ⟨by rw [h1]; exact Nat.mod_eq_of_lt ht, by rw [h2, h3]; exact Nat.mod_eq_of_lt hn, fun k hk => ?_⟩
  match k, hk with
  | 0, _ => rw [s0]; exact g0
  | 1, _ => rw [s1]; exact g1
  | 2, _ => rw [s2]; exact g2
  | 3, _ => rw [s3]; exact g3
  | 4, _ => rw [s4]; exact g4
theorem bytes_eq {a : ByteArray} : (⟨a.data.toList.toArray⟩ : ByteArray) = a := by
  obtain ⟨⟨l⟩⟩ := a; rfl
/-- A slot's bytes, put anew. -/
theorem put_pad (q : Pg) (k : Nat) {s : ByteArray} (h : okB s = true) (hq : q.s k = ⟨#[]⟩) : (q.put k ⟨(padS s).toArray⟩).s = fun j => if j = k then s else q.s j := by
  unfold okB at h
  simp only [Bool.or_eq_true, decide_eq_true_eq] at h
  by_cases h0 : s = ⟨#[]⟩
  · subst h0
    have e : okB ⟨(padS ⟨#[]⟩).toArray⟩ = false := by decide
    unfold Pg.put
    rw [e, if_neg (by simp)]
    funext j
    split
    · subst j; exact hq
    · rfl
  · have hr := h.resolve_left h0
    have hl : s.data.toList.length = 40 := rowB_length hr
    have e : padS s = s.data.toList := by
      unfold padS
      rw [show 40 - s.size = 0 by rw [← size_data, hl]]
      simp
    rw [e, bytes_eq]
    unfold Pg.put
    rw [if_pos (by unfold okB; simp [hr])]
    rfl
theorem readP_of {p : Pg} {l m : List UInt8} (ho : ∀ j, j < 5 → okB (p.s j) = true) (h1 : rdMark l 4 = p.mark) (h2 : rdSaid l 4 = m) (h3 : (⟨m, false⟩ : St).num 2 = p.ten) (h4 : ((⟨m, false⟩ : St).numSt 2).num 2 = p.num) (h5 : ∀ k, k < 5 → (slSt m k).got 40 = padS (p.s k)) :
    (readP l).mark = p.mark ∧ (readP l).ten = p.ten ∧ (readP l).num = p.num ∧ ∀ j, j < 5 → (readP l).s j = p.s j := by
  obtain ⟨a, b, c⟩ := rdPg_head l 5
  rw [h1] at a
  rw [h2] at b c
  refine ⟨a, b.trans h3, c.trans h4, ?_⟩
  have hk : ∀ k, k ≤ 5 → ∀ j, (rdPg l k).s j = if j < k then p.s j else ⟨#[]⟩ := by
    intro k
    induction k with
    | zero => intro _ j; rw [if_neg (by omega)]; rfl
    | succ k ih =>
      intro hk j
      have hi := ih (by omega)
      rw [rdPg, h2, h5 k (by omega), put_pad _ k (ho k (by omega)) (by rw [hi k, if_neg (by omega)])]
      show (if j = k then p.s k else (rdPg l k).s j) = _
      rw [hi j]
      by_cases e : j = k
      · subst e; rw [if_pos rfl, if_pos (by omega)]
      · by_cases e2 : j < k
        · rw [if_neg e, if_pos e2, if_pos (by omega)]
        · rw [if_neg e, if_neg e2, if_neg (by omega)]
  intro j hj
  have := hk 5 (by omega) j
  rw [if_pos hj] at this
  exact this
theorem readP_secs {p : Pg} (hg : p.good) : (readP (p.secs 4)).mark = p.mark ∧ (readP (p.secs 4)).ten = p.ten ∧ (readP (p.secs 4)).num = p.num ∧ ∀ j, j < 5 → (readP (p.secs 4)).s j = p.s j := by
  have hs := Pg.good_sized hg
  obtain ⟨hm, ht, hn, ho⟩ := hg
  obtain ⟨h1, h2⟩ := secs_read hs hm
  obtain ⟨h3, h4, h5⟩ := said_read hs ht hn
  exact readP_of ho h1 h2 h3 h4 h5
theorem pg_val {p q : Pg} (h1 : p.mark = q.mark) (h2 : p.ten = q.ten) (h3 : p.num = q.num) (h4 : ∀ j, j < 5 → p.s j = q.s j) : p.val = q.val ∧ p.encL = q.encL := by
  have e0 := h4 0 (by omega)
  have e1 := h4 1 (by omega)
  have e2 := h4 2 (by omega)
  have e3 := h4 3 (by omega)
  have e4 := h4 4 (by omega)
  refine ⟨by unfold Pg.val Pg.cells; rw [h1, h2, h3, e0, e1, e2, e3, e4], ?_⟩
  unfold Pg.encL
  rw [p.secs_all, q.secs_all]
  unfold Pg.sec
  rw [said_all p, said_all q, h1, h2, h3, e0, e1, e2, e3, e4]
theorem z256_read : (readP z256).mark = 0 := by
  have e : pZ.secs 4 = z256 := by kernel_rfl
  rw [← e]
  exact (readP_secs (p := pZ) ⟨by decide, by decide, by decide, fun _ _ => okB_empty⟩).1
/-- What bytes are. -/
def DecP (l : List UInt8) (t n : Nat) (q : Pg) (e : Int) : Prop :=
  (e = 0 ∧ q.encL = l ∧ q.ten = t ∧ q.num = n ∧ q.mark < 18446744073709551616 ∧ (∀ j, j < 5 → okB (q.s j) = true) ∧ (q.mark = 0 → ∀ j, q.s j = ⟨#[]⟩) ∧ ∀ p : Pg, p.good → p.mark ≠ 0 → p.encL = l → p.val = q.val) ∨
  (e = 11 ∧ q = pZ ∧ ∀ p : Pg, p.good → p.ten = t → p.num = n → p.encL ≠ l)
theorem mark_some {p : Pg} {l : List UInt8} (hg : p.good) (h : p.encL = l) (h0 : (readP l).mark ≠ 0) : p.mark ≠ 0 ∧ p.secs 4 = l := by
  unfold Pg.encL at h
  split at h
  · subst h; exact absurd z256_read h0
  · rename_i h1; exact ⟨h1, h⟩
theorem decode_pg (v : Value) (l : List UInt8) (t n : Nat) (w : World) (hm : l.length ≤ 1000000) (hv : Rd w v (u8s l)) :
    Calls Try.prog 45 #[v, .int .i64 (t : Int), .int .i64 (n : Int)] w fun e w' => ∃ q e', e = .returned (.tuple #[q.val, .int .i64 e']) ∧ DecP l t n q e' ∧ Below w.heap.size w w' := by
  by_cases h0 : (readP l).mark = 0
  · have hno : ∀ p : Pg, p.good → p.mark ≠ 0 → p.encL ≠ l := by
      intro p hg hp e
      unfold Pg.encL at e
      rw [if_neg hp] at e
      have := (readP_secs hg).1
      rw [e, h0] at this
      exact hp this.symm
    by_cases h3 : z256 = l
    · refine (pdec0_yes v l t n w hm hv h0 h3).mono ?_
      rintro e w' ⟨rfl, hb⟩
      refine ⟨_, _, rfl, .inl ⟨rfl, ?_, rfl, rfl, by show 0 < _; omega, fun _ _ => okB_empty, fun _ _ => rfl, fun p hg hp e => absurd e (hno p hg hp)⟩, hb⟩
      rw [← h3]; rfl
    · refine (pdec0_no v l t n w hm hv h0 h3).mono ?_
      rintro e w' ⟨rfl, hb⟩
      refine ⟨pZ, _, rfl, .inr ⟨rfl, rfl, fun p hg _ _ e => ?_⟩, hb⟩
      by_cases hp : p.mark = 0
      · unfold Pg.encL at e; rw [if_pos hp] at e; exact h3 e
      · exact hno p hg hp e
  · have hsame : ∀ p : Pg, p.good → p.encL = l → p.val = (readP l).val ∧ p.ten = (readP l).ten ∧ p.num = (readP l).num ∧ p.encL = (readP l).encL := by
      intro p hg e
      obtain ⟨_, h2⟩ := mark_some hg e h0
      obtain ⟨a, b, c, d⟩ := readP_secs hg
      rw [h2] at a b c d
      obtain ⟨e1, e2⟩ := pg_val a.symm b.symm c.symm (fun j hj => (d j hj).symm)
      exact ⟨e1, b.symm, c.symm, e2⟩
    by_cases h1 : (readP l).ten = t
    · by_cases h2 : (readP l).num = n
      · by_cases h3 : (readP l).encL = l
        · refine (pdec_yes v l t n w hm hv h0 h1 h2 h3).mono ?_
          rintro e w' ⟨rfl, hb⟩
          exact ⟨_, _, rfl, .inl ⟨rfl, h3, h1, h2, (readP_good l).1, (readP_good l).2.2.2, fun e => absurd e h0, fun p hg _ e => (hsame p hg e).1⟩, hb⟩
        · refine (pdec_no v l t n w hm hv h0 h1 h2 h3).mono ?_
          rintro e w' ⟨rfl, hb⟩
          refine ⟨pZ, _, rfl, .inr ⟨rfl, rfl, fun p hg _ _ e => h3 ?_⟩, hb⟩
          rw [← (hsame p hg e).2.2.2]; exact e
      · refine (pdec_num v l t n w hm hv h0 h1 h2).mono ?_
        rintro e w' ⟨rfl, hb⟩
        refine ⟨pZ, _, rfl, .inr ⟨rfl, rfl, fun p hg _ hn e => h2 ?_⟩, hb⟩
        rw [← (hsame p hg e).2.2.1]; exact hn
    · refine (pdec_who v l t n w hm hv h0 h1).mono ?_
      rintro e w' ⟨rfl, hb⟩
      refine ⟨pZ, _, rfl, .inr ⟨rfl, rfl, fun p hg ht _ e => h1 ?_⟩, hb⟩
      rw [← (hsame p hg e).2.1]; exact ht
end

end Go.Proofs.Ytkdcnddagebjpaa
