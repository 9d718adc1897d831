/-
  What stages from 8 on lean on beside a lane: rows and pages, part 1 of 1 (put together by merge2.py).
-/
import Derived.Test.YthkocbfioegcnaaFit
import Derived.WalkLawsBesides
import Derived.Lib.AppendZerosOnto
import Derived.Lib.AppendStr
import Derived.Test.YthkocbfioegcnaaRows
import Derived.Lib.SmallJoins
import Derived.Lib.ConvBytes
import Derived.Deep.LoopGhost
import Derived.WalkMore
namespace Go.Proofs.Ythkocbfioegcnaa
set_option linter.unusedSimpArgs false
set_option linter.unusedVariables false
section
/- Contracts of package row: Right. -/
open Go.RowKit

/-- May it be? -/
def rowOkB (t : Int) (k v : ByteArray) : Bool := decide (0 ≤ t) && decide (t < 4) && decide (k.size ≤ 15) && decide (v.size ≤ 21)
theorem rightB_iff {t : Int} {k v : ByteArray} : rowOkB t k v = true ↔ 0 ≤ t ∧ t < 4 ∧ k.size ≤ 15 ∧ v.size ≤ 21 := by
  simp [rowOkB, and_assoc]
theorem rightB_not {t : Int} {k v : ByteArray} (h : rowOkB t k v = false) : t < 0 ∨ (0 ≤ t ∧ 4 ≤ t) ∨ (0 ≤ t ∧ t < 4 ∧ 15 < k.size) ∨ (0 ≤ t ∧ t < 4 ∧ k.size ≤ 15 ∧ 21 < v.size) := by
  have : ¬ (0 ≤ t ∧ t < 4 ∧ k.size ≤ 15 ∧ v.size ≤ 21) := fun e => by rw [rightB_iff.2 e] at h; cases h
  omega
theorem right_yes (t : Int) (k v : ByteArray) (w : World) (h : rowOkB t k v = true) :
    Calls Try.prog 27 #[.agg #[.int .i64 t, .string k, .string v]] w fun e w' => e = .returned (.bool true) ∧ Below w.heap.size w w' := by
  obtain ⟨h1, h2, h3, h4⟩ := rightB_iff.1 h
  clear h
  have e4 : decide ((v.size : Int) ≤ 21) = true := decide_eq_true (by omega)
  go_enter Try.func27, Try.ntmps27
  go_wp2
  go_ret
  exact ⟨rfl, (Below.refl _ _).alloc (Nat.le_refl _) _⟩
theorem right_no (t : Int) (k v : ByteArray) (w : World) (h : rowOkB t k v = false) :
    Calls Try.prog 27 #[.agg #[.int .i64 t, .string k, .string v]] w fun e w' => e = .returned (.bool false) ∧ Below w.heap.size w w' := by
  rcases rightB_not h with h1 | ⟨h0, h1⟩ | ⟨h0, h1, h2⟩ | ⟨h0, h1, h2, h3⟩
  rotate_right
  · have e4 : decide ((v.size : Int) ≤ 21) = false := decide_eq_false (by omega)
    clear h
    go_enter Try.func27, Try.ntmps27
    go_wp2
    go_ret
    exact ⟨rfl, (Below.refl _ _).alloc (Nat.le_refl _) _⟩
  all_goals
    clear h
    go_enter Try.func27, Try.ntmps27
    go_wp2
    go_ret
    exact ⟨rfl, (Below.refl _ _).alloc (Nat.le_refl _) _⟩
theorem row_right_any (t : Int) (k v : ByteArray) (w : World) :
    Calls Try.prog 27 #[.agg #[.int .i64 t, .string k, .string v]] w fun e w' => e = .returned (.bool (rowOkB t k v)) ∧ Below w.heap.size w w' := by
  cases h : rowOkB t k v
  · exact right_no t k v w h
  · exact right_yes t k v w h
end
section
/- append(v, make([]byte, n)...), v a row of the call's own. -/
open Go.RowKit
set_option maxRecDepth 20000

section
variable {P : Program} (w : World)
theorem zeroCells_u8 (k : Nat) : Builtin.zeroCells (Value.int .u8 0).cells k = (u8s (List.replicate k 0)).toArray := by
  rw [show (Value.int .u8 0).cells = #[.int .u8 0] from rfl]
  apply Array.ext
  · simp [Builtin.zeroCells, u8s]
  · intro i h1 h2
    have : i % 1 = 0 := Nat.mod_one i
    simp [Builtin.zeroCells, u8s, this]
theorem run_append_room_zeros (t tn ty e : TypeId) (i : TypeInfo) (kq kn : IntKind) (ht : P.underlying t = some (.slice e)) (htn : P.underlying tn = some (.int kn)) (hi : P.info? e = some i) (hz : i.zero = some (.int .u8 0)) (hs1 : i.size = 1) (hby : i.bytes = 1)
    (g sLen sCap : Nat) (cur : Array Value) (hg : w.heap[g]? = some (.cells cur e (0, 0))) (k : Nat) (h0 : 0 < k)
    (hroom : sLen + k ≤ sCap) (hfit : sLen + k ≤ cur.size) (h48 : k ≤ 140737488355328) :
    (Builtin.append_ #[t, tn] ty #[.slice (some ⟨g, 0, none⟩) sLen sCap, .int kq k]).run P w =
      .ok (.slice (some ⟨g, 0, none⟩) (sLen + k) sCap) (w.setRow g (cur.toList.take sLen ++ u8s (List.replicate k 0) ++ cur.toList.drop (sLen + k)).toArray) := by
  have hst := run_storeCells_at P g sLen e (u8s (List.replicate k 0)) 0 cur w hg (by simpa [u8s_length] using hfit) (oneCell_u8s _)
  simp only [Nat.add_zero, u8s_length, List.length_replicate] at hst
  have hk : k ≠ 0 := by omega
  have hw : IntKind.i64.wrap (k : Int) = k := by rw [IntKind.wrap_i64]; omega
  have hneg : ¬ ((k : Int) < 0) := by omega
  have h48i : ¬ (281474976710656 < (k : Int)) := by omega
  have hzc := zeroCells_u8 k
  simp [Builtin.append_, run_underlying ht, run_underlying htn, sizeOf, typeInfo, zeroValue, hi, hz, hs1, hby, asInt, asIntOf, hw, hk, hneg, h48i, hroom, Addr.add_lit, hzc, hst]
theorem run_append_own_zeros (base : Nat) (t tn ty e : TypeId) (i : TypeInfo) (kn kq : IntKind) (ht : P.underlying t = some (.slice e)) (htn : P.underlying tn = some (.int kn)) (hi : P.info? e = some i) (hz : i.zero = some (.int .u8 0))
    (hsize : i.size = 1) (hby : i.bytes = 1)
    (v : Value) (n : Nat) (xs : List Value) (hown : w.ownsRow base e 1 v n xs) (k : Nat)
    (h63 : n + k ≤ maxLen) (hbytes : n + k ≤ 140737488355328) (hbase : base ≤ w.heap.size) :
    ∃ v' w', (Builtin.append_ #[t, tn] ty #[v, .int kq k]).run P w = .ok v' w' ∧ w'.ownsRow base e 1 v' (n + k) (xs ++ u8s (List.replicate k 0)) ∧ w.grownBy w' v.ownBlock := by
  have hsmall : n + k ≤ 9223372036854775807 := by simp only [maxLen] at h63; omega
  have hxl : xs.length = n := by simpa using hown.1
  have hlen : (xs ++ u8s (List.replicate k 0)).length = (n + k) * 1 := by rw [List.length_append, hxl, u8s_length, List.length_replicate, Nat.mul_one]
  have hw0 : IntKind.i64.wrap (0 : Int) = 0 := by rw [IntKind.wrap_i64]; rfl
  have grown : ∀ (old : Nat), old < n + k → ∀ (row : Option Nat),
      (w.drew.alloc (.cells (xs.toArray ++ Builtin.zeroCells (Value.int .u8 0).cells k ++ Builtin.zeroCells (Value.int .u8 0).cells (grownCap w (n + k) old e - (n + k))) e)).ownsRow base e 1
        (.slice (some ⟨w.heap.size, 0, none⟩) (n + k) (grownCap w (n + k) old e)) (n + k) (xs ++ u8s (List.replicate k 0)) ∧
      w.grownBy (w.drew.alloc (.cells (xs.toArray ++ Builtin.zeroCells (Value.int .u8 0).cells k ++ Builtin.zeroCells (Value.int .u8 0).cells (grownCap w (n + k) old e - (n + k))) e)) row := by
    intro old ho row
    have hge := grownCap_ge w (n + k) old e
    have hcm : grownCap w (n + k) old e ≤ maxLen := grownCap_le_maxLen w (n + k) old e h63
    refine ⟨⟨hlen, .inr ⟨w.heap.size, _, _, rfl, hbase, heap_alloc_new w.drew _, hge, hcm, ?_, ?_⟩⟩, ⟨rfl, rfl, rfl, by simp, fun j hj _ => heap_alloc_old w.drew _ hj⟩⟩
    · have hz1 : (Value.int IntKind.u8 0).cells.size = 1 := rfl
      simp only [Array.size_append, List.size_toArray, size_zeroCells, hz1, hxl]
      omega
    · rw [zeroCells_u8 k]
      simp only [Array.toList_append, List.append_assoc]
      rw [← List.append_assoc, ← hlen]
      exact List.take_left
  rcases Nat.eq_zero_or_pos k with h0 | h0
  · subst h0
    have hx0 : xs ++ u8s (List.replicate 0 0) = xs := by simp [u8s]
    rw [hx0]
    rcases hown.2 with ⟨rfl, rfl⟩ | ⟨g, cap, cur, rfl, hbg, hg, hnc, hcm, hcs, htake⟩
    · exact ⟨.slice none 0 0, w, by simp [Builtin.append_, run_underlying ht, run_underlying htn, sizeOf, typeInfo, hi, hby, asInt, asIntOf, hw0], hown, ⟨rfl, rfl, rfl, Nat.le_refl _, fun _ _ _ => rfl⟩⟩
    · exact ⟨_, w, by simp [Builtin.append_, run_underlying ht, run_underlying htn, sizeOf, typeInfo, hi, hby, asInt, asIntOf, hw0, hnc, storeCells], hown, ⟨rfl, rfl, rfl, Nat.le_refl _, fun _ _ _ => rfl⟩⟩
  rcases hown.2 with ⟨rfl, rfl⟩ | ⟨g, cap, cur, rfl, hbg, hg, hnc, hcm, hcs, htake⟩
  · have hx : xs = [] := List.eq_nil_of_length_eq_zero hxl
    subst hx
    have hr := Lib.run_append_nil_zeros (P := P) w t tn ty e i (.int .u8 0) kq kn ht htn hi hz k h0 (by omega) (by omega) (by rw [hby]; omega)
    have hgr := grown 0 (by omega) (Value.ownBlock (.slice none 0 0))
    simp only [Nat.zero_add, List.nil_append, Array.empty_append] at hgr ⊢
    exact ⟨_, _, hr, hgr.1, hgr.2⟩
  · by_cases hroom : n + k ≤ cap
    · have hcs' : cur.size = cap := by simpa using hcs
      have hr := run_append_room_zeros (P := P) w t tn ty e i kq kn ht htn hi hz hsize hby g n cap cur hg k h0 hroom (by omega) (by omega)
      refine ⟨_, _, hr, ⟨hlen, .inr ⟨g, cap, _, rfl, hbg, setRow_heap w g cur _ e _ hg, hroom, hcm, ?_, ?_⟩⟩, ⟨rfl, rfl, rfl, by simp, fun j _ hj => setRow_other w g j _ (fun e => hj (by simp [Value.ownBlock, e]))⟩⟩
      · simp only [List.size_toArray, List.length_append, List.length_take, List.length_drop, Array.length_toList, u8s_length, List.length_replicate]
        omega
      · have ht' : cur.toList.take n = xs := by simpa using htake
        rw [ht', ← hlen]
        exact List.take_left
    · have holds : ∀ j u, xs[j]? = some u → w.drew.cell? ((⟨g, 0, none⟩ : Addr).add j) = some u := hown.cells (g := g) rfl
      have hf : (Builtin.firstCells i.size n (.slice (some ⟨g, 0, none⟩) n cap)).run P w.drew = .ok xs.toArray w.drew := by
        rw [hsize]
        exact run_firstCells_some (P := P) w.drew 1 n _ n cap xs (by rw [hxl]; omega) holds
      have hr := Lib.run_append_grow_zeros (P := P) w t tn ty e i (.int .u8 0) kq kn ht htn hi hz (some ⟨g, 0, none⟩) n cap xs hf k h0 (by omega) (by omega) (by omega) (by rw [hby]; omega) (by rw [hby]; exact growslice_fits (by omega) (by omega))
      have hgr := grown cap (by omega) (Value.ownBlock (.slice (some ⟨g, 0, none⟩) n cap))
      exact ⟨_, _, hr, hgr.1, hgr.2⟩
/-- The same as one step of a plain region. -/
theorem wpList_append_zeros {w : World} {ops : Array Oper} {rest : List Oper} {o : Oper} {a : Act} {Q : Exit → Act → World → Prop} (hgd : o.guard = none) (sl x : Operand) (t tn : TypeId)
    (ho : o.op = .call { callee := .builtin .append, args := #[sl, x], argTypes := #[t, tn] })
    (base : Nat) (e : TypeId) (i : TypeInfo) (kn kq : IntKind) (ht : P.underlying t = some (.slice e)) (htn : P.underlying tn = some (.int kn)) (hi : P.info? e = some i) (hz : i.zero = some (.int .u8 0))
    (hsize : i.size = 1) (hby : i.bytes = 1)
    (v : Value) (n : Nat) (xs : List Value) (hs : a.eval sl = v) (hown : w.ownsRow base e 1 v n xs) (k : Nat) (hx : a.eval x = .int kq k)
    (h63 : n + k ≤ maxLen) (hbytes : n + k ≤ 140737488355328) (hbase : base ≤ w.heap.size)
    (h : ∀ v' w', w'.ownsRow base e 1 v' (n + k) (xs ++ u8s (List.replicate k 0)) → w.grownBy w' v.ownBlock → wpList P ops Q rest (a.put o.dst v') w') : wpList P ops Q (o :: rest) a w := by
  obtain ⟨v', w', hr, h2, h3⟩ := run_append_own_zeros (P := P) w base t tn o.type e i kn kq ht htn hi hz hsize hby v n xs hown k h63 hbytes hbase
  exact Lib.wpList_append_run w hgd sl x t tn ho v (.int kq k) hs hx v' w' hr (h v' w' h2 h3)
end
end
section
/- Contracts of package row: field, Encode; and Equal of package bytes. -/
open Go.RowKit

/-- A text in the room of the longest one. -/
def fieldL (s : List UInt8) (room : Nat) : List UInt8 := UInt8.ofNat s.length :: s ++ List.replicate (room - s.length) 0
/-- A row's bytes. -/
def encL (t : Nat) (k v : List UInt8) : List UInt8 := [1, UInt8.ofNat t] ++ fieldL k 15 ++ fieldL v 21
theorem fieldL_length (s : List UInt8) (room : Nat) (h : s.length ≤ room) : (fieldL s room).length = room + 1 := by
  simp [fieldL]; omega
theorem encL_length (t : Nat) (k v : List UInt8) (hk : k.length ≤ 15) (hv : v.length ≤ 21) : (encL t k v).length = 40 := by
  simp [encL, fieldL_length _ _ hk, fieldL_length _ _ hv]

/-- b[:k] and b[k:] as operations of a region. -/
theorem exec_low {o : Oper} {a : Act} {w : World} {x : Operand} {A : Option Addr} {n c : Nat} (k : Nat) (ho : o.op = .slice 26 x none (some (.const (.int .i64 (k : Int)))) none) (hx : a.eval x = .slice A n c) (hk : k ≤ c) :
    (execOp a.eval o).run Try.prog w = .ok (.value (.slice A k c)) w := by
  have hr := run_low (P := Try.prog) slice8 size8 A n c k hk w
  have hc : a.eval (.const (.int .i64 (k : Int))) = .int .i64 (k : Int) := rfl
  unfold execOp
  simp only [ho, hx, hc, Option.map_none, Option.map_some, Sem.run_bind, run_sliceAt_slice (P := Try.prog) (w := w) (h := slice8), hr, Result.andThen_ok, Sem.run_pure]
theorem exec_high {o : Oper} {a : Act} {w : World} {x : Operand} {A : Option Addr} {n c : Nat} (k : Nat) (ho : o.op = .slice 26 x (some (.const (.int .i64 (k : Int)))) none none) (hx : a.eval x = .slice A n c) (hk : k ≤ n) :
    (execOp a.eval o).run Try.prog w = .ok (.value (.slice (hiA A c k) (n - k) (c - k))) w := by
  have hr := run_high (P := Try.prog) slice8 size8 A n c k hk w
  have hc : a.eval (.const (.int .i64 (k : Int))) = .int .i64 (k : Int) := rfl
  unfold execOp
  simp only [ho, hx, hc, Option.map_none, Option.map_some, Sem.run_bind, run_sliceAt_slice (P := Try.prog) (w := w) (h := slice8), hr, Result.andThen_ok, Sem.run_pure]
theorem put_c1 (w : World) : Calls Try.prog 20 #[.slice none 0 0, .int .i64 1, .int .u64 1] w fun e w' => ∃ v', e = .returned v' ∧ Mine w' w.heap.size v' [1] ∧ Below w.heap.size w w' :=
  put_one (.slice none 0 0) [] 1 w (by simp) (Rd.nil_ _ _ _)
theorem Blk.three {w : World} {g : Nat} {t : TypeId} {x y z : Value} (h : Blk w g t #[x, y, z]) : w.cell? ⟨g, 0, none⟩ = some x ∧ w.cell? ⟨g, 1, none⟩ = some y ∧ w.cell? ⟨g, 2, none⟩ = some z := ⟨h.cell 0 _ rfl, h.cell 1 _ rfl, h.cell 2 _ rfl⟩
end
section
/- Contracts: a reader's Num and Text. -/
open Go.RowKit
set_option maxRecDepth 20000



end
section
/- Contracts of package row: readField, read, Decode. -/
open Go.RowKit

def St.fieldSt (s : St) (room : Nat) : St := s.textSt.take ((room : Int) - (s.text.length : Int))
theorem St.text_length (s : St) : s.text.length ≤ s.rest.length := Nat.le_trans (St.got_length _ _) (s.numSt_length 1)
theorem St.text_le (s : St) : s.text.length ≤ 255 := by
  unfold St.text St.got
  have := s.num1_lt
  split
  · rw [List.length_take]; omega
  · simp
theorem St.fieldSt_length (s : St) (room : Nat) : (s.fieldSt room).rest.length ≤ s.rest.length := Nat.le_trans (St.take_length _ _) s.textSt_length
theorem arr_size (l : List UInt8) : (⟨l.toArray⟩ : ByteArray).size = l.length := by show l.toArray.size = _; simp
theorem arr_list (l : List UInt8) : (⟨l.toArray⟩ : ByteArray).data.toList = l := by simp

/-- What a reader takes from where a row would stand. -/
def rowT (l : List UInt8) : Nat := ((⟨l, false⟩ : St).take 1).num 1
def rowS (l : List UInt8) : St := ((⟨l, false⟩ : St).take 1).numSt 1
def rowK (l : List UInt8) : List UInt8 := (rowS l).text
def rowV (l : List UInt8) : List UInt8 := ((rowS l).fieldSt 15).text
theorem St.text_ofR (t r : List UInt8) (h : t.length ≤ 255) : (⟨UInt8.ofNat t.length :: t ++ r, false⟩ : St).text = t ∧ (⟨UInt8.ofNat t.length :: t ++ r, false⟩ : St).textSt = ⟨r, false⟩ := by
  have hb : (UInt8.ofNat t.length).toNat = t.length := by rw [UInt8.toNat_ofNat']; omega
  obtain ⟨h1, h2⟩ := St.byte_num (UInt8.ofNat t.length) (t ++ r)
  unfold St.text St.textSt
  rw [List.cons_append, h1, h2, hb]
  exact ⟨(St.some_take t r _ rfl).2, (St.some_take t r _ rfl).1⟩
theorem St.field_of (t r : List UInt8) (room : Nat) (h : t.length ≤ room) (hr : room ≤ 255) : (⟨fieldL t room ++ r, false⟩ : St).text = t ∧ (⟨fieldL t room ++ r, false⟩ : St).fieldSt room = ⟨r, false⟩ := by
  have e : fieldL t room ++ r = UInt8.ofNat t.length :: t ++ (List.replicate (room - t.length) 0 ++ r) := by simp [fieldL]
  unfold St.fieldSt
  rw [e]
  obtain ⟨h1, h2⟩ := St.text_ofR t (List.replicate (room - t.length) 0 ++ r) (by omega)
  rw [h1, h2]
  exact ⟨rfl, (St.some_take _ r _ (by simp; omega)).1⟩
theorem row_enc (t : Nat) (k v : List UInt8) (ht : t < 256) (hk : k.length ≤ 15) (hv : v.length ≤ 21) : rowT (encL t k v) = t ∧ rowK (encL t k v) = k ∧ rowV (encL t k v) = v := by
  have e1 : (⟨encL t k v, false⟩ : St).take 1 = ⟨UInt8.ofNat t :: (fieldL k 15 ++ (fieldL v 21 ++ [])), false⟩ := by
    rw [show encL t k v = 1 :: (UInt8.ofNat t :: (fieldL k 15 ++ (fieldL v 21 ++ []))) by simp [encL]]
    exact St.byte_take _ _
  obtain ⟨h1, h2⟩ := St.byte_num (UInt8.ofNat t) (fieldL k 15 ++ (fieldL v 21 ++ []))
  obtain ⟨h3, h4⟩ := St.field_of k (fieldL v 21 ++ []) 15 hk (by omega)
  obtain ⟨h5, _⟩ := St.field_of v [] 21 hv (by omega)
  unfold rowV rowK rowT rowS
  rw [e1, h1, h2, h3, h4, h5]
  exact ⟨by rw [UInt8.toNat_ofNat']; omega, rfl, rfl⟩
theorem rowT_lt (l : List UInt8) : rowT l < 256 := St.num1_lt _
theorem rowS_length (l : List UInt8) : (rowS l).rest.length ≤ l.length := Nat.le_trans (St.numSt_length _ _) (St.take_length _ _)

theorem take_1 {w : World} {lo g : Nat} {s : St} (h : Rdr w lo g s) (hm : s.rest.length ≤ 70368744177664) :
    Calls Try.prog 32 #[ptr g, .int .i64 1] w fun e w' => ∃ A c, e = .returned (.slice A (s.got 1).length c) ∧ Rdr w' lo g (s.take 1) ∧ w.grownBy w' (some g) :=
  (take_told 1 h hm).mono fun _ _ ⟨A, c, h1, _, h3, h4, _⟩ => ⟨A, c, h1, h3, h4⟩
theorem Blk.three_f {w : World} {g : Nat} {t : TypeId} {cs : Array Value} (h : Blk w g t cs) : w.frozen? ⟨g, 0, none⟩ = false ∧ w.frozen? ⟨g, 1, none⟩ = false ∧ w.frozen? ⟨g, 2, none⟩ = false := ⟨h.frozen 0, h.frozen 1, h.frozen 2⟩
theorem grownBy_set {w w' : World} {row : Option Nat} (h : w.grownBy w' row) {p : Addr} (hp : w.heap.size ≤ p.block) (u : Value) : w.grownBy (w'.setCell p u) row :=
  ⟨h.os, h.tape, h.output, by have := h.size; simpa [World.setCell] using this, fun k hk hne => (Below.heap_setCell _ _ _ _ (by omega)).trans (h.block k hk hne)⟩
theorem grownBy_below {w w' : World} {row : Option Nat} (hb : Below w.heap.size w w') : w.grownBy w' row := ⟨hb.os, hb.tape, hb.output, hb.size, fun k hk _ => hb.block k hk⟩

/-- What bytes tell. -/
def Dec (l : List UInt8) (t : Int) (k v : ByteArray) (e : Int) : Prop :=
  (e = 9 ∧ t = 0 ∧ k = ⟨#[]⟩ ∧ v = ⟨#[]⟩ ∧ l ≠ List.replicate 40 0 ∧ ∀ (t' : Nat) (k' v' : List UInt8), t' < 4 → k'.length ≤ 15 → v'.length ≤ 21 → encL t' k' v' ≠ l) ∨
  (e = 5 ∧ t = 0 ∧ k = ⟨#[]⟩ ∧ v = ⟨#[]⟩ ∧ l = List.replicate 40 0) ∨
  (e = 0 ∧ rowOkB t k v = true ∧ encL t.toNat k.data.toList v.data.toList = l)
end
section
/- The contract of Decode of package row. -/
open Go.RowKit

theorem equal_yes (v u : Value) (l m : List UInt8) (w : World) (hv : Rd w v (u8s l)) (hu : Rd w u (u8s m)) (h : l = m) :
    Calls Try.prog 25 #[v, u] w fun e w' => e = .returned (.bool true) ∧ w = w' := by
  have := equal_any v u l m w hv hu
  rwa [beq_iff_eq.2 h] at this
theorem equal_no (v u : Value) (l m : List UInt8) (w : World) (hv : Rd w v (u8s l)) (hu : Rd w u (u8s m)) (h : l ≠ m) :
    Calls Try.prog 25 #[v, u] w fun e w' => e = .returned (.bool false) ∧ w = w' := by
  have := equal_any v u l m w hv hu
  rwa [beq_eq_false_iff_ne.2 h] at this
theorem rd_sub {w : World} {v : Value} {l : List UInt8} (hv : Rd w v (u8s l)) {n : Nat} (hn : l.length = n) : ∃ A c, v = .slice A n c := by
  obtain ⟨A, c, rfl, _, _⟩ := hv
  exact ⟨A, c, by rw [u8s_length, hn]⟩
theorem dec_some {l : List UInt8} (hl : l.length = 40) (hz : l ≠ z40) : ∃ (k v : ByteArray), k = ⟨(rowK l).toArray⟩ ∧ v = ⟨(rowV l).toArray⟩ ∧
    ((rowOkB (rowT l : Int) k v = true ∧ encL (rowT l) (rowK l) (rowV l) = l) ∨ ((rowOkB (rowT l : Int) k v = false ∨ (rowOkB (rowT l : Int) k v = true ∧ encL (rowT l) (rowK l) (rowV l) ≠ l)) ∧ Dec l 0 ⟨#[]⟩ ⟨#[]⟩ 9)) := by
  refine ⟨_, _, rfl, rfl, ?_⟩
  by_cases h : rowOkB (rowT l : Int) ⟨(rowK l).toArray⟩ ⟨(rowV l).toArray⟩ = true ∧ encL (rowT l) (rowK l) (rowV l) = l
  · exact .inl h
  · refine .inr ⟨?_, .inl ⟨rfl, rfl, rfl, rfl, hz, ?_⟩⟩
    · by_cases h1 : rowOkB (rowT l : Int) ⟨(rowK l).toArray⟩ ⟨(rowV l).toArray⟩ = true
      · exact .inr ⟨h1, fun e => h ⟨h1, e⟩⟩
      · exact .inl (by simpa using h1)
    · rintro t k v ht hk hv rfl
      obtain ⟨h1, h2, h3⟩ := row_enc t k v (by omega) hk hv
      refine h ⟨?_, ?_⟩
      · rw [h1, h2, h3, rightB_iff, arr_size, arr_size]
        omega
      · rw [h1, h2, h3]
/-- The world in which Decode asks for zeros. -/
def decW (w : World) : World := (w.alloc (.cells #[.int .i64 0, .string ⟨#[]⟩, .string ⟨#[]⟩] 32)).alloc (.cells (blk8 z40) 5)
theorem decW_below (w : World) : Below w.heap.size w (decW w) := ((Below.refl w.heap.size w).alloc (Nat.le_refl _) _).alloc (by simp) _
theorem decW_blk (w : World) : Blk (decW w) w.heap.size 32 #[.int .i64 0, .string ⟨#[]⟩, .string ⟨#[]⟩] := Blk.alloc (heap_new w _) _
theorem decW_zeros (w : World) : Rd (decW w) (.slice (some ⟨w.heap.size + 1, 0, none⟩) 40 40) (u8s z40) := by
  refine Blk.rd8 (g := w.heap.size + 1) (t := 5) ?_ rfl (Nat.le_refl _)
  exact heap_at _ _ (by simp)
theorem decW_size (w : World) : (decW w).heap.size = w.heap.size + 2 := by simp [decW]
theorem dec_equal_no (v : Value) (l : List UInt8) (w : World) (hv : Rd (decW w) v (u8s l)) (h : l ≠ z40) :
    Calls Try.prog 25 #[v, .slice (some ⟨w.heap.size + 1, 0, none⟩) 40 40] ((w.alloc (.cells #[.int .i64 0, .string ⟨#[]⟩, .string ⟨#[]⟩] 32)).alloc (.cells (blk8 z40) 5)) fun e w' => e = .returned (.bool false) ∧ decW w = w' :=
  equal_no v _ l z40 (decW w) hv (decW_zeros w) h
theorem below_set {B : Nat} {a w : World} (h : Below B a w) {p : Addr} (hp : B ≤ p.block) (u : Value) : Below B a (w.setCell p u) := Below.setCell h hp u
theorem dec_below {w w2 w3 : World} {g : Nat} (h2 : Below (decW w).heap.size (decW w) w2) (hlo : (decW w).heap.size ≤ g) (h3 : w2.grownBy w3 (some g)) : Below w.heap.size w w3 := by
  have h := decW_below w
  have hs := decW_size w
  refine (h.trans (h2.mono (by omega))).grown h3 (by have := h2.size; omega) fun k hk => ?_
  injection hk with hk
  omega
end
section
/- A row that came in; a pair of ints that came in. -/
open Go.ChangeShapes Go.WideShapes Go.ChangeAt Go.RowKit Go.Joins

section
variable {H : Type} {enc : TypeId × Value → H} {P : Program} {w : World} {base b0 : Nat} {spare : Nat → Bool} {held : Bool} {r : Reach} {v : Value} {d : DataW H} {ps : List MemPlace}
theorem open_row {t : TypeId} {f0 f1 f2 : Field} (hs : P.underlying t = some (.struct #[f0, f1, f2])) (hone : Go.Deep.oneCellFields P #[f0, f1, f2] = true) (hC : P.cellsOf t = 3)
    (u0 : P.underlying f0.type = some (.int .i64)) (u1 : P.underlying f1.type = some .string) (u2 : P.underlying f2.type = some .string) (hval : Value.okWide P w r b0 t v) (hd : DataW.Trod enc P w base spare held t v d ps) :
    ∃ (n : Int) (k u : ByteArray), v = .agg #[.int .i64 n, .string k, .string u] ∧ (Lit.int .i64 n).wf = true ∧ k.size ≤ maxLen ∧ u.size ≤ maxLen := by
  obtain ⟨v0, v1, v2, y0, y1, y2, m, rfl, _, _, h0, h1, h2⟩ := open_agg3 hs hone hC hval hd
  obtain ⟨n, e0, _, w0⟩ := DataW.trod_int u0 h0
  obtain ⟨k, e1, _, hk⟩ := DataW.trod_string u1 h1
  obtain ⟨u, e2, _, hu⟩ := DataW.trod_string u2 h2
  injection e0 with e0
  injection e1 with e1
  injection e2 with e2
  subst e0 e1 e2
  exact ⟨n, k, u, rfl, w0, hk, hu⟩
theorem open_two_ints {q t : TypeId} (hq : P.underlying q = some (.array 2 t)) (hcq : P.cellsOf q = 2) (hct : P.cellsOf t = 1) (ht : P.underlying t = some (.int .i64)) (hval : Value.okWide P w r b0 q v)
    (hd : DataW.Trod enc P w base spare held q v d ps) : ∃ m0 m1 : Int, v = .agg #[.int .i64 m0, .int .i64 m1] ∧ (Lit.int .i64 m0).wf = true ∧ (Lit.int .i64 m1).wf = true := by
  unfold Value.okWide at hval
  rw [hq] at hval
  obtain ⟨cs, rfl, hcs, _⟩ := hval
  rw [hcq] at hcs
  obtain ⟨fuel, hf⟩ := hd
  have hlist : ∃ a b, cs = #[a, b] := by
    obtain ⟨l⟩ := cs
    match l, hcs with
    | [a, b], _ => exact ⟨a, b, rfl⟩
  obtain ⟨a, b, rfl⟩ := hlist
  cases fuel with
  | zero => simp [DataW.trod] at hf
  | succ fuel =>
    have hf1 : DataW.trod enc P w base spare held (fuel + 1) q [a, b] = some (d, ps) := by simpa [Value.cells] using hf
    unfold DataW.trod at hf1
    rw [hq] at hf1
    simp only [hcq, hct, List.length_cons, List.length_nil, if_true] at hf1
    rw [show List.range 2 = [0, 1] from rfl] at hf1
    simp only [List.mapM_cons, List.mapM_nil, Option.map_eq_some_iff] at hf1
    obtain ⟨xs, hxs, _⟩ := hf1
    cases h0 : DataW.trod enc P w base spare held fuel t [a] with
    | none => simp [h0] at hxs
    | some x0 =>
      cases h1 : DataW.trod enc P w base spare held fuel t [b] with
      | none => simp [h0, h1] at hxs
      | some x1 =>
        obtain ⟨z0, e0, _, w0⟩ := DataW.trod_int ht h0
        obtain ⟨z1, e1, _, w1⟩ := DataW.trod_int ht h1
        injection e0 with e0
        injection e1 with e1
        subst e0 e1
        exact ⟨z0, z1, rfl, w0, w1⟩
end
end
section
/- A page: its value, its block; what Decode of package row tells of a slot's bytes, as functions. -/
open Go.RowKit

set_option linter.unusedSimpArgs false
set_option linter.unusedVariables false

/-- A page. -/
structure Pg where
  mark : Nat
  ten : Nat
  num : Nat
  s : Nat → ByteArray
def Pg.cells (p : Pg) : Array Value := #[.int .u64 (p.mark : Int), .int .i64 (p.ten : Int), .int .i64 (p.num : Int), .string (p.s 0), .string (p.s 1), .string (p.s 2), .string (p.s 3), .string (p.s 4)]
def Pg.val (p : Pg) : Value := .agg p.cells
def Pg.set (p : Pg) (i : Nat) (v : ByteArray) : Pg := ⟨p.mark, p.ten, p.num, fun j => if j = i then v else p.s j⟩

/-- A page stored whole. -/
def set8 (W : World) (g : Nat) (p : Pg) : World :=
  (((((((W.setCell ⟨g, 0, none⟩ (.int .u64 (p.mark : Int))).setCell ⟨g, 1, none⟩ (.int .i64 (p.ten : Int))).setCell ⟨g, 2, none⟩ (.int .i64 (p.num : Int))).setCell ⟨g, 3, none⟩ (.string (p.s 0))).setCell ⟨g, 4, none⟩ (.string (p.s 1))).setCell ⟨g, 5, none⟩ (.string (p.s 2))).setCell ⟨g, 6, none⟩ (.string (p.s 3))).setCell ⟨g, 7, none⟩ (.string (p.s 4))
theorem blk_set {w : World} {g : Nat} {t : TypeId} {cs cs' : Array Value} (h : Blk w g t cs) (i : Nat) (u : Value) (e : cs.setIfInBounds i u = cs') : Blk (w.setCell ⟨g, i, none⟩ u) g t cs' := e ▸ h.set_ i u
theorem pg_set8_below {w w' : World} {B g : Nat} {p : Pg} (h : Below B w w') (hg : B ≤ g) : Below B w (Go.Proofs.Ythkocbfioegcnaa.set8 w' g p) :=
  ((((((((h.setCell hg _).setCell hg _).setCell hg _).setCell hg _).setCell hg _).setCell hg _).setCell hg _).setCell hg _)

/-- Are these the bytes of a row? -/
def rowB (l : List UInt8) : Bool := decide (l.length = 40) && rowOkB (rowT l : Int) ⟨(rowK l).toArray⟩ ⟨(rowV l).toArray⟩ && (encL (rowT l) (rowK l) (rowV l) == l)
theorem rowB_length {l : List UInt8} (h : rowB l = true) : l.length = 40 := by
  unfold rowB at h; simp at h; exact h.1.1
theorem rowB_enc (t : Nat) (k v : List UInt8) (ht : t < 4) (hk : k.length ≤ 15) (hv : v.length ≤ 21) : rowB (encL t k v) = true := by
  obtain ⟨h1, h2, h3⟩ := row_enc t k v (by omega) hk hv
  unfold rowB
  rw [h1, h2, h3, encL_length _ _ _ hk hv, rightB_iff.2 ⟨by omega, by omega, by rw [arr_size]; exact hk, by rw [arr_size]; exact hv⟩]
  simp
theorem rowB_z40 : rowB z40 = false := by decide
def decE (l : List UInt8) : Int := if rowB l = true then 0 else if l = z40 then 5 else 9
def decT (l : List UInt8) : Int := if rowB l = true then (rowT l : Int) else 0
def decK (l : List UInt8) : ByteArray := if rowB l = true then ⟨(rowK l).toArray⟩ else ⟨#[]⟩
def decV (l : List UInt8) : ByteArray := if rowB l = true then ⟨(rowV l).toArray⟩ else ⟨#[]⟩
def decR (l : List UInt8) : Value := .agg #[.int .i64 (decT l), .string (decK l), .string (decV l)]
theorem dec_fn {l : List UInt8} {t : Int} {k v : ByteArray} {e : Int} (hl : l.length = 40) (h : Dec l t k v e) : t = decT l ∧ k = decK l ∧ v = decV l ∧ e = decE l := by
  rcases h with ⟨rfl, rfl, rfl, rfl, hz, hn⟩ | ⟨rfl, rfl, rfl, rfl, hz⟩ | ⟨rfl, hr, he⟩
  · have hb : rowB l = false := by
      rw [← Bool.not_eq_true]
      intro hb
      unfold rowB at hb
      simp only [Bool.and_eq_true, beq_iff_eq, rightB_iff, arr_size] at hb
      exact hn _ _ _ (by omega) (by omega) (by omega) hb.2
    have hz' : l ≠ z40 := hz
    simp [decE, decT, decK, decV, hb, hz']
  · have hz' : l = z40 := hz
    subst hz'
    simp [decE, decT, decK, decV, rowB_z40]
  · obtain ⟨h1, h2, h3, h4⟩ := rightB_iff.1 hr
    obtain ⟨n, rfl⟩ : ∃ n : Nat, t = (n : Int) := ⟨t.toNat, by omega⟩
    rw [Int.toNat_natCast] at he
    have hk : k.data.toList.length ≤ 15 := by rw [size_data]; exact h3
    have hv : v.data.toList.length ≤ 21 := by rw [size_data]; exact h4
    have hb : rowB l = true := by rw [← he]; exact rowB_enc n _ _ (by omega) hk hv
    obtain ⟨e1, e2, e3⟩ := row_enc n _ _ (by omega) hk hv
    rw [he] at e1 e2 e3
    simp [decE, decT, decK, decV, hb, e1, e2, e3]
end
section
/- '[]byte(s)' of any text. -/
open Go.RowKit

set_option linter.unusedSimpArgs false
set_option linter.unusedVariables false

/-- The world behind it. -/
def cvtW (W : World) (s : ByteArray) : World := Lib.bytesWorld W 5 s
def cvtV (W : World) (s : ByteArray) : Value := .slice (some ⟨W.heap.size, 0, none⟩) s.size (grownCap W s.size 0 5)
theorem run_cvt (s : ByteArray) (W : World) : (convert 9 26 (.string s)).run Try.prog W = .ok (cvtV W s) (cvtW W s) :=
  Lib.run_convert_string_bytes W 9 26 5 s Try.underlying9 Try.underlying26 Try.underlying5
theorem cvt_below (W : World) (s : ByteArray) : Below W.heap.size W (cvtW W s) := by
  have hb := Lib.bytesWorld_at_old W 5 s
  refine ⟨?_, ?_, ?_, ?_, hb⟩
  · show (Lib.bytesWorld W 5 s).os = _
    rfl
  · rfl
  · rfl
  · show _ ≤ (Lib.bytesWorld W 5 s).heap.size
    rw [Lib.bytesWorld_size]; omega
theorem cvt_rd (W : World) (s : ByteArray) : Rd (cvtW W s) (cvtV W s) (u8s s.data.toList) := by
  have hl : (u8s s.data.toList).length = s.size := by rw [u8s_length]; exact Array.length_toList
  refine ⟨_, _, by rw [hl]; rfl, ?_, fun _ => ⟨W.heap.size, 0, rfl, ?_, fun j u hu => ?_⟩⟩
  · rw [hl]
    exact grownCap_ge W s.size 0 _
  · show _ < (Lib.bytesWorld W 5 s).heap.size
    rw [Lib.bytesWorld_size]; omega
  · have hj : j < (u8s s.data.toList).length := (List.getElem?_eq_some_iff.1 hu).1
    rw [hl] at hj
    have hj2 : j < s.data.toList.length := by rw [Array.length_toList]; exact hj
    rw [u8s_get _ j hj2] at hu
    injection hu with hu
    subst hu
    rw [Nat.zero_add]
    refine (Lib.bytesWorld_cell W 5 s j hj).trans ?_
    simp [List.getD, hj]
end
section
/- Contracts of package page: has, Slot, Set. -/
open Go.RowKit

set_option linter.unusedSimpArgs false
set_option linter.unusedVariables false

/-- May a slot have it? -/
def okB (s : ByteArray) : Bool := decide (s = ⟨#[]⟩) || rowB s.data.toList
theorem okB_row {s : ByteArray} (h : okB s = true) (h0 : s ≠ ⟨#[]⟩) : rowB s.data.toList = true := by
  unfold okB at h
  simp only [Bool.or_eq_true, decide_eq_true_eq] at h
  exact h.resolve_left h0
theorem decE_row {l : List UInt8} (h : rowB l = true) : decE l = 0 := by simp [decE, h]
theorem decE_no {l : List UInt8} (h : rowB l = false) : decE l ≠ 0 := by
  unfold decE
  rw [h, if_neg (by simp)]
  split <;> omega
theorem grownBy_own {w w' : World} {g : Nat} (h : w.grownBy w' (some g)) (i : Nat) (u : Value) : w.grownBy (w'.setCell ⟨g, i, none⟩ u) (some g) :=
  ⟨h.os, h.tape, h.output, by have := h.size; simpa [World.setCell] using this, fun k hk hne => (Below.heap_setCell _ _ _ _ (fun e => hne (congrArg some e))).trans (h.block k hk hne)⟩
/-- Set, whatever the text. -/
def Pg.put (p : Pg) (i : Nat) (s : ByteArray) : Pg := if okB s = true then p.set i s else p
end
section
/- Contract of package page: said. -/
open Go.RowKit

set_option linter.unusedSimpArgs false
set_option linter.unusedVariables false

/-- A slot's forty bytes. -/
def padS (s : ByteArray) : List UInt8 := s.data.toList ++ List.replicate (40 - s.size) 0
/-- What a page says up to its slot k. -/
def Pg.part (p : Pg) : Nat → List UInt8
  | 0 => be 2 p.ten ++ be 2 p.num
  | k + 1 => p.part k ++ padS (p.s k)
def Pg.saidL (p : Pg) : List UInt8 := p.part 5 ++ List.replicate 20 0
def Pg.sized (p : Pg) : Prop := ∀ j, j < 5 → (p.s j).size ≤ 40
theorem padS_length {s : ByteArray} (h : s.size ≤ 40) : (padS s).length = 40 := by
  simp [padS]; omega
theorem Pg.part_length {p : Pg} (h : p.sized) : ∀ k, k ≤ 5 → (p.part k).length = 4 + 40 * k
  | 0, _ => by simp [Pg.part, be_length]
  | k + 1, hk => by
    rw [Pg.part, List.length_append, Pg.part_length h k (by omega), padS_length (h k (by omega))]
    omega
theorem Pg.said_length {p : Pg} (h : p.sized) : p.saidL.length = 224 := by
  rw [Pg.saidL, List.length_append, Pg.part_length h 5 (by omega), List.length_replicate]
theorem put_2n (x : Nat) (w : World) :
    Calls Try.prog 20 #[.slice none 0 0, .int .i64 2, .int .u64 (x : Int)] w fun e w' => ∃ v', e = .returned v' ∧ Mine w' w.heap.size v' (be 2 x) ∧ Below w.heap.size w w' :=
  put_2 (.slice none 0 0) [] x w (by simp) (Rd.nil_ _ _ _)

end
section
/- Contract of package page: Free. -/
open Go.RowKit

set_option linter.unusedSimpArgs false
set_option linter.unusedVariables false

/-- Ints as cells hold them. -/
def i64s (l : List Int) : List Value := l.map fun x => .int .i64 x
theorem i64s_length (l : List Int) : (i64s l).length = l.length := List.length_map ..
theorem i64s_get (l : List Int) (j : Nat) (h : j < l.length) : (i64s l)[j]? = some (.int .i64 l[j]) := by
  simp [i64s, h]
/-- Is a slot free, and none of these? -/
def Pg.freeB (p : Pg) (but : List Int) (j : Nat) : Bool := decide (p.s j = ⟨#[]⟩) && decide ((j : Int) ∉ but)
def Pg.freeI (p : Pg) (but : List Int) : Int :=
  if p.freeB but 0 = true then 0 else if p.freeB but 1 = true then 1 else if p.freeB but 2 = true then 2 else if p.freeB but 3 = true then 3 else if p.freeB but 4 = true then 4 else -1
theorem free_here (p : Pg) (but : List Int) (k : Nat) (hk : k < 5) (h : ∀ j, j < k → p.freeB but j = false) (h1 : p.freeB but k = true) : p.freeI but = (k : Int) := by
  unfold Pg.freeI
  match k, hk with
  | 0, _ => simp [h1]
  | 1, _ => simp [h1, h 0 (by omega)]
  | 2, _ => simp [h1, h 0 (by omega), h 1 (by omega)]
  | 3, _ => simp [h1, h 0 (by omega), h 1 (by omega), h 2 (by omega)]
  | 4, _ => simp [h1, h 0 (by omega), h 1 (by omega), h 2 (by omega), h 3 (by omega)]
theorem free_none (p : Pg) (but : List Int) (h : ∀ j, j < 5 → p.freeB but j = false) : p.freeI but = -1 := by
  unfold Pg.freeI
  simp [h 0 (by omega), h 1 (by omega), h 2 (by omega), h 3 (by omega), h 4 (by omega)]
theorem freeB_next {p : Pg} {but : List Int} {k : Nat} (h : ∀ j, j < k → p.freeB but j = false) (h1 : p.freeB but k = false) : ∀ j, j < k + 1 → p.freeB but j = false := by
  intro j hj
  rcases Nat.lt_or_ge j k with hlt | hge
  · exact h j hlt
  · obtain rfl : j = k := by omega
    exact h1
theorem freeB_full {p : Pg} {but : List Int} {k : Nat} (h : p.s k ≠ ⟨#[]⟩) : p.freeB but k = false := by simp [Pg.freeB, h]
theorem freeB_but {p : Pg} {but : List Int} {k j : Nat} (hj : j < but.length) (h : but[j] = (k : Int)) : p.freeB but k = false := by
  have : (k : Int) ∈ but := by rw [← h]; exact List.getElem_mem hj
  simp [Pg.freeB, this]
theorem freeB_yes {p : Pg} {but : List Int} {k : Nat} (h : p.s k = ⟨#[]⟩) (h1 : ∀ q, q < but.length → but[q]? ≠ some (k : Int)) : p.freeB but k = true := by
  have : (k : Int) ∉ but := by
    intro hm
    obtain ⟨q, hq, e⟩ := List.getElem_of_mem hm
    exact h1 q hq (by rw [List.getElem?_eq_getElem hq, e])
  simp [Pg.freeB, h, this]
theorem but_next {but : List Int} {j : Nat} {k : Int} (hj : j < but.length) (h : ∀ q, q < j → but[q]? ≠ some k) (h1 : but[j] ≠ k) : ∀ q, q < j + 1 → but[q]? ≠ some k := by
  intro q hq
  rcases Nat.lt_or_ge q j with hlt | hge
  · exact h q hlt
  · obtain rfl : q = j := by omega
    rw [List.getElem?_eq_getElem hj]
    intro e
    injection e with e
    exact h1 e
end
section
/- Contract of package page: Encode. -/
open Go.RowKit

set_option linter.unusedSimpArgs false
set_option linter.unusedVariables false

/-- A page's first k sectors. -/
def Pg.secs (p : Pg) : Nat → List UInt8
  | 0 => []
  | k + 1 => p.secs k ++ be 8 p.mark ++ (p.saidL.drop (k * 56)).take 56
/-- A page's bytes. -/
def Pg.encL (p : Pg) : List UInt8 := if p.mark = 0 then z256 else p.secs 4
theorem Pg.secs_length {p : Pg} (h : p.sized) : ∀ k, k ≤ 4 → (p.secs k).length = 64 * k
  | 0, _ => rfl
  | k + 1, hk => by
    rw [Pg.secs, List.length_append, List.length_append, Pg.secs_length h k (by omega), be_length, List.length_take, List.length_drop, p.said_length h]
    omega
theorem Pg.encL_length {p : Pg} (h : p.sized) : p.encL.length = 256 := by
  unfold Pg.encL
  split
  · exact z256_length
  · rw [Pg.secs_length h 4 (by omega)]
theorem pg_mine_new {w : World} {b g n : Nat} (l : List UInt8) (hb : b ≤ g) (hg : w.heap.size = g) (hn : l.length = n) (hl : n ≤ 1000) : Mine (w.alloc (.cells (blk8 l) 5)) b (.slice (some ⟨g, 0, none⟩) n n) l := by
  subst hn hg
  refine ⟨by rw [u8s_length, Nat.mul_one], .inr ⟨w.heap.size, l.length, blk8 l, rfl, hb, heap_new _ _, Nat.le_refl _, by unfold maxLen; omega, by rw [blk8_size, Nat.mul_one], ?_⟩⟩
  show List.take (l.length * 1) (u8s l) = u8s l
  rw [Nat.mul_one, ← u8s_length, List.take_length]
theorem run_from {A : Option Addr} {c k : Nat} (hk : k < 4) (W : World) : (Instr.slice 26 (.slice A 224 c) (some (.int .i64 ((k : Int) * 56))) none none).run Try.prog W = .ok (.slice (hiA A c (k * 56)) (224 - k * 56) (c - k * 56)) W := by
  have := run_high (P := Try.prog) slice8 size8 A 224 c (k * 56) (by omega) W
  rwa [show ((k * 56 : Nat) : Int) = (k : Int) * 56 by omega] at this
theorem run_to {A : Option Addr} {n c : Nat} (hc : 56 ≤ c) (W : World) : (Instr.slice 26 (.slice A n c) none (some (.int .i64 56)) none).run Try.prog W = .ok (.slice A 56 c) W :=
  run_low (P := Try.prog) slice8 size8 A n c 56 hc W
theorem rd_sec {w : World} {A : Option Addr} {c k : Nat} {l : List UInt8} (hk : k < 4) (h : Rd w (.slice A 224 c) (u8s l)) : Rd w (.slice (hiA A c (k * 56)) 56 (c - k * 56)) (u8s ((l.drop (k * 56)).take 56)) :=
  Rd.low (Rd.high (k := k * 56) h (by omega)) (by omega)
end
section
/- Contract of package page: read. -/
open Go.RowKit

set_option linter.unusedSimpArgs false
set_option linter.unusedVariables false

/-- What is read of a page's bytes: the reader behind k sectors, the last mark, what they say. -/
def rdSt (l : List UInt8) : Nat → St
  | 0 => ⟨l, false⟩
  | k + 1 => ((rdSt l k).numSt 8).take 56
def rdMark (l : List UInt8) : Nat → Nat
  | 0 => 0
  | k + 1 => (rdSt l k).num 8
def rdSaid (l : List UInt8) : Nat → List UInt8
  | 0 => []
  | k + 1 => rdSaid l k ++ ((rdSt l k).numSt 8).got 56
def slSt (m : List UInt8) : Nat → St
  | 0 => ((⟨m, false⟩ : St).numSt 2).numSt 2
  | k + 1 => (slSt m k).take 40
def rdPg (l : List UInt8) : Nat → Pg
  | 0 => ⟨rdMark l 4, (⟨rdSaid l 4, false⟩ : St).num 2, ((⟨rdSaid l 4, false⟩ : St).numSt 2).num 2, fun _ => ⟨#[]⟩⟩
  | k + 1 => (rdPg l k).put k ⟨((slSt (rdSaid l 4) k).got 40).toArray⟩
def readP (l : List UInt8) : Pg := rdPg l 5
def pZ : Pg := ⟨0, 0, 0, fun _ => ⟨#[]⟩⟩
theorem St.got_le_n (s : St) (n : Nat) : (s.got n).length ≤ n := by
  unfold St.got
  split
  · rw [List.length_take]; simp; omega
  · simp
theorem rdSt_length (l : List UInt8) : ∀ k, (rdSt l k).rest.length ≤ l.length
  | 0 => Nat.le_refl _
  | k + 1 => Nat.le_trans (St.take_length _ _) (Nat.le_trans (St.numSt_length _ _) (rdSt_length l k))
theorem rdSaid_length (l : List UInt8) : ∀ k, (rdSaid l k).length ≤ 56 * k
  | 0 => Nat.le_refl _
  | k + 1 => by
    have : (((rdSt l k).numSt 8).got 56).length ≤ 56 := ((rdSt l k).numSt 8).got_le_n 56
    have := rdSaid_length l k
    rw [rdSaid, List.length_append]
    omega
theorem slSt_length (m : List UInt8) : ∀ k, (slSt m k).rest.length ≤ m.length
  | 0 => Nat.le_trans (St.numSt_length _ _) (St.numSt_length _ _)
  | k + 1 => Nat.le_trans (St.take_length _ _) (slSt_length m k)
theorem rdMark_lt (l : List UInt8) (k : Nat) : rdMark l k < 18446744073709551616 := by
  cases k with
  | zero => show 0 < _; omega
  | succ k => exact St.num_lt _ _
theorem Pg.put_head (p : Pg) (k : Nat) (s : ByteArray) : (p.put k s).mark = p.mark ∧ (p.put k s).ten = p.ten ∧ (p.put k s).num = p.num := by
  unfold Pg.put
  split <;> exact ⟨rfl, rfl, rfl⟩

theorem Mine.grown {w w' : World} {base : Nat} {v : Value} {l : List UInt8} {row : Option Nat} (h : Mine w base v l) (hg : w.grownBy w' row) (hr : ∀ k, row = some k → k < base) : Mine w' base v l := by
  refine World.ownsRow.kept (row := row) h hg ?_
  cases hv : v.ownBlock with
  | none => exact .inl rfl
  | some k => refine .inr fun e => ?_; have := hr k e.symm; have := (World.ownsRow.lt h k hv).1; omega
theorem grownBy_refl (w : World) (row : Option Nat) : w.grownBy w row := ⟨rfl, rfl, rfl, Nat.le_refl _, fun _ _ _ => rfl⟩
theorem num_8 {w : World} {lo g : Nat} {s : St} (h : Rdr w lo g s) (hm : s.rest.length ≤ 70368744177664) :
    Calls Try.prog 33 #[ptr g, .int .i64 8] w fun e w' => e = .returned (.int .u64 (s.num 8 : Int)) ∧ Rdr w' lo g (s.numSt 8) ∧ w.grownBy w' (some g) := num_any 8 h hm
theorem num_2 {w : World} {lo g : Nat} {s : St} (h : Rdr w lo g s) (hm : s.rest.length ≤ 70368744177664) :
    Calls Try.prog 33 #[ptr g, .int .i64 2] w fun e w' => e = .returned (.int .u64 (s.num 2 : Int)) ∧ Rdr w' lo g (s.numSt 2) ∧ w.grownBy w' (some g) := num_any 2 h hm
theorem take_56 {w : World} {lo g : Nat} {s : St} (h : Rdr w lo g s) (hm : s.rest.length ≤ 70368744177664) :
    Calls Try.prog 32 #[ptr g, .int .i64 56] w fun e w' => ∃ A c, e = .returned (.slice A (s.got 56).length c) ∧ Rd w' (.slice A (s.got 56).length c) (u8s (s.got 56)) ∧ Rdr w' lo g (s.take 56) ∧ w.grownBy w' (some g) :=
  (take_told 56 h hm).mono fun _ _ ⟨A, c, h1, h2, h3, h4, _⟩ => ⟨A, c, h1, h2, h3, h4⟩
theorem take_40 {w : World} {lo g : Nat} {s : St} (h : Rdr w lo g s) (hm : s.rest.length ≤ 70368744177664) :
    Calls Try.prog 32 #[ptr g, .int .i64 40] w fun e w' => ∃ A c, e = .returned (.slice A (s.got 40).length c) ∧ Rdr w' lo g (s.take 40) ∧ w.grownBy w' (some g) ∧
      (convert 26 9 (.slice A (s.got 40).length c)).run Try.prog w' = .ok (.string ⟨(s.got 40).toArray⟩) w' :=
  (take_told 40 h hm).mono fun _ _ ⟨A, c, h1, _, h3, h4, h5⟩ => ⟨A, c, h1, h3, h4, h5⟩
end
section
/- Contract of package page: Decode, as a function of the bytes. -/
open Go.RowKit

set_option linter.unusedSimpArgs false
set_option linter.unusedVariables false

theorem okB_empty : okB ⟨#[]⟩ = true := by simp [okB]
theorem okB_size {s : ByteArray} (h : okB s = true) : s.size ≤ 40 := by
  unfold okB at h
  simp only [Bool.or_eq_true, decide_eq_true_eq] at h
  rcases h with rfl | h
  · exact Nat.zero_le _
  · have := rowB_length h
    rw [size_data] at this
    omega
theorem rdPg_ok (l : List UInt8) : ∀ k j, okB ((rdPg l k).s j) = true
  | 0, _ => okB_empty
  | k + 1, j => by
    rw [rdPg]
    unfold Pg.put
    split
    · rename_i h
      show okB (if j = k then _ else _) = true
      split
      · exact h
      · exact rdPg_ok l k j
    · exact rdPg_ok l k j
theorem rdPg_head (l : List UInt8) : ∀ k, (rdPg l k).mark = rdMark l 4 ∧ (rdPg l k).ten = (⟨rdSaid l 4, false⟩ : St).num 2 ∧ (rdPg l k).num = ((⟨rdSaid l 4, false⟩ : St).numSt 2).num 2
  | 0 => ⟨rfl, rfl, rfl⟩
  | k + 1 => by
    rw [rdPg]
    obtain ⟨h1, h2, h3⟩ := (rdPg l k).put_head k ⟨((slSt (rdSaid l 4) k).got 40).toArray⟩
    rw [h1, h2, h3]
    exact rdPg_head l k
/-- A page that may be. -/
def Pg.good (p : Pg) : Prop := p.mark < 18446744073709551616 ∧ p.ten < 65536 ∧ p.num < 65536 ∧ ∀ j, j < 5 → okB (p.s j) = true
theorem Pg.good_sized {p : Pg} (h : p.good) : p.sized := fun j hj => okB_size (h.2.2.2 j hj)
theorem readP_good (l : List UInt8) : (readP l).good := by
  obtain ⟨h1, h2, h3⟩ := rdPg_head l 5
  refine ⟨?_, ?_, ?_, fun j _ => rdPg_ok l 5 j⟩
  · show (rdPg l 5).mark < _; rw [h1]; exact rdMark_lt l 4
  · show (rdPg l 5).ten < _; rw [h2]; exact St.num2_lt _
  · show (rdPg l 5).num < _; rw [h3]; exact St.num2_lt _
/-- The page of zeros. -/
def pTN (t n : Nat) : Pg := ⟨0, t, n, fun _ => ⟨#[]⟩⟩
/-- What Decode takes it for. -/
def readTN (l : List UInt8) (t n : Nat) : Pg := if (readP l).mark = 0 then pTN t n else readP l
/-- Is it that page? -/
def isPg (l : List UInt8) (t n : Nat) : Prop := (readTN l t n).ten = t ∧ (readTN l t n).num = n ∧ (readTN l t n).encL = l
def zVal : Value := .agg #[.int .u64 0, .int .i64 0, .int .i64 0, .string ⟨#[]⟩, .string ⟨#[]⟩, .string ⟨#[]⟩, .string ⟨#[]⟩, .string ⟨#[]⟩]
end
section
/- Package page: a page comes back from its bytes; Decode's answer. -/
open Go.RowKit

set_option linter.unusedSimpArgs false
set_option linter.unusedVariables false

theorem St.num_some (n m : Nat) (r : List UInt8) (h1 : 1 ≤ n) (h8 : n ≤ 8) : (⟨be n m ++ r, false⟩ : St).num (n : Int) = m % 256 ^ n ∧ (⟨be n m ++ r, false⟩ : St).numSt (n : Int) = ⟨r, false⟩ := by
  obtain ⟨h3, h4⟩ := St.some_take (be n m) r (n : Int) (by rw [be_length])
  unfold St.num St.numSt
  rw [if_pos (by omega), if_pos (by omega), h3, h4, val_be]
  exact ⟨rfl, rfl⟩
/-- A sector. -/
def Pg.sec (p : Pg) (k : Nat) : List UInt8 := be 8 p.mark ++ (p.saidL.drop (k * 56)).take 56
theorem Pg.secs_all (p : Pg) : p.secs 4 = p.sec 0 ++ (p.sec 1 ++ (p.sec 2 ++ (p.sec 3 ++ []))) := by
  simp [Pg.secs, Pg.sec]
theorem sec_read {p : Pg} (hs : p.sized) (hm : p.mark < 18446744073709551616) (k : Nat) (hk : k < 4) (r : List UInt8) :
    (⟨p.sec k ++ r, false⟩ : St).num 8 = p.mark ∧ ((⟨p.sec k ++ r, false⟩ : St).numSt 8).take 56 = ⟨r, false⟩ ∧ ((⟨p.sec k ++ r, false⟩ : St).numSt 8).got 56 = (p.saidL.drop (k * 56)).take 56 := by
  obtain ⟨h1, h2⟩ := St.num_some 8 p.mark ((p.saidL.drop (k * 56)).take 56 ++ r) (by omega) (by omega)
  have e : p.sec k ++ r = be 8 p.mark ++ ((p.saidL.drop (k * 56)).take 56 ++ r) := by simp [Pg.sec]
  have hl : (((p.saidL.drop (k * 56)).take 56).length : Int) = 56 := by
    rw [List.length_take, List.length_drop, p.said_length hs]; omega
  obtain ⟨h3, h4⟩ := St.some_take ((p.saidL.drop (k * 56)).take 56) r 56 hl
  rw [e]
  have h1' : (⟨be 8 p.mark ++ ((p.saidL.drop (k * 56)).take 56 ++ r), false⟩ : St).num 8 = p.mark % 256 ^ 8 := h1
  have h2' : (⟨be 8 p.mark ++ ((p.saidL.drop (k * 56)).take 56 ++ r), false⟩ : St).numSt 8 = ⟨(p.saidL.drop (k * 56)).take 56 ++ r, false⟩ := h2
  rw [h1', h2', h3, h4]
  exact ⟨Nat.mod_eq_of_lt hm, rfl, rfl⟩
theorem four_parts (m : List UInt8) (h : m.length = 224) : (((([] ++ (m.drop (0 * 56)).take 56) ++ (m.drop (1 * 56)).take 56) ++ (m.drop (2 * 56)).take 56) ++ (m.drop (3 * 56)).take 56) = m := by
  have e (k : Nat) : m.take (k * 56) ++ (m.drop (k * 56)).take 56 = m.take ((k + 1) * 56) := by
    rw [Nat.add_mul, Nat.one_mul, List.take_add]
  have e0 : ([] : List UInt8) = m.take (0 * 56) := by simp
  rw [e0, e 0, e 1, e 2, e 3]
  exact List.take_of_length_le (by omega)
theorem secs_read {p : Pg} (hs : p.sized) (hm : p.mark < 18446744073709551616) : rdMark (p.secs 4) 4 = p.mark ∧ rdSaid (p.secs 4) 4 = p.saidL := by
  rw [p.secs_all]
  obtain ⟨a0, b0, c0⟩ := sec_read hs hm 0 (by omega) (p.sec 1 ++ (p.sec 2 ++ (p.sec 3 ++ [])))
  obtain ⟨a1, b1, c1⟩ := sec_read hs hm 1 (by omega) (p.sec 2 ++ (p.sec 3 ++ []))
  obtain ⟨a2, b2, c2⟩ := sec_read hs hm 2 (by omega) (p.sec 3 ++ [])
  obtain ⟨a3, b3, c3⟩ := sec_read hs hm 3 (by omega) []
  generalize hl : p.sec 0 ++ (p.sec 1 ++ (p.sec 2 ++ (p.sec 3 ++ []))) = l at *
  have s0 : rdSt l 0 = ⟨l, false⟩ := rfl
  have s1 : rdSt l 1 = ⟨p.sec 1 ++ (p.sec 2 ++ (p.sec 3 ++ [])), false⟩ := b0
  have s2 : rdSt l 2 = ⟨p.sec 2 ++ (p.sec 3 ++ []), false⟩ := by rw [rdSt, s1]; exact b1
  have s3 : rdSt l 3 = ⟨p.sec 3 ++ [], false⟩ := by rw [rdSt, s2]; exact b2
  refine ⟨by rw [rdMark, s3]; exact a3, ?_⟩
  rw [rdSaid, s3, c3, rdSaid, s2, c2, rdSaid, s1, c1, rdSaid, s0, c0, rdSaid]
  exact four_parts _ (p.said_length hs)
theorem said_all (p : Pg) : p.saidL = be 2 p.ten ++ (be 2 p.num ++ (padS (p.s 0) ++ (padS (p.s 1) ++ (padS (p.s 2) ++ (padS (p.s 3) ++ (padS (p.s 4) ++ List.replicate 20 0)))))) := by
  simp [Pg.saidL, Pg.part]
theorem pad_take {s : ByteArray} (h : s.size ≤ 40) (r : List UInt8) : (⟨padS s ++ r, false⟩ : St).take 40 = ⟨r, false⟩ ∧ (⟨padS s ++ r, false⟩ : St).got 40 = padS s :=
  St.some_take (padS s) r 40 (by rw [padS_length h]; rfl)
theorem said_read {p : Pg} (hs : p.sized) (ht : p.ten < 65536) (hn : p.num < 65536) :
    (⟨p.saidL, false⟩ : St).num 2 = p.ten ∧ ((⟨p.saidL, false⟩ : St).numSt 2).num 2 = p.num ∧ ∀ k, k < 5 → (slSt p.saidL k).got 40 = padS (p.s k) := by
  rw [said_all p]
  obtain ⟨h1, h2⟩ := St.num_some 2 p.ten (be 2 p.num ++ (padS (p.s 0) ++ (padS (p.s 1) ++ (padS (p.s 2) ++ (padS (p.s 3) ++ (padS (p.s 4) ++ List.replicate 20 0)))))) (by omega) (by omega)
  obtain ⟨h3, h4⟩ := St.num_some 2 p.num (padS (p.s 0) ++ (padS (p.s 1) ++ (padS (p.s 2) ++ (padS (p.s 3) ++ (padS (p.s 4) ++ List.replicate 20 0))))) (by omega) (by omega)
  obtain ⟨t0, g0⟩ := pad_take (hs 0 (by omega)) (padS (p.s 1) ++ (padS (p.s 2) ++ (padS (p.s 3) ++ (padS (p.s 4) ++ List.replicate 20 0))))
  obtain ⟨t1, g1⟩ := pad_take (hs 1 (by omega)) (padS (p.s 2) ++ (padS (p.s 3) ++ (padS (p.s 4) ++ List.replicate 20 0)))
  obtain ⟨t2, g2⟩ := pad_take (hs 2 (by omega)) (padS (p.s 3) ++ (padS (p.s 4) ++ List.replicate 20 0))
  obtain ⟨t3, g3⟩ := pad_take (hs 3 (by omega)) (padS (p.s 4) ++ List.replicate 20 0)
  obtain ⟨_, g4⟩ := pad_take (hs 4 (by omega)) (List.replicate 20 0)
  have e2 : ((2 : Nat) : Int) = 2 := rfl
  rw [e2] at h1 h2 h3 h4
  generalize hl : be 2 p.ten ++ (be 2 p.num ++ (padS (p.s 0) ++ (padS (p.s 1) ++ (padS (p.s 2) ++ (padS (p.s 3) ++ (padS (p.s 4) ++ List.replicate 20 0)))))) = l at *
  have s0 : slSt l 0 = ⟨padS (p.s 0) ++ (padS (p.s 1) ++ (padS (p.s 2) ++ (padS (p.s 3) ++ (padS (p.s 4) ++ List.replicate 20 0)))), false⟩ := by rw [slSt, h2, h4]
  have s1 : slSt l 1 = ⟨padS (p.s 1) ++ (padS (p.s 2) ++ (padS (p.s 3) ++ (padS (p.s 4) ++ List.replicate 20 0))), false⟩ := by rw [slSt, s0]; exact t0
  have s2 : slSt l 2 = ⟨padS (p.s 2) ++ (padS (p.s 3) ++ (padS (p.s 4) ++ List.replicate 20 0)), false⟩ := by rw [slSt, s1]; exact t1
  have s3 : slSt l 3 = ⟨padS (p.s 3) ++ (padS (p.s 4) ++ List.replicate 20 0), false⟩ := by rw [slSt, s2]; exact t2
  have s4 : slSt l 4 = ⟨padS (p.s 4) ++ List.replicate 20 0, false⟩ := by rw [slSt, s3]; exact t3
  refine ⟨by rw [h1]; exact Nat.mod_eq_of_lt ht, by rw [h2, h3]; exact Nat.mod_eq_of_lt hn, fun k hk => ?_⟩
  match k, hk with
  | 0, _ => rw [s0]; exact g0
  | 1, _ => rw [s1]; exact g1
  | 2, _ => rw [s2]; exact g2
  | 3, _ => rw [s3]; exact g3
  | 4, _ => rw [s4]; exact g4
theorem bytes_eq {a : ByteArray} : (⟨a.data.toList.toArray⟩ : ByteArray) = a := by
  obtain ⟨⟨l⟩⟩ := a; rfl
/-- A slot's bytes, put anew. -/
theorem put_pad (q : Pg) (k : Nat) {s : ByteArray} (h : okB s = true) (hq : q.s k = ⟨#[]⟩) : (q.put k ⟨(padS s).toArray⟩).s = fun j => if j = k then s else q.s j := by
  unfold okB at h
  simp only [Bool.or_eq_true, decide_eq_true_eq] at h
  by_cases h0 : s = ⟨#[]⟩
  · subst h0
    have e : okB ⟨(padS ⟨#[]⟩).toArray⟩ = false := by decide
    unfold Pg.put
    rw [e, if_neg (by simp)]
    funext j
    split
    · subst j; exact hq
    · rfl
  · have hr := h.resolve_left h0
    have hl : s.data.toList.length = 40 := rowB_length hr
    have e : padS s = s.data.toList := by
      unfold padS
      rw [show 40 - s.size = 0 by rw [← size_data, hl]]
      simp
    rw [e, bytes_eq]
    unfold Pg.put
    rw [if_pos (by unfold okB; simp [hr])]
    rfl
theorem readP_of {p : Pg} {l m : List UInt8} (ho : ∀ j, j < 5 → okB (p.s j) = true) (h1 : rdMark l 4 = p.mark) (h2 : rdSaid l 4 = m) (h3 : (⟨m, false⟩ : St).num 2 = p.ten) (h4 : ((⟨m, false⟩ : St).numSt 2).num 2 = p.num) (h5 : ∀ k, k < 5 → (slSt m k).got 40 = padS (p.s k)) :
    (readP l).mark = p.mark ∧ (readP l).ten = p.ten ∧ (readP l).num = p.num ∧ ∀ j, j < 5 → (readP l).s j = p.s j := by
  obtain ⟨a, b, c⟩ := rdPg_head l 5
  rw [h1] at a
  rw [h2] at b c
  refine ⟨a, b.trans h3, c.trans h4, ?_⟩
  have hk : ∀ k, k ≤ 5 → ∀ j, (rdPg l k).s j = if j < k then p.s j else ⟨#[]⟩ := by
    intro k
    induction k with
    | zero => intro _ j; rw [if_neg (by omega)]; rfl
    | succ k ih =>
      intro hk j
      have hi := ih (by omega)
      rw [rdPg, h2, h5 k (by omega), put_pad _ k (ho k (by omega)) (by rw [hi k, if_neg (by omega)])]
      show (if j = k then p.s k else (rdPg l k).s j) = _
      rw [hi j]
      by_cases e : j = k
      · subst e; rw [if_pos rfl, if_pos (by omega)]
      · by_cases e2 : j < k
        · rw [if_neg e, if_pos e2, if_pos (by omega)]
        · rw [if_neg e, if_neg e2, if_neg (by omega)]
  intro j hj
  have := hk 5 (by omega) j
  rw [if_pos hj] at this
  exact this
theorem readP_secs {p : Pg} (hg : p.good) : (readP (p.secs 4)).mark = p.mark ∧ (readP (p.secs 4)).ten = p.ten ∧ (readP (p.secs 4)).num = p.num ∧ ∀ j, j < 5 → (readP (p.secs 4)).s j = p.s j := by
  have hs := Pg.good_sized hg
  obtain ⟨hm, ht, hn, ho⟩ := hg
  obtain ⟨h1, h2⟩ := secs_read hs hm
  obtain ⟨h3, h4, h5⟩ := said_read hs ht hn
  exact readP_of ho h1 h2 h3 h4 h5
theorem pg_val {p q : Pg} (h1 : p.mark = q.mark) (h2 : p.ten = q.ten) (h3 : p.num = q.num) (h4 : ∀ j, j < 5 → p.s j = q.s j) : p.val = q.val ∧ p.encL = q.encL := by
  have e0 := h4 0 (by omega)
  have e1 := h4 1 (by omega)
  have e2 := h4 2 (by omega)
  have e3 := h4 3 (by omega)
  have e4 := h4 4 (by omega)
  refine ⟨by unfold Pg.val Pg.cells; rw [h1, h2, h3, e0, e1, e2, e3, e4], ?_⟩
  unfold Pg.encL
  rw [p.secs_all, q.secs_all]
  unfold Pg.sec
  rw [said_all p, said_all q, h1, h2, h3, e0, e1, e2, e3, e4]
theorem z256_read : (readP z256).mark = 0 := by
  have e : pZ.secs 4 = z256 := by kernel_rfl
  rw [← e]
  exact (readP_secs (p := pZ) ⟨by decide, by decide, by decide, fun _ _ => okB_empty⟩).1
/-- What bytes are. -/
def DecP (l : List UInt8) (t n : Nat) (q : Pg) (e : Int) : Prop :=
  (e = 0 ∧ q.encL = l ∧ q.ten = t ∧ q.num = n ∧ q.mark < 18446744073709551616 ∧ (∀ j, j < 5 → okB (q.s j) = true) ∧ (q.mark = 0 → ∀ j, q.s j = ⟨#[]⟩) ∧ ∀ p : Pg, p.good → p.mark ≠ 0 → p.encL = l → p.val = q.val) ∨
  (e = 11 ∧ q = pZ ∧ ∀ p : Pg, p.good → p.ten = t → p.num = n → p.encL ≠ l)
theorem mark_some {p : Pg} {l : List UInt8} (hg : p.good) (h : p.encL = l) (h0 : (readP l).mark ≠ 0) : p.mark ≠ 0 ∧ p.secs 4 = l := by
  unfold Pg.encL at h
  split at h
  · subst h; exact absurd z256_read h0
  · rename_i h1; exact ⟨h1, h⟩
end

end Go.Proofs.Ythkocbfioegcnaa
