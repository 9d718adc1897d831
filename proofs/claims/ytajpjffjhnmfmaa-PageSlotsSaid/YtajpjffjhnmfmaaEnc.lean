/-
  Contracts of package row: field, Encode; and Equal of package bytes.
-/
import Derived.Test.YtajpjffjhnmfmaaRight
import Derived.Test.YtajpjffjhnmfmaaAppZ
import Derived.Test.YtajpjffjhnmfmaaTake
namespace Go.Proofs.Ytajpjffjhnmfmaa
open Go.RowKit

/-- A text in the room of the longest one. -/
def fieldL (s : List UInt8) (room : Nat) : List UInt8 := UInt8.ofNat s.length :: s ++ List.replicate (room - s.length) 0
/-- A row's bytes. -/
def encL (t : Nat) (k v : List UInt8) : List UInt8 := [1, UInt8.ofNat t] ++ fieldL k 15 ++ fieldL v 21
theorem fieldL_length (s : List UInt8) (room : Nat) (h : s.length ≤ room) : (fieldL s room).length = room + 1 := by
  simp [fieldL]; omega
theorem encL_length (t : Nat) (k v : List UInt8) (hk : k.length ≤ 15) (hv : v.length ≤ 21) : (encL t k v).length = 40 := by
  simp [encL, fieldL_length _ _ hk, fieldL_length _ _ hv]

theorem conv_rdn {w : World} {A : Option Addr} {n c : Nat} {l : List UInt8} (hn : l.length = n) (h : Rd w (.slice A n c) (u8s l)) : (convert 31 9 (.slice A n c)).run Try.prog w = .ok (.string ⟨l.toArray⟩) w := by
  subst hn
  exact conv_rd h
/-- b[:k] and b[k:] as operations of a region. -/
theorem exec_low {o : Oper} {a : Act} {w : World} {x : Operand} {A : Option Addr} {n c : Nat} (k : Nat) (ho : o.op = .slice 31 x none (some (.const (.int .i64 (k : Int)))) none) (hx : a.eval x = .slice A n c) (hk : k ≤ c) :
    (execOp a.eval o).run Try.prog w = .ok (.value (.slice A k c)) w := by
  have hr := run_low (P := Try.prog) slice8 size8 A n c k hk w
  have hc : a.eval (.const (.int .i64 (k : Int))) = .int .i64 (k : Int) := rfl
  unfold execOp
  simp only [ho, hx, hc, Option.map_none, Option.map_some, Sem.run_bind, run_sliceAt_slice (P := Try.prog) (w := w) (h := slice8), hr, Result.andThen_ok, Sem.run_pure]
theorem exec_high {o : Oper} {a : Act} {w : World} {x : Operand} {A : Option Addr} {n c : Nat} (k : Nat) (ho : o.op = .slice 31 x (some (.const (.int .i64 (k : Int)))) none none) (hx : a.eval x = .slice A n c) (hk : k ≤ n) :
    (execOp a.eval o).run Try.prog w = .ok (.value (.slice (hiA A c k) (n - k) (c - k))) w := by
  have hr := run_high (P := Try.prog) slice8 size8 A n c k hk w
  have hc : a.eval (.const (.int .i64 (k : Int))) = .int .i64 (k : Int) := rfl
  unfold execOp
  simp only [ho, hx, hc, Option.map_none, Option.map_some, Sem.run_bind, run_sliceAt_slice (P := Try.prog) (w := w) (h := slice8), hr, Result.andThen_ok, Sem.run_pure]
theorem size_data (s : ByteArray) : s.data.toList.length = s.size := Array.length_toList
set_option maxHeartbeats 1000000 in
theorem field_any (v : Value) (l : List UInt8) (s : ByteArray) (room : Nat) (w : World) (hm : l.length ≤ 1000) (hr : room ≤ 200) (hs : s.size ≤ room) (hv : Rd w v (u8s l)) :
    Calls Try.prog 27 #[v, .string s, .int .i64 (room : Int)] w fun e w' => ∃ v', e = .returned v' ∧ Mine w' w.heap.size v' (l ++ fieldL s.data.toList room) ∧ Below w.heap.size w w' := by
  obtain ⟨i0, hi, hz0, hz1, hz2⟩ := info_parts info8
  have hsub := hide (show (room : Int) - (s.size : Int) = ((room - s.size : Nat) : Int) by omega)
  have hl3 := hide (show (l ++ UInt8.ofNat s.size :: s.data.toList).length + (room - s.size) ≤ maxLen by unfold maxLen; simp; omega)
  have hl4 := hide (show (l ++ UInt8.ofNat s.size :: s.data.toList).length + (room - s.size) ≤ 140737488355328 by simp; omega)
  go_enter Try.func27, Try.ntmps27
  go_wp2_with (first
    | (go_at_call 33; refine (text_any v l s _ (by omega) (by omega) hv).mono ?_; rintro e w1 ⟨v1, rfl, hown, hb1⟩)
    | (at_builtin; refine wpList_append_zeros rfl (.tmp 9) (.tmp 13) 31 3 rfl w.heap.size 5 i0 .i64 .i64 Try.underlying31 Try.underlying3 hi hz0 hz1 hz2 v1 _ _ rfl hown (room - s.size) (congrArg (Value.int .i64) hsub.out) hl3.out hl4.out hb1.size ?_; intro v2 w2 hown2 hgrow))
  go_ret
  refine ⟨_, rfl, ?_, hb1.grown hgrow hb1.size fun k hk => (World.ownsRow.lt hown k hk).1⟩
  unfold Mine
  have e : l ++ fieldL s.data.toList room = (l ++ UInt8.ofNat s.size :: s.data.toList) ++ List.replicate (room - s.size) 0 := by
    simp [fieldL]
  rw [e, u8s_append, List.length_append, List.length_replicate]
  exact hown2
theorem equal_any (v u : Value) (l m : List UInt8) (w : World) (hv : Rd w v (u8s l)) (hu : Rd w u (u8s m)) :
    Calls Try.prog 25 #[v, u] w fun e w' => e = .returned (.bool (l == m)) ∧ w = w' := by
  obtain ⟨A, c, rfl, _, _⟩ := id hv
  obtain ⟨A', c', rfl, _, _⟩ := id hu
  rw [u8s_length] at hv hu
  simp only [u8s_length]
  have h1 := conv_rd hv
  have h2 := conv_rd hu
  clear hv hu
  go_enter Try.func25, Try.ntmps25
  go_wp2
  go_ret
  exact ⟨by simp, rfl⟩
theorem put_c1 (w : World) : Calls Try.prog 23 #[.slice none 0 0, .int .i64 1, .int .u64 1] w fun e w' => ∃ v', e = .returned v' ∧ Mine w' w.heap.size v' [1] ∧ Below w.heap.size w w' :=
  put_one (.slice none 0 0) [] 1 w (by simp) (Rd.nil_ _ _ _)
theorem field_15 (v : Value) (l : List UInt8) (s : ByteArray) (w : World) (hm : l.length ≤ 1000) (hs : s.size ≤ 15) (hv : Rd w v (u8s l)) :
    Calls Try.prog 27 #[v, .string s, .int .i64 15] w fun e w' => ∃ v', e = .returned v' ∧ Mine w' w.heap.size v' (l ++ fieldL s.data.toList 15) ∧ Below w.heap.size w w' := field_any v l s 15 w hm (by omega) hs hv
theorem field_21 (v : Value) (l : List UInt8) (s : ByteArray) (w : World) (hm : l.length ≤ 1000) (hs : s.size ≤ 21) (hv : Rd w v (u8s l)) :
    Calls Try.prog 27 #[v, .string s, .int .i64 21] w fun e w' => ∃ v', e = .returned v' ∧ Mine w' w.heap.size v' (l ++ fieldL s.data.toList 21) ∧ Below w.heap.size w w' := field_any v l s 21 w hm (by omega) hs hv
theorem Mine.more {w : World} {b b' : Nat} {v : Value} {l : List UInt8} (h : Mine w b' v l) (hb : b ≤ b') : Mine w b v l := by
  obtain ⟨h1, h2⟩ := h
  refine ⟨h1, ?_⟩
  rcases h2 with h2 | ⟨g, cap, cur, e, hg, r⟩
  · exact .inl h2
  · exact .inr ⟨g, cap, cur, e, Nat.le_trans hb hg, r⟩
theorem Blk.three {w : World} {g : Nat} {t : TypeId} {x y z : Value} (h : Blk w g t #[x, y, z]) : w.cell? ⟨g, 0, none⟩ = some x ∧ w.cell? ⟨g, 1, none⟩ = some y ∧ w.cell? ⟨g, 2, none⟩ = some z := ⟨h.cell 0 _ rfl, h.cell 1 _ rfl, h.cell 2 _ rfl⟩
set_option maxHeartbeats 1000000 in
theorem encode_yes (t : Nat) (k v : ByteArray) (w : World) (h : rightB t k v = true) :
    Calls Try.prog 18 #[.agg #[.int .i64 (t : Int), .string k, .string v]] w fun e w' => ∃ v', e = .returned v' ∧ Mine w' w.heap.size v' (encL t k.data.toList v.data.toList) ∧ Below w.heap.size w w' := by
  obtain ⟨h1, h2, h3, h4⟩ := rightB_iff.1 h
  have hsk := size_data k
  have hW : Below w.heap.size w (w.alloc (.cells #[.int .i64 (t : Int), .string k, .string v] 46)) := (Below.refl _ _).alloc (Nat.le_refl _) _
  have B0 : Blk (w.alloc (.cells #[.int .i64 (t : Int), .string k, .string v] 46)) w.heap.size 46 #[.int .i64 (t : Int), .string k, .string v] := heap_new w _
  go_enter Try.func18, Try.ntmps18
  go_wp2_with (first
    | (go_at_call 17; refine (right_yes _ k v _ h).mono ?_; rintro e w1 ⟨rfl, hb1⟩; have B1 := B0.below hb1)
    | (go_at_call 23; (with_reducible refine (put_c1 _).mono ?_); rintro e w2 ⟨v2, rfl, hown2, hb2⟩; have B2 := B1.below hb2; obtain ⟨c1, c2, c3⟩ := B2.three)
    | (go_at_call 23; (with_reducible refine (put_one v2 _ t _ (by simp) hown2.rd).mono ?_); rintro e w3 ⟨v3, rfl, hown3, hb3⟩; have B3 := B2.below hb3; obtain ⟨c4, c5, c6⟩ := B3.three)
    | (go_at_call 27; (with_reducible refine (field_15 v3 _ k _ (by simp) h3 hown3.rd).mono ?_); rintro e w4 ⟨v4, rfl, hown4, hb4⟩; have B4 := B3.below hb4; obtain ⟨c7, c8, c9⟩ := B4.three)
    | (go_at_call 27; (with_reducible refine (field_21 v4 _ v _ (by simp [fieldL]; omega) h4 hown4.rd).mono ?_); rintro e w5 ⟨v5, rfl, hown5, hb5⟩))
  go_ret
  have s0 := hW.size
  have s1 := hb1.size
  have s2 := hb2.size
  have s3 := hb3.size
  have s4 := hb4.size
  refine ⟨_, rfl, hown5.more (by omega), ((((hW.trans (hb1.mono hW.size)).trans (hb2.mono ?_)).trans (hb3.mono ?_)).trans (hb4.mono ?_)).trans (hb5.mono ?_)⟩
  all_goals omega
theorem encode_no (t : Int) (k v : ByteArray) (w : World) (h : rightB t k v = false) :
    Calls Try.prog 18 #[.agg #[.int .i64 t, .string k, .string v]] w fun e w' => e = .returned (.slice none 0 0) ∧ Below w.heap.size w w' := by
  have hW : Below w.heap.size w (w.alloc (.cells #[.int .i64 t, .string k, .string v] 46)) := (Below.refl _ _).alloc (Nat.le_refl _) _
  go_enter Try.func18, Try.ntmps18
  go_wp2_with (go_at_call 17; refine (right_no _ k v _ h).mono ?_; rintro e w1 ⟨rfl, hb1⟩)
  go_ret
  exact ⟨rfl, hW.trans (hb1.mono hW.size)⟩
end Go.Proofs.Ytajpjffjhnmfmaa
