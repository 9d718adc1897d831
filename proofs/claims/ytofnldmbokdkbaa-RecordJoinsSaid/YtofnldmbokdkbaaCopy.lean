/-
  copy into a block of bytes of the call's own, from a string or from a slice that reads as a list.
-/
import Derived.Test.YtofnldmbokdkbaaTurns
import Derived.Test.YtofnldmbokdkbaaApp
import Derived.Lib.SliceRun
import Derived.Laws.CopyRow
import Derived.Lib.AppendStr
namespace Go.Proofs.Ytofnldmbokdkbaa
open Go.RowKit

section
variable {P : Program} {w : World}
/-- l with m laid over it from place off on. -/
def over (l : List UInt8) (off : Nat) (m : List UInt8) : List UInt8 := l.take off ++ (m ++ l.drop (off + m.length))
theorem over_length (l m : List UInt8) (off : Nat) (h : off + m.length ≤ l.length) : (over l off m).length = l.length := by simp [over]; omega
theorem run_copy_into (t tx ty e : TypeId) (i : TypeInfo) (ht : P.underlying t = some (.slice e)) (hi : P.info? e = some i) (hs1 : i.size = 1) {g off n c : Nat} {l : List UInt8} (hb : Blk w g e (blk8 l)) (src : Value) (m : Nat) (ys : List UInt8)
    (hlen : (Builtin.lenOf src).run P w = .ok m w) (hys : ys.length = min m n) (hfirst : (Builtin.firstCells 1 (min m n) src).run P w = .ok (u8s ys).toArray w) (hfit : off + ys.length ≤ l.length) :
    ∃ w', (Builtin.copy_ #[t, tx] ty #[.slice (some ⟨g, off, none⟩) n c, src]).run P w = .ok (.int .i64 (min m n : Nat)) w' ∧ Blk w' g e (blk8 (over l off ys)) ∧ Turns (· = g) w w' := by
  have hst := run_storeCells_at P g off e (u8s ys) 0 (blk8 l) w hb (by rw [u8s_length, blk8_size]; omega) (oneCell_u8s ys)
  refine ⟨w.setRow g (((blk8 l).toList.take (off + 0) ++ u8s ys ++ (blk8 l).toList.drop (off + 0 + (u8s ys).length)).toArray), ?_, ?_, ?_⟩
  rotate_left
  · have h := setRow_heap w g (blk8 l) (((blk8 l).toList.take (off + 0) ++ u8s ys ++ (blk8 l).toList.drop (off + 0 + (u8s ys).length)).toArray) e _ hb
    refine Eq.trans h ?_
    congr 2
    apply Array.ext'
    simp [blk8, over, u8s]
  · exact ⟨rfl, rfl, rfl, by simp [World.setRow], fun k _ hk => setRow_other w g k _ hk⟩
  · have hmin : Nat.min m n = min m n := rfl
    rw [← hmin] at hfirst ⊢
    simp [Builtin.copy_, run_underlying ht, sizeOf, typeInfo, hi, hs1, hlen, hfirst, hst, goInt]
theorem run_lenOf_string (s : ByteArray) : (Builtin.lenOf (.string s)).run P w = .ok s.size w := by simp [Builtin.lenOf]
theorem run_firstCells_str (s : ByteArray) (n : Nat) : (Builtin.firstCells 1 n (.string s)).run P w = .ok (u8s (s.data.toList.take n)).toArray w := by
  have : ((s.extract 0 n).data.map fun b => Value.int .u8 b.toNat) = (u8s (s.data.toList.take n)).toArray := by
    apply Array.ext'
    simp [u8s, ByteArray.data_extract]
  simp only [Builtin.firstCells, this]; rfl
theorem run_firstCells_rd {A : Option Addr} {n c k : Nat} {xs : List Value} (h : Rd w (.slice A n c) xs) (hk : k ≤ n) : (Builtin.firstCells 1 k (.slice A n c)).run P w = .ok (xs.take k).toArray w := by
  obtain ⟨A', c', e, hc, hr⟩ := h
  injection e with e1 e2 e3
  subst e1 e3
  rcases A with _ | a
  · have h0 : xs = [] := by
      rcases Nat.eq_zero_or_pos xs.length with h | h
      · exact List.eq_nil_of_length_eq_zero h
      · obtain ⟨_, _, h, _⟩ := hr h; cases h
    subst h0
    simp [Builtin.firstCells]
  · refine run_firstCells_some (P := P) w 1 k a n c (xs.take k) (by simp; omega) fun j v hj => ?_
    have hjx : xs[j]? = some v := by
      rw [List.getElem?_take] at hj
      split at hj
      · exact hj
      · cases hj
    have hpos : 0 < xs.length := by have := (List.getElem?_eq_some_iff.1 hjx).1; omega
    obtain ⟨b, o, e, _, hcell⟩ := hr hpos
    injection e with e
    subst e
    rw [addr_add]
    exact hcell j v hjx
theorem run_lenOf_slice (A : Option Addr) (n c : Nat) : (Builtin.lenOf (.slice A n c)).run P w = .ok n w := by simp [Builtin.lenOf]
/-- copy(b[off:], s), b a block of one's own. -/
theorem run_copy_str (t tx ty e : TypeId) (i : TypeInfo) (ht : P.underlying t = some (.slice e)) (hi : P.info? e = some i) (hs1 : i.size = 1) {g off n c : Nat} {l : List UInt8} (hb : Blk w g e (blk8 l)) (s : ByteArray) (hn : s.size ≤ n) (hfit : off + s.size ≤ l.length) :
    ∃ w', (Builtin.copy_ #[t, tx] ty #[.slice (some ⟨g, off, none⟩) n c, .string s]).run P w = .ok (.int .i64 (s.size : Nat)) w' ∧ Blk w' g e (blk8 (over l off s.data.toList)) ∧ Turns (· = g) w w' := by
  have hsz : s.data.toList.length = s.size := Array.length_toList
  have hm : min s.size n = s.size := by omega
  obtain ⟨w', h1, h2, h3⟩ := run_copy_into (P := P) t tx ty e i ht hi hs1 (n := n) (c := c) (off := off) hb (.string s) s.size s.data.toList (run_lenOf_string s) (by omega) (by rw [hm, run_firstCells_str, ← hsz, List.take_length]) (by omega)
  rw [hm] at h1
  exact ⟨w', h1, h2, h3⟩
/-- copy(b[off:], x), b a block of one's own, x any slice that reads as a list. -/
theorem run_copy_rd (t tx ty e : TypeId) (i : TypeInfo) (ht : P.underlying t = some (.slice e)) (hi : P.info? e = some i) (hs1 : i.size = 1) {g off n c : Nat} {l : List UInt8} (hb : Blk w g e (blk8 l)) {A : Option Addr} {m cx : Nat} {xs : List UInt8} (hx : Rd w (.slice A m cx) (u8s xs)) (hm : xs.length = m) (hfit : off + min m n ≤ l.length) :
    ∃ w', (Builtin.copy_ #[t, tx] ty #[.slice (some ⟨g, off, none⟩) n c, .slice A m cx]).run P w = .ok (.int .i64 (min m n : Nat)) w' ∧ Blk w' g e (blk8 (over l off (xs.take (min m n)))) ∧ Turns (· = g) w w' := by
  refine run_copy_into (P := P) t tx ty e i ht hi hs1 (n := n) (c := c) (off := off) hb (.slice A m cx) m (xs.take (min m n)) (run_lenOf_slice A m cx) (by simp; omega) ?_ (by simp; omega)
  rw [u8s_take]
  exact run_firstCells_rd hx (Nat.min_le_left _ _)
theorem wp_copy_run {o : Oper} {a : Act} {K : Act → World → Prop} {Q : Exit → Act → World → Prop} (s x : Operand) (t tn : TypeId)
    (ho : o.op = .call { callee := .builtin .copy, args := #[s, x], argTypes := #[t, tn] }) (vs vx : Value) (hs : a.eval s = vs) (hx : a.eval x = vx)
    (v' : Value) (w' : World) (hr : (Builtin.copy_ #[t, tn] o.type #[vs, vx]).run P w = .ok v' w') (h : K (a.put o.dst v') w') : o.wp P a w K Q := by
  unfold Oper.wp execOp
  simp only [ho, resolve, invoke, builtin, Sem.run_bind, Sem.run_pure, Result.andThen_ok, List.map_toArray, List.map_cons, List.map_nil, hs, hx, hr]
  exact h
/-- The operation, for a walk. -/
theorem wpList_copy_run {ops : Array Oper} {rest : List Oper} {o : Oper} {a : Act} {Q : Exit → Act → World → Prop} (hgd : o.guard = none) (s x : Operand) (t tn : TypeId)
    (ho : o.op = .call { callee := .builtin .copy, args := #[s, x], argTypes := #[t, tn] }) (vs vx : Value) (hs : a.eval s = vs) (hx : a.eval x = vx)
    (v' : Value) (w' : World) (hr : (Builtin.copy_ #[t, tn] o.type #[vs, vx]).run P w = .ok v' w') (h : wpList P ops Q rest (a.put o.dst v') w') : wpList P ops Q (o :: rest) a w :=
  wpList_plain hgd fun _ hK => wp_copy_run s x t tn ho vs vx hs hx v' w' hr (hK _ _ h)
theorem wpList_copy_str {ops : Array Oper} {rest : List Oper} {o : Oper} {a : Act} {Q : Exit → Act → World → Prop} (hgd : o.guard = none) (d x : Operand) (t tn e : TypeId) (i : TypeInfo)
    (ho : o.op = .call { callee := .builtin .copy, args := #[d, x], argTypes := #[t, tn] }) (ht : P.underlying t = some (.slice e)) (hi : P.info? e = some i) (hs1 : i.size = 1)
    {g off n c : Nat} {l : List UInt8} (hd : a.eval d = .slice (some ⟨g, off, none⟩) n c) (hb : Blk w g e (blk8 l)) (s : ByteArray) (hx : a.eval x = .string s) (hn : s.size ≤ n) (hfit : off + s.size ≤ l.length)
    (h : ∀ w', Blk w' g e (blk8 (over l off s.data.toList)) → Turns (· = g) w w' → wpList P ops Q rest (a.put o.dst (.int .i64 (s.size : Nat))) w') : wpList P ops Q (o :: rest) a w := by
  obtain ⟨w', hr, h2, h3⟩ := run_copy_str (P := P) t tn o.type e i ht hi hs1 (n := n) (c := c) (off := off) hb s hn hfit
  exact wpList_copy_run hgd d x t tn ho _ _ hd hx _ w' hr (h w' h2 h3)
theorem wpList_copy_rd {ops : Array Oper} {rest : List Oper} {o : Oper} {a : Act} {Q : Exit → Act → World → Prop} (hgd : o.guard = none) (d x : Operand) (t tn e : TypeId) (i : TypeInfo)
    (ho : o.op = .call { callee := .builtin .copy, args := #[d, x], argTypes := #[t, tn] }) (ht : P.underlying t = some (.slice e)) (hi : P.info? e = some i) (hs1 : i.size = 1)
    {g off n c : Nat} {l : List UInt8} (hd : a.eval d = .slice (some ⟨g, off, none⟩) n c) (hb : Blk w g e (blk8 l)) {A : Option Addr} {m cx : Nat} {xs : List UInt8} (hx : a.eval x = .slice A m cx) (hr : Rd w (.slice A m cx) (u8s xs)) (hm : xs.length = m) (hfit : off + min m n ≤ l.length)
    (h : ∀ w', Blk w' g e (blk8 (over l off (xs.take (min m n)))) → Turns (· = g) w w' → wpList P ops Q rest (a.put o.dst (.int .i64 (min m n : Nat))) w') : wpList P ops Q (o :: rest) a w := by
  obtain ⟨w', hr, h2, h3⟩ := run_copy_rd (P := P) t tn o.type e i ht hi hs1 (n := n) (c := c) (off := off) hb hr hm hfit
  exact wpList_copy_run hgd d x t tn ho _ _ hd hx _ w' hr (h w' h2 h3)
end
end Go.Proofs.Ytofnldmbokdkbaa
