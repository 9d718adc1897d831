/-
  What lies in memory between two steps of PageSlots: the page, the list beside it, its box, the boxed stop, the result.
-/
import Derived.Test.YtajpjffjhnmfmaaFill
import Derived.Test.YtajpjffjhnmfmaaToward
import Derived.Test.YtajpjffjhnmfmaaRange
namespace Go.Proofs.Ytajpjffjhnmfmaa
open Go.RowKit

set_option linter.unusedSimpArgs false
set_option linter.unusedVariables false

def upd (s : Nat → ByteArray) (i : Nat) (v : ByteArray) : Nat → ByteArray := fun j => if j = i then v else s j
structure SlIn (w wr : World) (g gm gb : Nat) (n : Int) (s s2 : Nat → ByteArray) : Prop where
  pg : PgB wr g ⟨0, 3, 4, s⟩
  list : Blk wr gm 9 (Pg.strs ⟨0, 3, 4, s2⟩)
  box : Blk wr gb 28 #[.slice (some ⟨gm, 0, none⟩) 5 5]
  stop : Blk wr w.heap.size 3 #[.int .i64 n]
  res : Blk wr (w.heap.size + 1) 4 #[.bool false]
  bel : Below w.heap.size w wr
  o1 : w.heap.size + 1 < g
  o2 : g < gm
  o3 : gm < gb
section
variable {w wr w' : World} {g gm gb : Nat} {n : Int} {s s2 : Nat → ByteArray}
theorem SlIn.below (h : SlIn w wr g gm gb n s s2) (hb : Below wr.heap.size wr w') : SlIn w w' g gm gb n s s2 :=
  ⟨h.pg.below hb, h.list.below hb, h.box.below hb, h.stop.below hb, h.res.below hb, h.bel.trans (hb.mono h.bel.size), h.o1, h.o2, h.o3⟩
theorem SlIn.grown {q : Nat → ByteArray} (h : SlIn w wr g gm gb n s s2) (hp : PgB w' g ⟨0, 3, 4, q⟩) (hg : wr.grownBy w' (some g)) : SlIn w w' g gm gb n q s2 := by
  have h1 := h.o1
  have h2 := h.o2
  have h3 := h.o3
  exact ⟨hp, h.list.grown hg (fun e => by injection e with e; omega), h.box.grown hg (fun e => by injection e with e; omega), h.stop.grown hg (fun e => by injection e with e; omega), h.res.grown hg (fun e => by injection e with e; omega),
    h.bel.grown hg h.bel.size (fun x hx => by injection hx with hx; omega), h1, h2, h3⟩
theorem SlIn.put (h : SlIn w wr g gm gb n s s2) {i : Nat} (hi : i < 5) (v : ByteArray) : SlIn w (wr.setCell ⟨gm, i, none⟩ (.string v)) g gm gb n s (upd s2 i v) := by
  have h1 := h.o1
  have h2 := h.o2
  have h3 := h.o3
  refine ⟨h.pg.far (by show g ≠ gm; omega) _, ?_, h.box.far (by show gb ≠ gm; omega) _, h.stop.far (by show _ ≠ gm; omega) _, h.res.far (by show _ ≠ gm; omega) _, h.bel.setCell (p := ⟨gm, i, none⟩) (by show _ ≤ gm; omega) _, h1, h2, h3⟩
  have := h.list.set_ i (.string v)
  rwa [strs_set _ hi] at this
theorem SlIn.cell (h : SlIn w wr g gm gb n s s2) {k : Nat} (hk : k < 5) : wr.cell? ⟨gm, k, none⟩ = some (.string (s2 k)) := h.list.cell k _ (strs_get ⟨0, 3, 4, s2⟩ hk)
theorem SlIn.frozen (h : SlIn w wr g gm gb n s s2) (k : Nat) : wr.frozen? ⟨gm, k, none⟩ = false := h.list.frozen k
theorem SlIn.boxed (h : SlIn w wr g gm gb n s s2) : wr.cell? ⟨gb, 0, none⟩ = some (.slice (some ⟨gm, 0, none⟩) 5 5) := h.box.cell 0 _ rfl
theorem SlIn.same (h : SlIn w wr g gm gb n s s2) (e : ∀ j, j < 5 → s2 j = s j) : SlIn w wr g gm gb n s s := by
  obtain ⟨h1, h2, h3, h4, h5, h6, h7, h8, h9⟩ := h
  refine ⟨h1, ?_, h3, h4, h5, h6, h7, h8, h9⟩
  have : Pg.strs ⟨0, 3, 4, s2⟩ = Pg.strs ⟨0, 3, 4, s⟩ := by
    simp [Pg.strs, e 0 (by omega), e 1 (by omega), e 2 (by omega), e 3 (by omega), e 4 (by omega)]
  rwa [this] at h2
theorem SlIn.far (h : SlIn w wr g gm gb n s s2) {p : Addr} (hp : gb < p.block) (u : Value) : SlIn w (wr.setCell p u) g gm gb n s s2 := by
  have h1 := h.o1
  have h2 := h.o2
  have h3 := h.o3
  exact ⟨h.pg.far (by omega) u, h.list.far (by omega) u, h.box.far (by omega) u, h.stop.far (by omega) u, h.res.far (by omega) u, h.bel.setCell (by omega) u, h1, h2, h3⟩
theorem SlIn.calm {D : Nat} {B : World} (h : SlIn w wr g gm gb n s s2) (hc : Calm D wr B) (hD : gb < D) (hs : D ≤ wr.heap.size) : SlIn w B g gm gb n s s2 := by
  have h1 := h.o1
  have h2 := h.o2
  have h3 := h.o3
  exact ⟨hc.blk h.pg (by omega) (by omega), hc.blk h.list (by omega) (by omega), hc.blk h.box (by omega) (by omega), hc.blk h.stop (by omega) (by omega), hc.blk h.res (by omega) (by omega),
    h.bel.trans ((hc.below hs).mono (by omega)), h1, h2, h3⟩
/-- Between two rounds of the loop over the rows. -/
structure LpIn (w A : World) (D g gm gb gl gn : Nat) (n : Int) (s : Nat → ByteArray) (q : Nat) (la : Int) (c : Nat) : Prop where
  l1 : -1 ≤ la
  l2 : la < (q : Int)
  l3 : c ≤ q
  bl : Blk A gl 3 #[.int .i64 la]
  bn : Blk A gn 3 #[.int .i64 (c : Int)]
  sl : SlIn w A g gm gb n s s
  big : D ≤ A.heap.size
theorem LpIn.calm {A B : World} {D gl gn q c : Nat} {la : Int} (h : LpIn w A D g gm gb gl gn n s q la c) (hc : Calm D A B) (h1 : gb < D) (h2 : gl < D) (h3 : gn < D) : LpIn w B D g gm gb gl gn n s q la c :=
  ⟨h.l1, h.l2, h.l3, hc.blk h.bl (by omega) (by omega), hc.blk h.bn (by omega) (by omega), h.sl.calm hc h1 h.big, Nat.le_trans h.big hc.2.2.2.1⟩
theorem LpIn.more {A : World} {D gl gn q c : Nat} {la : Int} (h : LpIn w A D g gm gb gl gn n s q la c) : LpIn w A D g gm gb gl gn n s (q + 1) la c :=
  ⟨h.l1, by have := h.l2; omega, by have := h.l3; omega, h.bl, h.bn, h.sl, h.big⟩
/-- A row's bytes decoded, then encoded. -/
theorem row_back {l : List UInt8} (h : rowB l = true) (W : World) :
    Calls Try.prog 18 #[.agg #[.int .i64 (decT l), .string (decK l), .string (decV l)]] W fun e w' => ∃ v, e = .returned v ∧ (Say.rd 40 l).p w' v ∧ Below W.heap.size W w' := by
  have h0 := h
  unfold rowB at h0
  simp only [Bool.and_eq_true, decide_eq_true_eq, beq_iff_eq] at h0
  obtain ⟨⟨h1, h2⟩, h3⟩ := h0
  rw [show decT l = (rowT l : Int) by simp [decT, h], show decK l = ⟨(rowK l).toArray⟩ by simp [decK, h], show decV l = ⟨(rowV l).toArray⟩ by simp [decV, h]]
  refine (encode_yes _ _ _ W h2).mono ?_
  rintro e w' ⟨v, rfl, hm, hb⟩
  have e1 : encL (rowT l) (⟨(rowK l).toArray⟩ : ByteArray).data.toList (⟨(rowV l).toArray⟩ : ByteArray).data.toList = l := by simpa using h3
  rw [e1] at hm
  obtain ⟨A, c, rfl⟩ := hm.form
  refine ⟨_, rfl, ⟨A, c, by rw [h1], ?_⟩, hb⟩
  have := hm.rd
  rwa [h1] at this
theorem sl_free {y : Int} (h : SlIn w wr g gm gb n s s2) (hy : (Pg.mk 0 3 4 s).freeI [1, 9, -3] = y) :
    Calls Try.prog 21 #[.pointer (some ⟨g, 0, none⟩), .slice (some ⟨wr.heap.size, 0, none⟩) 3 3] (wr.alloc (.cells #[.int .i64 1, .int .i64 9, .int .i64 (-3)] 3)) fun e w' => e = .returned (.int .i64 y) ∧ (wr.alloc (.cells #[.int .i64 1, .int .i64 9, .int .i64 (-3)] 3)) = w' := by
  have := free_any (h.pg.alloc (.cells #[.int .i64 1, .int .i64 9, .int .i64 (-3)] 3)) (.slice (some ⟨wr.heap.size, 0, none⟩) 3 3) [1, 9, -3] (Rd.new_ wr _ _ _ rfl rfl (Nat.le_refl _) rfl) (by decide)
  rw [hy] at this
  refine this.mono ?_
  rintro e w' ⟨rfl, rfl⟩
  exact ⟨rfl, rfl⟩
theorem sl_free_nil (v : Value) : Calls Try.prog 21 #[.pointer none, v] wr fun e w' => e = .returned (.int .i64 (-1)) ∧ wr = w' := free_nil v wr
theorem sl_set_nil : Calls Try.prog 19 #[.pointer none, .int .i64 0, .string ⟨#[]⟩] wr fun e w' => e = .returned (.bool false) ∧ wr = w' := set_nil 0 ⟨#[]⟩
theorem sl_slot_nil : Calls Try.prog 16 #[.pointer none, .int .i64 0] wr fun e w' => e = .returned (.string ⟨#[]⟩) ∧ wr = w' := slot_nil 0
theorem sl_set (h : SlIn w wr g gm gb n s s2) (i : Nat) (hi : i < 5) (v : ByteArray) (hv : okB v = true) :
    Calls Try.prog 19 #[.pointer (some ⟨g, 0, none⟩), .int .i64 (i : Int), .string v] wr fun e w' => e = .returned (.bool true) ∧ SlIn w w' g gm gb n (upd s i v) s2 := by
  refine (set_in h.pg i hi v hv).mono ?_
  rintro e w' ⟨rfl, hp, hg⟩
  exact ⟨rfl, h.grown hp hg⟩
theorem sl_none (h : SlIn w wr g gm gb n s s2) (i : Nat) (hi : i < 5) :
    Calls Try.prog 19 #[.pointer (some ⟨g, 0, none⟩), .int .i64 (i : Int), .string ⟨#[110, 111, 110, 101]⟩] wr fun e w' => e = .returned (.bool false) ∧ SlIn w w' g gm gb n s s2 := by
  refine (set_no h.pg i hi _ (by decide) (by decide)).mono ?_
  rintro e w' ⟨rfl, hp, hg⟩
  exact ⟨rfl, h.grown hp hg⟩
theorem sl_slot (h : SlIn w wr g gm gb n s s2) (i : Nat) (hi : i < 5) (v : ByteArray) (hv : s i = v) :
    Calls Try.prog 16 #[.pointer (some ⟨g, 0, none⟩), .int .i64 (i : Int)] wr fun e w' => e = .returned (.string v) ∧ wr = w' := by
  have := slot_in h.pg i hi
  rwa [show (Pg.mk 0 3 4 s).s i = v from hv] at this
theorem sl_set_out (i : Int) (v : ByteArray) (hi : i < 0 ∨ (0 ≤ i ∧ 5 ≤ i)) :
    Calls Try.prog 19 #[.pointer (some ⟨g, 0, none⟩), .int .i64 i, .string v] wr fun e w' => e = .returned (.bool false) ∧ wr = w' := set_out i v hi
theorem sl_slot_out (i : Int) (hi : i < 0 ∨ (0 ≤ i ∧ 5 ≤ i)) :
    Calls Try.prog 16 #[.pointer (some ⟨g, 0, none⟩), .int .i64 i] wr fun e w' => e = .returned (.string ⟨#[]⟩) ∧ wr = w' := slot_out i hi
theorem upd_here (s : Nat → ByteArray) (i : Nat) (v : ByteArray) : upd s i v i = v := by simp [upd]
theorem upd_ok {i : Nat} {v : ByteArray} (h : ∀ j, j < 5 → okB (s j) = true) (hv : okB v = true) : ∀ j, j < 5 → okB (upd s i v j) = true := by
  intro j hj
  unfold upd
  split
  · exact hv
  · exact h j hj
theorem okB_of {v : ByteArray} (h : rowB v.data.toList = true) : okB v = true := by unfold okB; rw [h]; simp
end
/-- The first row's cells, whatever grows. -/
theorem rows_first {w : World} {B n c : Nat} {A : Option Addr} {rs : List RowD} (h : RowRow w B (.slice A n c) rs) (h0 : 0 < rs.length) :
    ∃ b o t k u, A = some ⟨b, o, none⟩ ∧ ∀ W, Below B w W → W.cell? ⟨b, o, none⟩ = some (.int .i64 t) ∧ W.cell? ⟨b, o + 1, none⟩ = some (.string k) ∧ W.cell? ⟨b, o + 2, none⟩ = some (.string u) := by
  obtain ⟨A', c', he, h1⟩ := h
  injection he with e1 e2 e3
  subst e1
  obtain ⟨b, o, rfl, hb, hc⟩ := h1 h0
  have hx : rs[0]? = some rs[0] := by simp
  refine ⟨b, o, rs[0].t, rs[0].k, rs[0].v, rfl, fun W hW => ⟨?_, ?_, ?_⟩⟩
  · have := hc 0 _ hx 0 _ rfl
    simp only [Nat.zero_mul, Nat.add_zero] at this
    exact (hW.cell (p := ⟨b, o, none⟩) hb).trans this
  · have := hc 0 _ hx 1 _ rfl
    simp only [Nat.zero_mul, Nat.add_zero] at this
    exact (hW.cell (p := ⟨b, o + 1, none⟩) hb).trans this
  · have := hc 0 _ hx 2 _ rfl
    simp only [Nat.zero_mul, Nat.add_zero] at this
    exact (hW.cell (p := ⟨b, o + 2, none⟩) hb).trans this
theorem ints_at {w : World} {B n c j : Nat} {A : Option Addr} {zs : List Int} (h : Row w B (.slice A n c) (zs.map fun x => .int .i64 x)) (hj : j < zs.length) :
    ∃ b o, A = some ⟨b, o, none⟩ ∧ ∀ W, Below B w W → W.cell? ⟨b, o + j, none⟩ = some (.int .i64 zs[j]) := by
  obtain ⟨A', c', he, _, h1⟩ := h
  injection he with e1 e2 e3
  subst e1
  obtain ⟨b, o, rfl, hb, hc⟩ := h1 (by rw [List.length_map]; omega)
  refine ⟨b, o, rfl, fun W hW => (hW.cell (p := ⟨b, o + j, none⟩) hb).trans (hc j _ ?_)⟩
  simp [hj]
/-- The least slot from q on that has no row and isn't slot 1. -/
structure LeastB (s : Nat → ByteArray) (q : Nat) (y : Int) : Prop where
  le : q ≤ 5
  is : (y = -1 ∧ ∀ x, q ≤ x → x < 5 → ¬ (s x = ⟨#[]⟩ ∧ x ≠ 1)) ∨ ∃ k : Nat, y = (k : Int) ∧ k < 5 ∧ (s k = ⟨#[]⟩ ∧ k ≠ 1) ∧ ∀ x, q ≤ x → x < k → ¬ (s x = ⟨#[]⟩ ∧ x ≠ 1)
theorem leastB_start (s : Nat → ByteArray) : LeastB s 5 (-1) := ⟨Nat.le_refl _, .inl ⟨rfl, fun x h1 h2 => by omega⟩⟩
theorem LeastB.lt {s : Nat → ByteArray} {q : Nat} {y : Int} (h : LeastB s (q + 1) y) : q < 5 := h.le
theorem LeastB.skip {s : Nat → ByteArray} {q : Nat} {y : Int} (h : LeastB s (q + 1) y) (hn : ¬ (s q = ⟨#[]⟩ ∧ q ≠ 1)) : LeastB s q y := by
  refine ⟨Nat.le_of_lt h.lt, ?_⟩
  have far : ∀ x, q ≤ x → x = q ∨ q + 1 ≤ x := by omega
  rcases h.is with ⟨rfl, h1⟩ | ⟨k, rfl, hk, h1, h2⟩
  · refine .inl ⟨rfl, fun x hx hx5 => ?_⟩
    rcases far x hx with rfl | h
    · exact hn
    · exact h1 x h hx5
  · refine .inr ⟨k, rfl, hk, h1, fun x hx hxk => ?_⟩
    rcases far x hx with rfl | h
    · exact hn
    · exact h2 x h hxk
theorem LeastB.take {s : Nat → ByteArray} {q : Nat} {y : Int} (h : LeastB s (q + 1) y) (h0 : s q = ⟨#[]⟩) (h1 : ¬ q = 1) : LeastB s q (q : Int) :=
  ⟨Nat.le_of_lt h.lt, .inr ⟨q, rfl, h.lt, ⟨h0, h1⟩, fun x a b => by omega⟩⟩
theorem LeastB.free {s : Nat → ByteArray} {y : Int} (h : LeastB s 0 y) : (Pg.mk 0 3 4 s).freeI [1, 9, -3] = y := by
  have hb : ∀ x, x < 5 → ((Pg.mk 0 3 4 s).freeB [1, 9, -3] x = true ↔ s x = ⟨#[]⟩ ∧ x ≠ 1) := by
    intro x hx
    unfold Pg.freeB
    simp only [Bool.and_eq_true, decide_eq_true_eq, List.mem_cons, List.not_mem_nil, or_false, not_or]
    constructor
    · rintro ⟨h1, h2, _⟩; exact ⟨h1, by omega⟩
    · rintro ⟨h1, h2⟩; exact ⟨h1, by omega, by omega, by omega⟩
  rcases h.is with ⟨rfl, h1⟩ | ⟨k, rfl, hk, h1, h2⟩
  · exact free_none _ _ fun x hx => by
      rw [← Bool.not_eq_true, hb x hx]; exact h1 x (Nat.zero_le _) hx
  · exact free_here _ _ k hk (fun x hx => by rw [← Bool.not_eq_true, hb x (by omega)]; exact h2 x (Nat.zero_le _) hx) ((hb k hk).2 h1)
theorem mod9 (z : Int) : ∃ i : Int, wrap64 (z.tmod 9 - 1) = i ∧ ((∃ k : Nat, k < 5 ∧ i = (k : Int)) ∨ i < 0 ∨ (0 ≤ i ∧ 5 ≤ i)) := by
  refine ⟨_, rfl, ?_⟩
  generalize wrap64 (z.tmod 9 - 1) = i
  by_cases h1 : i < 0
  · exact .inr (.inl h1)
  · by_cases h2 : 5 ≤ i
    · exact .inr (.inr ⟨by omega, h2⟩)
    · exact .inl ⟨i.toNat, by omega, by omega⟩
end Go.Proofs.Ytajpjffjhnmfmaa
