/-
  Contracts of package record: said, Encode.
-/
import Derived.Test.YtofnldmbokdkbaaCRight
import Derived.Test.YtofnldmbokdkbaaPut
namespace Go.Proofs.Ytofnldmbokdkbaa
open Go.RowKit

set_option linter.unusedSimpArgs false
set_option linter.unusedVariables false

/-- What a walk over a boxed record keeps: the box (the first block of the walk's own), the slice's numbers where they lie, and all that was there. -/
structure Bx (w0 w : World) (r : Rc) (A : Option Addr) (c : Nat) : Prop where
  bel : Below w0.heap.size w0 w
  blk : Blk w w0.heap.size 28 #[.int .i64 (r.k : Int), .int .i64 (r.t : Int), .int .i64 (r.p : Int), .int .i64 (r.s : Int), .string r.b, .string r.a, .string r.i, .slice A r.ds.length c]
  row : Row w w0.heap.size (.slice A r.ds.length c) (u64s r.ds)
theorem Blk.grown {w w' : World} {k : Nat} {t : TypeId} {cs : Array Value} {row : Option Nat} (h : Blk w k t cs) (hg : w.grownBy w' row) (hne : row ≠ some k) : Blk w' k t cs :=
  (hg.block k h.lt (fun e => hne e.symm)).trans h
section
variable {w0 w w' : World} {r : Rc} {A : Option Addr} {c : Nat}
theorem Bx.below (h : Bx w0 w r A c) (hb : Below w.heap.size w w') : Bx w0 w' r A c := ⟨h.bel.trans (hb.mono h.bel.size), h.blk.below hb, h.row.below (hb.mono h.bel.size)⟩
theorem Bx.alloc (h : Bx w0 w r A c) (o : Obj) : Bx w0 (w.alloc o) r A c := ⟨h.bel.alloc h.bel.size o, h.blk.alloc o, h.row.alloc h.bel.size o⟩
theorem Bx.drew (h : Bx w0 w r A c) : Bx w0 w.drew r A c := ⟨h.bel.drew, h.blk, h.row⟩
theorem Bx.grown {row : Option Nat} (h : Bx w0 w r A c) (hg : w.grownBy w' row) (hr : ∀ k, row = some k → w0.heap.size < k) : Bx w0 w' r A c := by
  have hb := h.bel.grown hg h.bel.size (fun k hk => Nat.le_of_lt (hr k hk))
  refine ⟨hb, h.blk.grown hg (fun e => by have := hr _ e; omega), h.row.keep fun p hp => ?_⟩
  exact (hb.cell hp).trans (h.bel.cell hp).symm
theorem Bx.new_ (h : Rd w (.slice A r.ds.length c) (u64s r.ds)) : Bx w (w.alloc (.cells #[.int .i64 (r.k : Int), .int .i64 (r.t : Int), .int .i64 (r.p : Int), .int .i64 (r.s : Int), .string r.b, .string r.a, .string r.i, .slice A r.ds.length c] 28)) r A c :=
  ⟨(Below.refl _ _).alloc (Nat.le_refl _) _, heap_new w _, Row.alloc h (Nat.le_refl _) _⟩
theorem Bx.all (h : Bx w0 w r A c) : w.cell? ⟨w0.heap.size, 0, none⟩ = some (.int .i64 (r.k : Int)) ∧ w.cell? ⟨w0.heap.size, 1, none⟩ = some (.int .i64 (r.t : Int)) ∧ w.cell? ⟨w0.heap.size, 2, none⟩ = some (.int .i64 (r.p : Int)) ∧ w.cell? ⟨w0.heap.size, 3, none⟩ = some (.int .i64 (r.s : Int)) ∧
    w.cell? ⟨w0.heap.size, 4, none⟩ = some (.string r.b) ∧ w.cell? ⟨w0.heap.size, 5, none⟩ = some (.string r.a) ∧ w.cell? ⟨w0.heap.size, 6, none⟩ = some (.string r.i) ∧ w.cell? ⟨w0.heap.size, 7, none⟩ = some (.slice A r.ds.length c) :=
  ⟨h.blk.cell 0 _ rfl, h.blk.cell 1 _ rfl, h.blk.cell 2 _ rfl, h.blk.cell 3 _ rfl, h.blk.cell 4 _ rfl, h.blk.cell 5 _ rfl, h.blk.cell 6 _ rfl, h.blk.cell 7 _ rfl⟩
theorem Bx.lt (h : Bx w0 w r A c) : w0.heap.size < w.heap.size := h.blk.lt
theorem Bx.rd (h : Bx w0 w r A c) : Rd w (.slice A r.ds.length c) (u64s r.ds) := h.row.more (Nat.le_of_lt h.lt)
/-- The numbers, one by one. -/
theorem Bx.num (h : Bx w0 w r A c) (j : Nat) (hj : j < r.ds.length) : ∃ b o, A = some ⟨b, o, none⟩ ∧ w.cell? ⟨b, o + j, none⟩ = some (.int .u64 (r.ds[j] : Int)) := by
  obtain ⟨A', c', e, hc, hr⟩ := h.row
  injection e with e1 e2 e3
  subst e1 e3
  obtain ⟨b, o, e, hb, hcell⟩ := hr (by rw [u64s_length]; omega)
  exact ⟨b, o, e, hcell j _ (u64s_get _ j hj)⟩
end
/-- A number of one byte behind bytes, as a call has it. -/
theorem put_1 (v : Value) (l : List UInt8) (x : Nat) (w : World) (hm : l.length ≤ 1000) (hv : Rd w v (u8s l)) :
    Calls Try.prog 21 #[v, .int .i64 1, .int .u64 (x : Int)] w fun e w' => ∃ v', e = .returned v' ∧ Mine w' w.heap.size v' (l ++ [UInt8.ofNat x]) ∧ Below w.heap.size w w' := put_one v l x w (by omega) hv
theorem put_n (x : Nat) (w : World) :
    Calls Try.prog 21 #[.slice none 0 0, .int .i64 1, .int .u64 (x : Int)] w fun e w' => ∃ v', e = .returned v' ∧ Mine w' w.heap.size v' [UInt8.ofNat x] ∧ Below w.heap.size w w' := put_one (.slice none 0 0) [] x w (by simp) (Rd.nil_ _ _ _)
theorem put_2 (v : Value) (l : List UInt8) (x : Nat) (w : World) (hm : l.length ≤ 1000) (hv : Rd w v (u8s l)) :
    Calls Try.prog 21 #[v, .int .i64 2, .int .u64 (x : Int)] w fun e w' => ∃ v', e = .returned v' ∧ Mine w' w.heap.size v' (l ++ be 2 x) ∧ Below w.heap.size w w' := put_any v l 2 x w (by omega) (by omega) (by omega) hv
theorem put_n2 (x : Nat) (w : World) :
    Calls Try.prog 21 #[.slice none 0 0, .int .i64 2, .int .u64 (x : Int)] w fun e w' => ∃ v', e = .returned v' ∧ Mine w' w.heap.size v' (be 2 x) ∧ Below w.heap.size w w' := put_any (.slice none 0 0) [] 2 x w (by simp) (by omega) (by omega) (Rd.nil_ _ _ _)
theorem put_8 (v : Value) (l : List UInt8) (x : Nat) (w : World) (hm : l.length ≤ 1000) (hv : Rd w v (u8s l)) :
    Calls Try.prog 21 #[v, .int .i64 8, .int .u64 (x : Int)] w fun e w' => ∃ v', e = .returned v' ∧ Mine w' w.heap.size v' (l ++ be 8 x) ∧ Below w.heap.size w w' := put_any v l 8 x w (by omega) (by omega) (by omega) hv
theorem put_n8 (x : Nat) (w : World) :
    Calls Try.prog 21 #[.slice none 0 0, .int .i64 8, .int .u64 (x : Int)] w fun e w' => ∃ v', e = .returned v' ∧ Mine w' w.heap.size v' (be 8 x) ∧ Below w.heap.size w w' := put_any (.slice none 0 0) [] 8 x w (by simp) (by omega) (by omega) (Rd.nil_ _ _ _)
theorem text_1 (v : Value) (l : List UInt8) (s : ByteArray) (w : World) (hm : l.length ≤ 1000) (hs : s.size ≤ 255) (hv : Rd w v (u8s l)) :
    Calls Try.prog 31 #[v, .string s] w fun e w' => ∃ v', e = .returned v' ∧ Mine w' w.heap.size v' (l ++ txt s) ∧ Below w.heap.size w w' := text_any v l s w (by omega) hs hv
theorem Mine.more {w : World} {b b' : Nat} {v : Value} {l : List UInt8} (h : Mine w b' v l) (hb : b ≤ b') : Mine w b v l := by
  obtain ⟨h1, h2⟩ := h
  refine ⟨h1, ?_⟩
  rcases h2 with h2 | ⟨g, cap, cur, e, hg, r⟩
  · exact .inl h2
  · exact .inr ⟨g, cap, cur, e, Nat.le_trans hb hg, r⟩
/-- A string behind a row of one's own. -/
theorem mine_str {w' : World} {base : Nat} {v' : Value} {l : List UInt8} {s : ByteArray} (h : w'.ownsRow base 5 1 v' (l.length + s.size) (u8s l ++ Lib.strCells s)) : Mine w' base v' (l ++ s.data.toList) := by
  unfold Mine
  rw [u8s_append, List.length_append, size_data]
  exact h
theorem mine_rd {w' : World} {base : Nat} {v' : Value} {l m : List UInt8} (h : w'.ownsRow base 5 1 v' (l.length + (u8s m).length) (u8s l ++ u8s m)) : Mine w' base v' (l ++ m) := by
  unfold Mine
  rw [u8s_append, List.length_append, ← u8s_length m]
  exact h
theorem Mine.low {w : World} {base : Nat} {v : Value} {l : List UInt8} (h : Mine w base v l) : ∀ k, v.ownBlock = some k → base ≤ k := fun k hk => (World.ownsRow.lt h k hk).1

/-- What stands ahead of the dirty pages. -/
def Rc.hd4 (r : Rc) : List UInt8 := (([UInt8.ofNat r.k] ++ [UInt8.ofNat r.t]) ++ [UInt8.ofNat r.p]) ++ [UInt8.ofNat r.s]
def Rc.hd6 (r : Rc) : List UInt8 := (r.hd4 ++ txt r.b) ++ txt r.a
def Rc.hd8 (r : Rc) : List UInt8 := (r.hd6 ++ be 2 r.i.size) ++ r.i.data.toList
def Rc.hd9 (r : Rc) : List UInt8 := r.hd8 ++ [UInt8.ofNat r.ds.length]
theorem Rc.said_eq (r : Rc) : r.said = r.hd9 ++ eights r.ds := by simp [Rc.said, Rc.hd9, Rc.hd8, Rc.hd6, Rc.hd4]
theorem Rc.hd4_length (r : Rc) : r.hd4.length = 4 := rfl
theorem Rc.hd6_length (r : Rc) : r.hd6.length = 6 + r.b.size + r.a.size := by simp [Rc.hd6, Rc.hd4_length, txt_length]; omega
theorem Rc.hd8_length (r : Rc) : r.hd8.length = 8 + r.b.size + r.a.size + r.i.size := by simp [Rc.hd8, Rc.hd6_length, be_length]; omega
theorem Rc.hd9_length (r : Rc) : r.hd9.length = 9 + r.b.size + r.a.size + r.i.size := by simp [Rc.hd9, Rc.hd8_length]; omega
theorem text_b {r : Rc} (v : Value) (w : World) (h : r.Ok) (hv : Rd w v (u8s r.hd4)) :
    Calls Try.prog 31 #[v, .string r.b] w fun e w' => ∃ v', e = .returned v' ∧ Mine w' w.heap.size v' (r.hd4 ++ txt r.b) ∧ Below w.heap.size w w' := text_1 v _ r.b w (by rw [r.hd4_length]; omega) (by have := h.b; omega) hv
theorem text_a {r : Rc} (v : Value) (w : World) (h : r.Ok) (hv : Rd w v (u8s (r.hd4 ++ txt r.b))) :
    Calls Try.prog 31 #[v, .string r.a] w fun e w' => ∃ v', e = .returned v' ∧ Mine w' w.heap.size v' r.hd6 ∧ Below w.heap.size w w' := text_1 v _ r.a w (by have := h.b; simp [r.hd4_length, txt_length]; omega) (by have := h.a; omega) hv
theorem put_i {r : Rc} (v : Value) (w : World) (h : r.Ok) (hv : Rd w v (u8s r.hd6)) :
    Calls Try.prog 21 #[v, .int .i64 2, .int .u64 (r.i.size : Int)] w fun e w' => ∃ v', e = .returned v' ∧ Mine w' w.heap.size v' (r.hd6 ++ be 2 r.i.size) ∧ Below w.heap.size w w' := put_2 v _ _ w (by have := h.b; have := h.a; rw [r.hd6_length]; omega) hv
theorem put_d {r : Rc} (v : Value) (w : World) (h : r.Ok) (hv : Rd w v (u8s r.hd8)) :
    Calls Try.prog 21 #[v, .int .i64 1, .int .u64 (r.ds.length : Int)] w fun e w' => ∃ v', e = .returned v' ∧ Mine w' w.heap.size v' r.hd9 ∧ Below w.heap.size w w' := put_1 v _ _ w (by have := h.b; have := h.a; have := h.i; rw [r.hd8_length]; omega) hv
theorem put_k (r : Rc) (w : World) :
    Calls Try.prog 21 #[.slice none 0 0, .int .i64 1, .int .u64 (r.k : Int)] w fun e w' => ∃ v', e = .returned v' ∧ Mine w' w.heap.size v' [UInt8.ofNat r.k] ∧ Below w.heap.size w w' := put_n r.k w
theorem put_t {r : Rc} (v : Value) (w : World) (hv : Rd w v (u8s [UInt8.ofNat r.k])) :
    Calls Try.prog 21 #[v, .int .i64 1, .int .u64 (r.t : Int)] w fun e w' => ∃ v', e = .returned v' ∧ Mine w' w.heap.size v' ([UInt8.ofNat r.k] ++ [UInt8.ofNat r.t]) ∧ Below w.heap.size w w' := put_1 v _ r.t w (by simp) hv
theorem put_p {r : Rc} (v : Value) (w : World) (hv : Rd w v (u8s ([UInt8.ofNat r.k] ++ [UInt8.ofNat r.t]))) :
    Calls Try.prog 21 #[v, .int .i64 1, .int .u64 (r.p : Int)] w fun e w' => ∃ v', e = .returned v' ∧ Mine w' w.heap.size v' (([UInt8.ofNat r.k] ++ [UInt8.ofNat r.t]) ++ [UInt8.ofNat r.p]) ∧ Below w.heap.size w w' := put_1 v _ r.p w (by simp) hv
theorem put_s {r : Rc} (v : Value) (w : World) (hv : Rd w v (u8s (([UInt8.ofNat r.k] ++ [UInt8.ofNat r.t]) ++ [UInt8.ofNat r.p]))) :
    Calls Try.prog 21 #[v, .int .i64 1, .int .u64 (r.s : Int)] w fun e w' => ∃ v', e = .returned v' ∧ Mine w' w.heap.size v' r.hd4 ∧ Below w.heap.size w w' := put_1 v _ r.s w (by simp) hv

set_option maxHeartbeats 4000000 in
theorem said_any (r : Rc) (A : Option Addr) (c : Nat) (w : World) (h : r.Ok) (hv : Rd w (.slice A r.ds.length c) (u64s r.ds)) :
    Calls Try.prog 20 #[.agg #[.int .i64 (r.k : Int), .int .i64 (r.t : Int), .int .i64 (r.p : Int), .int .i64 (r.s : Int), .string r.b, .string r.a, .string r.i, .slice A r.ds.length c]] w fun e w' => ∃ v', e = .returned v' ∧ Mine w' w.heap.size v' r.said ∧ Below w.heap.size w w' := by
  have B0 := Bx.new_ hv
  obtain ⟨i0, hi, hz0, hz1, hz2⟩ := info_parts info8
  obtain ⟨k1, k2⟩ := h.k
  have ht := h.t
  have hp := h.p
  have hs := h.s
  have hsi := h.i
  have hsd : r.ds.length ≤ 6 := by have := h.d; omega
  have H := hide h
  have hl1 := hide (show (r.hd6 ++ be 2 r.i.size).length + r.i.size ≤ maxLen by have := h.b; have := h.a; have := h.i; rw [List.length_append, be_length, r.hd6_length]; unfold maxLen; omega)
  have hl2 := hide (show (r.hd6 ++ be 2 r.i.size).length + r.i.size ≤ 140737488355328 by have := h.b; have := h.a; have := h.i; rw [List.length_append, be_length, r.hd6_length]; omega)
  clear h hv
  go_enter Try.func20, Try.ntmps20
  go_wp2_with (first
    | (go_at_call 21; ((with_reducible refine (put_k r _).mono ?_); rintro e w1 ⟨v1, rfl, m1, hb1⟩; have B1 := B0.below hb1; obtain ⟨b1, b2, b3, b4, b5, b6, b7, b8⟩ := B1.all))
    | (go_at_call 21; ((with_reducible refine (put_t v1 _ m1.rd).mono ?_); rintro e w2 ⟨v2, rfl, m2, hb2⟩; have B2 := B1.below hb2; obtain ⟨c1, c2, c3, c4, c5, c6, c7, c8⟩ := B2.all))
    | (go_at_call 21; ((with_reducible refine (put_p v2 _ m2.rd).mono ?_); rintro e w3 ⟨v3, rfl, m3, hb3⟩; have B3 := B2.below hb3; obtain ⟨d1, d2, d3, d4, d5, d6, d7, d8⟩ := B3.all))
    | (go_at_call 21; ((with_reducible refine (put_s v3 _ m3.rd).mono ?_); rintro e w4 ⟨v4, rfl, m4, hb4⟩; have B4 := B3.below hb4; obtain ⟨e1, e2, e3, e4, e5, e6, e7, e8⟩ := B4.all))
    | (go_at_call 31; ((with_reducible refine (text_b v4 _ H.out m4.rd).mono ?_); rintro e w5 ⟨v5, rfl, m5, hb5⟩; have B5 := B4.below hb5; obtain ⟨f1, f2, f3, f4, f5, f6, f7, f8⟩ := B5.all))
    | (go_at_call 31; ((with_reducible refine (text_a v5 _ H.out m5.rd).mono ?_); rintro e w6 ⟨v6, rfl, m6, hb6⟩; have B6 := B5.below hb6; obtain ⟨g1, g2, g3, g4, g5, g6, g7, g8⟩ := B6.all))
    | (go_at_call 21; ((with_reducible refine (put_i v6 _ H.out m6.rd).mono ?_); rintro e w7 ⟨v7, rfl, m7, hb7⟩; have B7 := B6.below hb7; obtain ⟨j1, j2, j3, j4, j5, j6, j7, j8⟩ := B7.all))
    | (at_builtin; refine Lib.wpList_append_own_string _ rfl (.tmp 39) (.tmp 41) 25 9 rfl w.heap.size 5 i0 Try.underlying25 Try.underlying9 hi hz0 hz1 hz2 v7 (r.hd6 ++ be 2 r.i.size).length (u8s (r.hd6 ++ be 2 r.i.size)) rfl (m7.more B6.bel.size) r.i rfl hl1.out hl2.out B7.bel.size ?_; intro v8 w8 own8 grow8 at8; have B8 := B7.grown grow8 (fun k hk => Nat.lt_of_lt_of_le B6.lt (m7.low k hk)); have m8 : Mine w8 w.heap.size v8 r.hd8 := mine_str own8; obtain ⟨p1, p2, p3, p4, p5, p6, p7, p8⟩ := B8.all)
    | (go_at_call 21; ((with_reducible refine (put_d v8 _ H.out m8.rd).mono ?_); rintro e w9 ⟨v9, rfl, m9, hb9⟩; have B9 := B8.below hb9; obtain ⟨q1, q2, q3, q4, q5, q6, q7, q8⟩ := B9.all)))
  go_loopw [3, 5, 52] (fun u y i wr => ∃ j : Nat, j ≤ r.ds.length ∧ i = .int .i64 j ∧ Mine wr w.heap.size u (r.hd9 ++ eights (r.ds.take j)) ∧ Bx w wr r A c) (fun _ _ i _ => r.ds.length - (intOf i).toNat)
  case atStart => exact ⟨0, by omega, rfl, by simpa [eights] using m9.more B8.bel.size, B9⟩
  case round =>
    obtain ⟨j, hj, rfl, hm, hB⟩ := hrel
    by_cases hlt : j < r.ds.length
    · obtain ⟨b, o, rfl, hcell⟩ := hB.num j hlt
      have HE := hide (show (r.hd9 ++ eights (r.ds.take j)) ++ be 8 r.ds[j] = r.hd9 ++ eights (r.ds.take (j + 1)) by rw [eights_take _ _ hlt, List.append_assoc])
      have hll := hide (show (r.hd9 ++ eights (r.ds.take j)).length ≤ 1000 by have := H.out.b; have := H.out.a; rw [List.length_append, eights_length, r.hd9_length, List.length_take]; omega)
      have hB0 := hide hB.bel.size
      generalize r.hd9 ++ eights (r.ds.take j) = lj at *
      generalize r.ds[j] = x at *
      clear B0 B1 B2 B3 B4 B5 B6 B7 B8 B9 m1 m2 m3 m4 m5 m6 m7 m8 m9 hb1 hb2 hb3 hb4 hb5 hb6 hb7 hb9 own8 grow8 at8
      go_wp2_with (go_at_call 21; ((with_reducible refine (put_8 _ lj x _ hll.out hm.rd).mono ?_); rintro e wn ⟨vn, rfl, mn, hbn⟩; have Bn := hB.below hbn))
      go_round
      case rel => exact ⟨j + 1, by omega, by go_num, by rw [← HE.out]; exact mn.more hB0.out, Bn⟩
      case measure => simp [intOf]; omega
    · obtain rfl : j = r.ds.length := by omega
      have HS := hide r.said_eq
      rw [List.take_length] at hm
      clear B0 B1 B2 B3 B4 B5 B6 B7 B8 B9 m1 m2 m3 m4 m5 m6 m7 m8 m9 hb1 hb2 hb3 hb4 hb5 hb6 hb7 hb9 own8 grow8 at8
      go_wp2
      go_ret
      exact ⟨_, rfl, by rw [HS.out]; exact hm, hB.bel⟩
/-- What a record's Encode needs: it may be. -/
theorem Rc.said_lt {r : Rc} (h : r.Ok) : r.said.length ≤ 393 := by
  have := h.b; have := h.a; have := h.i; have := h.d
  rw [r.said_length]
  omega
set_option maxHeartbeats 1000000 in
theorem encode_ok (r : Rc) (A : Option Addr) (c : Nat) (w : World) (h : r.Ok) (hv : Rd w (.slice A r.ds.length c) (u64s r.ds)) :
    Calls Try.prog 12 #[.agg #[.int .i64 (r.k : Int), .int .i64 (r.t : Int), .int .i64 (r.p : Int), .int .i64 (r.s : Int), .string r.b, .string r.a, .string r.i, .slice A r.ds.length c]] w fun e w' => ∃ v', e = .returned v' ∧ Mine w' w.heap.size v' r.frame ∧ Below w.heap.size w w' := by
  have B0 := Bx.new_ hv
  obtain ⟨i0, hi, hz0, hz1, hz2⟩ := info_parts info8
  have hR := right_any (r.k : Int) r.t r.p r.s r.b r.a r.i A r.ds.length c (w.alloc (.cells #[.int .i64 (r.k : Int), .int .i64 (r.t : Int), .int .i64 (r.p : Int), .int .i64 (r.s : Int), .string r.b, .string r.a, .string r.i, .slice A r.ds.length c] 28))
  rw [h.rightB] at hR
  have H := hide h
  have hlt := Rc.said_lt h
  have hl1 := hide (show (be 2 r.said.length).length + (u8s r.said).length ≤ maxLen by rw [be_length, u8s_length]; unfold maxLen; omega)
  have hl2 := hide (show ((be 2 r.said.length).length + (u8s r.said).length) * 1 ≤ 140737488355328 by rw [be_length, u8s_length]; omega)
  clear h hv
  go_enter Try.func12, Try.ntmps12
  go_wp2_with (first
    | (go_at_call 14; ((with_reducible refine hR.mono ?_); rintro e w1 ⟨rfl, hb1⟩; have B1 := B0.below hb1; obtain ⟨b1, b2, b3, b4, b5, b6, b7, b8⟩ := B1.all))
    | (go_at_call 20; ((with_reducible refine (said_any r A c _ H.out B1.rd).mono ?_); rintro e w2 ⟨v2, rfl, m2, hb2⟩; have B2 := B1.below hb2; obtain ⟨A2, c2, rfl⟩ := m2.form))
    | (go_at_call 21; ((with_reducible refine (put_n2 r.said.length _).mono ?_); rintro e w3 ⟨v3, rfl, m3, hb3⟩; have B3 := B2.below hb3; have R3 := m2.rd.below hb3))
    | (at_builtin; refine wpList_append_rd rfl (.tmp 12) (.tmp 13) 25 rfl (base := w.heap.size) 5 i0 (.int .u8 0) 1 Try.underlying25 hi hz0 hz1 hz2 rfl v3 (be 2 r.said.length).length (u8s (be 2 r.said.length)) rfl (m3.more B2.bel.size) (.slice A2 r.said.length c2) (u8s r.said) rfl R3 (oneCell_u8s r.said) hl1.out hl2.out B3.bel.size ?_; intro v4 w4 own4 grow4 at4; have B4 := B3.grown grow4 (fun k hk => Nat.lt_of_lt_of_le B2.lt (m3.low k hk))))
  go_ret
  exact ⟨_, rfl, mine_rd own4, B4.bel⟩
theorem encode_no {k t p s : Int} {b a i : ByteArray} {A : Option Addr} {n c : Nat} (w : World) (h : rightB k t p s b a i n = false) :
    Calls Try.prog 12 #[.agg #[.int .i64 k, .int .i64 t, .int .i64 p, .int .i64 s, .string b, .string a, .string i, .slice A n c]] w fun e w' => e = .returned (.slice none 0 0) ∧ Below w.heap.size w w' := by
  have hB := hide ((Below.refl w.heap.size w).alloc (Nat.le_refl _) (.cells #[.int .i64 k, .int .i64 t, .int .i64 p, .int .i64 s, .string b, .string a, .string i, .slice A n c] 28))
  have hR := right_any k t p s b a i A n c (w.alloc (.cells #[.int .i64 k, .int .i64 t, .int .i64 p, .int .i64 s, .string b, .string a, .string i, .slice A n c] 28))
  rw [h] at hR
  clear h
  go_enter Try.func12, Try.ntmps12
  go_wp2_with (go_at_call 14; ((with_reducible refine hR.mono ?_); rintro e w1 ⟨rfl, hb1⟩))
  go_ret
  exact ⟨rfl, hB.out.trans (hb1.mono hB.out.size)⟩
end Go.Proofs.Ytofnldmbokdkbaa
