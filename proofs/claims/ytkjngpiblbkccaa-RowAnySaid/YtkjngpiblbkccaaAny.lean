/-
  The walk of RowAny.
-/
import Derived.Test.YtkjngpiblbkccaaOne
import Derived.Test.YtkjngpiblbkccaaLaw
namespace Go.Proofs.Ytkjngpiblbkccaa
open Go.RowKit

theorem and31 (x : Int) : ∃ m : Nat, m < 32 ∧ bits .and .i64 x 31 = (m : Int) := by
  have h1 : bits .and .i64 x 31 = IntKind.i64.wrap (((BitVec.ofInt 64 x &&& BitVec.ofInt 64 31).toNat : Int)) := rfl
  have h2 : (BitVec.ofInt 64 x &&& BitVec.ofInt 64 31).toNat < 32 := by
    rw [BitVec.toNat_and]
    have : (BitVec.ofInt 64 31).toNat = 31 := by decide
    rw [this]
    exact Nat.lt_of_le_of_lt Nat.and_le_right (by omega)
  refine ⟨(BitVec.ofInt 64 x &&& BitVec.ofInt 64 31).toNat, h2, ?_⟩
  rw [h1, IntKind.wrap_i64]
  omega
theorem and1b (x : Int) : ∃ y : UInt8, bits .and .u8 x 1 = (y.toNat : Int) := by
  have h1 : bits .and .u8 x 1 = IntKind.u8.wrap (((BitVec.ofInt 8 x &&& BitVec.ofInt 8 1).toNat : Int)) := rfl
  have h2 := (BitVec.ofInt 8 x &&& BitVec.ofInt 8 1).isLt
  refine ⟨UInt8.ofNat (BitVec.ofInt 8 x &&& BitVec.ofInt 8 1).toNat, ?_⟩
  rw [h1, UInt8.toNat_ofNat']
  simp only [IntKind.wrap, IntKind.bits, IntKind.signed]
  simp
structure How (w0 w : World) (x1 x2 x3 y1 y2 : Value) : Prop where
  a : Blk w w0.heap.size 23 #[x1, x2, x3]
  b : Blk w (w0.heap.size + 1) 31 #[y1, y2]
  le : Below w0.heap.size w0 w
section
variable {w0 w w' : World} {x1 x2 x3 y1 y2 : Value}
theorem How.of (w : World) (x1 x2 x3 y1 y2 : Value) : How w ((w.alloc (.cells #[x1, x2, x3] 23)).alloc (.cells #[y1, y2] 31)) x1 x2 x3 y1 y2 := ⟨Blk.alloc (heap_new w _) _, heap_at _ _ (by simp), ((Below.refl _ _).alloc (Nat.le_refl _) _).alloc (by simp) _⟩
theorem How.below (h : How w0 w x1 x2 x3 y1 y2) (hb : Below w.heap.size w w') : How w0 w' x1 x2 x3 y1 y2 := ⟨h.a.below hb, h.b.below hb, h.le.trans (hb.mono h.le.size)⟩
theorem How.alloc (h : How w0 w x1 x2 x3 y1 y2) (o : Obj) : How w0 (w.alloc o) x1 x2 x3 y1 y2 := ⟨h.a.alloc o, h.b.alloc o, h.le.alloc h.le.size o⟩
theorem How.set (h : How w0 w x1 x2 x3 y1 y2) {g i : Nat} (hg : w0.heap.size + 1 < g) (u : Value) : How w0 (w.setCell ⟨g, i, none⟩ u) x1 x2 x3 y1 y2 :=
  ⟨h.a.far (p := ⟨g, i, none⟩) (show w0.heap.size ≠ g by omega) u, h.b.far (p := ⟨g, i, none⟩) (show w0.heap.size + 1 ≠ g by omega) u, Below.setCell h.le (p := ⟨g, i, none⟩) (show w0.heap.size ≤ g by omega) u⟩
theorem How.cells (h : How w0 w x1 x2 x3 y1 y2) : w.cell? ⟨w0.heap.size, 0, none⟩ = some x1 ∧ w.cell? ⟨w0.heap.size, 1, none⟩ = some x2 ∧ w.cell? ⟨w0.heap.size, 2, none⟩ = some x3 ∧ w.cell? ⟨w0.heap.size + 1, 0, none⟩ = some y1 ∧ w.cell? ⟨w0.heap.size + 1, 1, none⟩ = some y2 :=
  ⟨h.a.cell 0 _ rfl, h.a.cell 1 _ rfl, h.a.cell 2 _ rfl, h.b.cell 0 _ rfl, h.b.cell 1 _ rfl⟩
end
theorem fit_how (w : World) (x1 x2 x3 y1 y2 : Value) : Calls Try.prog 9 #[] ((w.alloc (.cells #[x1, x2, x3] 23)).alloc (.cells #[y1, y2] 31)) fun e w' => e = .returned (.bool true) ∧ How w w' x1 x2 x3 y1 y2 :=
  (fit_any _).mono fun _ _ ⟨e, hb⟩ => ⟨e, (How.of w x1 x2 x3 y1 y2).below hb⟩
/-- A block whose first bytes are l. -/
def Head (w : World) (g c : Nat) (l : List UInt8) : Prop := ∃ cur : Array Value, Blk w g 5 cur ∧ l.length ≤ c ∧ cur.size = c ∧ cur.toList.take l.length = u8s l
theorem Head.rd {w : World} {g c n : Nat} {l : List UInt8} (h : Head w g c l) (hn : l.length = n) : Rd w (.slice (some ⟨g, 0, none⟩) n c) (u8s l) := by
  subst hn
  obtain ⟨cur, hb, hc, hs, ht⟩ := h
  have := Row.low (Blk.rd hb (n := c) (c := c) hs.symm (Nat.le_refl _)) hc
  rw [ht] at this
  exact this
theorem Head.cell {w : World} {g c : Nat} {l : List UInt8} (h : Head w g c l) (i : Nat) (hi : i < l.length) : (∃ u, w.cell? ⟨g, i, none⟩ = some u) ∧ w.frozen? ⟨g, i, none⟩ = false := by
  obtain ⟨cur, hb, hc, hs, _⟩ := h
  exact ⟨⟨_, hb.cell i _ (Array.getElem?_eq_getElem (by omega))⟩, hb.frozen i⟩
theorem Head.set {w : World} {g c : Nat} {l : List UInt8} (h : Head w g c l) (i : Nat) (x : UInt8) : Head (w.setCell ⟨g, i, none⟩ (.int .u8 (x.toNat : Int))) g c (l.set i x) := by
  obtain ⟨cur, hb, hc, hs, ht⟩ := h
  refine ⟨_, hb.set_ i _, by simpa using hc, by simpa using hs, ?_⟩
  rw [Array.toList_setIfInBounds, List.length_set, List.take_set, ht]
  simp [u8s, List.map_set]
theorem encode_head (t : Int) (k v : ByteArray) (w : World) (h : rightB t k v = true) :
    Calls Try.prog 14 #[.agg #[.int .i64 t, .string k, .string v]] w fun e w' => ∃ g c, e = .returned (.slice (some ⟨g, 0, none⟩) 40 c) ∧ w.heap.size ≤ g ∧ Head w' g c (encB t k v) ∧ Below w.heap.size w w' := by
  obtain ⟨h1, h2, h3, h4⟩ := rightB_iff.1 h
  obtain ⟨n, rfl⟩ : ∃ n : Nat, t = (n : Int) := ⟨t.toNat, by omega⟩
  refine (encode_yes n k v w h).mono ?_
  rintro e w' ⟨u, rfl, hm, hb⟩
  have hl : (encL n k.data.toList v.data.toList).length = 40 := encB_length h
  rcases hm.2 with ⟨rfl, h0⟩ | ⟨g, cap, cur, rfl, hg, hh, hn, _, hs, ht⟩
  · rw [hl] at h0; cases h0
  · have e : encB (n : Int) k v = encL n k.data.toList v.data.toList := by unfold encB; rw [Int.toNat_natCast]
    rw [e]
    exact ⟨g, cap, by rw [hl], hg, ⟨cur, hh, hn, by simpa using hs, by simpa using ht⟩, hb⟩
theorem decode_any (u : Value) (l : List UInt8) (w : World) (hu : Rd w u (u8s l)) (hl : l.length = 40) :
    Calls Try.prog 13 #[u] w fun e w' => ∃ t k v e', e = .returned (.tuple #[.agg #[.int .i64 t, .string k, .string v], .int .i64 e']) ∧ Dec l t k v e' ∧ Below w.heap.size w w' := by
  by_cases hz : l = z40
  · refine (decode_zeros u l w hu hz).mono ?_
    rintro e w' ⟨rfl, hb⟩
    exact ⟨0, ⟨#[]⟩, ⟨#[]⟩, 5, rfl, .inr (.inl ⟨rfl, rfl, rfl, rfl, hz⟩), hb⟩
  · exact decode_row u l w hu hl hz
theorem encode_as (t : Int) (k v : ByteArray) (L : List UInt8) (w : World) (h : rightB t k v = true) (he : encL t.toNat k.data.toList v.data.toList = L) :
    Calls Try.prog 14 #[.agg #[.int .i64 t, .string k, .string v]] w fun e w' => ∃ u, e = .returned u ∧ (Say.rd 40 L).p w' u ∧ Below w.heap.size w w' := by
  subst he
  exact encode_grow t k v w h
theorem exec_make40 {o : Oper} {a : Act} {w : World} (ho : o.op = .makeSlice 26 (.const (.int .i64 40)) (.const (.int .i64 40))) :
    (execOp a.eval o).run Try.prog w = .ok (.value (.slice (some ⟨w.heap.size, 0, none⟩) 40 40)) (w.alloc (.cells (blk8 z40) 5)) := by
  have hr := run_make40 w
  have hc : a.eval (.const (.int .i64 40)) = .int .i64 40 := rfl
  unfold execOp
  simp only [ho, hc, Sem.run_bind, hr, Result.andThen_ok, Sem.run_pure]

set_option maxHeartbeats 1000000 in
theorem any_long (t : Int) (k v : ByteArray) (ma mb : Int) (x : UInt8) (w : World) (hl : lightB k v = false) :
    Calls Try.prog 4 #[.agg #[.int .i64 t, .string k, .string v], .agg #[.int .i64 ma, .int .i64 mb], .int .u8 (x.toNat : Int)] w fun e w' => e = .returned (.bool true) ∧ Below w.heap.size w w' := by
  go_enter Try.func4, Try.ntmps4
  go_wp2_with (first
    | (go_at_call 9; refine (fit_how w _ _ _ _ _).mono ?_; rintro e w1 ⟨rfl, T1⟩; obtain ⟨p11, p12, p13, p14, p15⟩ := T1.cells)
    | (go_at_call 10; (with_reducible refine (light_told false t k v w1 hl).mono ?_); rintro e w2 ⟨rfl, hb2⟩; have T2 := T1.below hb2; obtain ⟨p21, p22, p23, p24, p25⟩ := T2.cells))
  go_ret
  exact ⟨rfl, T2.le⟩
set_option maxHeartbeats 1000000 in
theorem any_wrong (t : Int) (k v : ByteArray) (ma mb : Int) (x : UInt8) (w : World) (hl : lightB k v = true) (hr : rightB t k v = false) :
    Calls Try.prog 4 #[.agg #[.int .i64 t, .string k, .string v], .agg #[.int .i64 ma, .int .i64 mb], .int .u8 (x.toNat : Int)] w fun e w' => e = .returned (.bool true) ∧ Below w.heap.size w w' := by
  go_enter Try.func4, Try.ntmps4
  go_wp2_with (first
    | (go_at_call 9; refine (fit_how w _ _ _ _ _).mono ?_; rintro e w1 ⟨rfl, T1⟩; obtain ⟨p11, p12, p13, p14, p15⟩ := T1.cells)
    | (go_at_call 10; (with_reducible refine (light_told true t k v w1 hl).mono ?_); rintro e w2 ⟨rfl, hb2⟩; have T2 := T1.below hb2; obtain ⟨p21, p22, p23, p24, p25⟩ := T2.cells)
    | (go_at_call 12; (with_reducible refine (lright_told false t k v w2 hr).mono ?_); rintro e w3 ⟨rfl, hb3⟩; have T3 := T2.below hb3; obtain ⟨p31, p32, p33, p34, p35⟩ := T3.cells))
  go_ret
  exact ⟨rfl, T3.le⟩
set_option maxHeartbeats 4000000 in
theorem any_right (t : Int) (k v : ByteArray) (ma mb : Int) (x : UInt8) (w : World) (hl : lightB k v = true) (hr : rightB t k v = true) :
    Calls Try.prog 4 #[.agg #[.int .i64 t, .string k, .string v], .agg #[.int .i64 ma, .int .i64 mb], .int .u8 (x.toNat : Int)] w fun e w' => e = .returned (.bool true) ∧ Below w.heap.size w w' := by
  go_enter Try.func4, Try.ntmps4
  go_wp2_with (first
    | (go_at_call 9; refine (fit_how w _ _ _ _ _).mono ?_; rintro e w1 ⟨rfl, T1⟩; obtain ⟨p11, p12, p13, p14, p15⟩ := T1.cells)
    | (go_at_call 10; (with_reducible refine (light_told true t k v w1 hl).mono ?_); rintro e w2 ⟨rfl, hb2⟩; have T2 := T1.below hb2; obtain ⟨p21, p22, p23, p24, p25⟩ := T2.cells)
    | (go_at_call 12; (with_reducible refine (lright_told true t k v w2 hr).mono ?_); rintro e w3 ⟨rfl, hb3⟩; have T3 := T2.below hb3; obtain ⟨p31, p32, p33, p34, p35⟩ := T3.cells)
    | (go_at_call 14; (with_reducible refine (encode_head t k v w3 hr).mono ?_); rintro e w4 ⟨g, c, rfl, hlo, H4, hb4⟩; have T4 := T3.below hb4; obtain ⟨p41, p42, p43, p44, p45⟩ := T4.cells))
  
  have hlt := hide T4.b.lt
  have hgw := hide (show w.heap.size + 1 < g from Nat.lt_of_lt_of_le T3.b.lt hlo)
  clear hb2 hb3 hb4 T1 T2 T3 p11 p12 p13 p14 p15 p21 p22 p23 p24 p25 p31 p32 p33 p34 p35 hlo
  refine region_grows [Say.is (.pointer (some ⟨w.heap.size + 1, 0, none⟩)), Say.is (.int .i64 ma), Say.is (.pointer (some ⟨w.heap.size + 1, 1, none⟩)), Say.is (.int .i64 mb), Say.is (.int .i64 ma), Say.is (.int .i64 mb)] (by kernel_rfl) (by kernel_rfl) (by kernel_rfl) (by kernel_rfl) ?_ ?_
  · intro i o ho a w2 hb hsz old dep
    match i, ho with
    | 0, ho =>
      obtain rfl := Option.some.inj ho
      have o4 : a.tmps.getD 4 undef = _ := old 4 (by kernel_rfl)
      rw [if_pos (wanted_none rfl)]
      refine grow_same (v := .pointer (some ⟨w.heap.size + 1, 0, none⟩)) ?_ rfl
      clear old dep ho hsz hb
      go_simp
    | 1, ho =>
      obtain rfl := Option.some.inj ho
      have d0 : a.tmps.getD 29 undef = .pointer (some ⟨w.heap.size + 1, 0, none⟩) := dep 0 _ _ (by kernel_rfl) rfl rfl
      have e0 : a.tmps[29]?.getD undef = _ := (Array.getD_eq_getD_getElem? ..).symm.trans d0
      rw [if_pos (wanted_none rfl)]
      have g0 := (hb.cell (p := ⟨w.heap.size + 1, 0, none⟩) hlt.out).trans p44
      refine grow_same (v := .int .i64 ma) ?_ rfl
      clear old dep ho hsz hb
      go_simp
    | 2, ho =>
      obtain rfl := Option.some.inj ho
      have o4 : a.tmps.getD 4 undef = _ := old 4 (by kernel_rfl)
      rw [if_pos (wanted_none rfl)]
      refine grow_same (v := .pointer (some ⟨w.heap.size + 1, 1, none⟩)) ?_ rfl
      clear old dep ho hsz hb
      go_simp
    | 3, ho =>
      obtain rfl := Option.some.inj ho
      have d2 : a.tmps.getD 31 undef = .pointer (some ⟨w.heap.size + 1, 1, none⟩) := dep 2 _ _ (by kernel_rfl) rfl rfl
      have e2 : a.tmps[31]?.getD undef = _ := (Array.getD_eq_getD_getElem? ..).symm.trans d2
      rw [if_pos (wanted_none rfl)]
      have g0 := (hb.cell (p := ⟨w.heap.size + 1, 1, none⟩) hlt.out).trans p45
      refine grow_same (v := .int .i64 mb) ?_ rfl
      clear old dep ho hsz hb
      go_simp
    | 4, ho =>
      obtain rfl := Option.some.inj ho
      have d1 : a.tmps.getD 30 undef = .int .i64 ma := dep 1 _ _ (by kernel_rfl) rfl rfl
      have e1 : a.tmps[30]?.getD undef = _ := (Array.getD_eq_getD_getElem? ..).symm.trans d1
      rw [if_pos (wanted_none rfl)]
      refine grow_same (v := .int .i64 ma) ?_ rfl
      clear old dep ho hsz hb
      go_simp
    | 5, ho =>
      obtain rfl := Option.some.inj ho
      have d3 : a.tmps.getD 32 undef = .int .i64 mb := dep 3 _ _ (by kernel_rfl) rfl rfl
      have e3 : a.tmps[32]?.getD undef = _ := (Array.getD_eq_getD_getElem? ..).symm.trans d3
      rw [if_pos (wanted_none rfl)]
      refine grow_same (v := .int .i64 mb) ?_ rfl
      clear old dep ho hsz hb
      go_simp
    | i + 6, ho => exact absurd ho (by simp)
  · intro a w5 hb hsz hdf fin keep
    obtain ⟨tm, df⟩ := a
    have hx := frame_of [29, 30, 31, 32, 8, 9] (by kernel_rfl) hsz keep
    dsimp only at hdf hx
    simp only [List.foldl_cons, List.foldl_nil] at hx
    subst hdf
    clear hsz keep
    have kn : tm.getD 29 undef = .pointer (some ⟨w.heap.size + 1, 0, none⟩) := fin 0 _ _ rfl rfl
    rw [kn] at hx
    clear kn
    have kn : tm.getD 30 undef = .int .i64 ma := fin 1 _ _ rfl rfl
    rw [kn] at hx
    clear kn
    have kn : tm.getD 31 undef = .pointer (some ⟨w.heap.size + 1, 1, none⟩) := fin 2 _ _ rfl rfl
    rw [kn] at hx
    clear kn
    have kn : tm.getD 32 undef = .int .i64 mb := fin 3 _ _ rfl rfl
    rw [kn] at hx
    clear kn
    have kn : tm.getD 8 undef = .int .i64 ma := fin 4 _ _ rfl rfl
    rw [kn] at hx
    clear kn
    have kn : tm.getD 9 undef = .int .i64 mb := fin 5 _ _ rfl rfl
    rw [kn] at hx
    clear kn
    clear fin
    simp only [List.setIfInBounds_toArray, List.set_cons_succ, List.set_cons_zero] at hx
    subst hx
    have T5 := T4.below hb
    have H5 : Head w5 g c (encB t k v) := by
      obtain ⟨cur, h1, h2⟩ := H4
      exact ⟨cur, h1.below hb, h2⟩
    clear hb hlt T4 H4 p41 p42 p43 p44 p45
    obtain ⟨p, hp, hpb⟩ := and31 ma
    obtain ⟨y, hyb⟩ := and1b (mb % 256)
    obtain ⟨q, hq, hqb⟩ := and31 mb
    have hE := encB_length hr
    obtain ⟨⟨u0, hu0⟩, hf0⟩ := H5.cell p (by omega)
    have H6 := H5.set p x
    obtain ⟨⟨u1, hu1⟩, hf1⟩ := H6.cell 39 (by rw [List.length_set]; omega)
    have H7 := H6.set 39 y
    have T7 := (T5.set (i := p) hgw.out (.int .u8 (x.toNat : Int))).set (i := 39) hgw.out (.int .u8 (y.toNat : Int))
    have HLL := hide (show (((encB t k v).set p x).set 39 y).length = 40 by rw [List.length_set, List.length_set]; exact hE)
    generalize hLe : ((encB t k v).set p x).set 39 y = L at *
    have hc40 := hide (rd_cap (H7.rd HLL.out))
    have R7 := H7.rd HLL.out
    have R7q := Rd.low (k := q) R7 (by omega)
    have HQ := hide (show (L.take q).length ≠ 40 by rw [List.length_take]; omega)
    have hsl := fun W => run_low (P := Try.prog) slice8 size8 (some ⟨g, 0, none⟩) 40 c q (by have := hc40.out; omega) W
    have HR7 := hide R7
    have HR7q := hide R7q
    clear hE H5 H6 hLe R7 R7q
    go_wp2_with (first
      | (go_at_call 13; (with_reducible refine (decode_any _ L _ HR7.out HLL.out).mono ?_); rintro e w8 ⟨t', k', v', e', rfl, hd, hb8⟩; have T8 := (T7.below hb8).alloc (.cells #[.int .i64 t', .string k', .string v'] 23); have HR8 := hide ((HR7.out.below hb8).alloc (.cells #[.int .i64 t', .string k', .string v'] 23)); have HR8q := hide ((HR7q.out.below hb8).alloc (.cells #[.int .i64 t', .string k', .string v'] 23)); have X8 : Blk (w8.alloc (.cells #[.int .i64 t', .string k', .string v'] 23)) w8.heap.size 23 #[.int .i64 t', .string k', .string v'] := heap_new w8 _; have HD := hide hd; clear hd)
      | (go_at_call 13; (with_reducible refine (decode_size _ _ _ HR8q.out HQ.out).mono ?_); rintro e w9 ⟨rfl, hb9⟩; have TA := (T8.below hb9).alloc (.cells #[.int .i64 0, .string ⟨#[]⟩, .string ⟨#[]⟩] 23); have HRA := hide ((HR8.out.below hb9).alloc (.cells #[.int .i64 0, .string ⟨#[]⟩, .string ⟨#[]⟩] 23)); have XA := (X8.below hb9).alloc (.cells #[.int .i64 0, .string ⟨#[]⟩, .string ⟨#[]⟩] 23)))
    obtain ⟨x1, x2, x3⟩ := XA.three
    have hlx := hide XA.lt
    clear HR8 HR8q HR7 HR7q H7 T7 T8 X8 XA hb8 hb9 hu0 hu1 hf0 hf1 hsl
    rcases HD.out with ⟨rfl, rfl, rfl, rfl, _, _⟩ | ⟨rfl, rfl, rfl, rfl, hz⟩ | ⟨rfl, hr', he⟩
    · clear HD
      refine region_grows [Say.is (.int .i64 9), Say.is (.bool true), Say.is (.bool true), Say.is (.int .i64 9), Say.is (.bool true), Say.is (.bool true), Say.is (.agg #[.int .i64 0, .string ⟨#[]⟩, .string ⟨#[]⟩]), Say.is (.agg #[.int .i64 0, .string ⟨#[]⟩, .string ⟨#[]⟩]), Say.is (.bool true), Say.is (.bool true), Say.is (.bool true), Say.is (undef), Say.is (undef), Say.is (undef), Say.is (undef), Say.is (undef), Say.is (undef), Say.is (undef), Say.is (undef), Say.is (undef), Say.is (undef), Say.is (undef), Say.is (undef), Say.is (undef), Say.is (undef), Say.is (.bool true), Say.is (.bool true), Say.is (undef), Say.is (undef), Say.is (undef), Say.is (undef), Say.is (undef), Say.is (undef), Say.is (undef), Say.is (undef), Say.is (undef), Say.is (.bool true), Say.is (.bool true), Say.is (.bool true)] (by kernel_rfl) (by kernel_rfl) (by kernel_rfl) (by kernel_rfl) ?_ ?_
      · intro i o ho a w2 hb hsz old dep
        match i, ho with
        | 0, ho =>
          obtain rfl := Option.some.inj ho
          have o13 : a.tmps.getD 13 undef = _ := old 13 (by kernel_rfl)
          rw [if_pos (wanted_none rfl)]
          refine grow_same (v := .int .i64 9) ?_ rfl
          clear old dep ho hsz hb
          go_simp
        | 1, ho =>
          obtain rfl := Option.some.inj ho
          have d0 : a.tmps.getD 56 undef = .int .i64 9 := dep 0 _ _ (by kernel_rfl) rfl rfl
          have e0 : a.tmps[56]?.getD undef = _ := (Array.getD_eq_getD_getElem? ..).symm.trans d0
          rw [if_pos (wanted_none rfl)]
          refine grow_same (v := .bool true) ?_ rfl
          clear old dep ho hsz hb
          go_simp
        | 2, ho =>
          obtain rfl := Option.some.inj ho
          have d1 : a.tmps.getD 57 undef = .bool true := dep 1 _ _ (by kernel_rfl) rfl rfl
          have e1 : a.tmps[57]?.getD undef = _ := (Array.getD_eq_getD_getElem? ..).symm.trans d1
          rw [if_pos (wanted_none rfl)]
          refine grow_same (v := .bool true) ?_ rfl
          clear old dep ho hsz hb
          go_simp
        | 3, ho =>
          obtain rfl := Option.some.inj ho
          have o11 : a.tmps.getD 11 undef = _ := old 11 (by kernel_rfl)
          have d2 : a.tmps.getD 58 undef = .bool true := dep 2 _ _ (by kernel_rfl) rfl rfl
          have e2 : a.tmps[58]?.getD undef = _ := (Array.getD_eq_getD_getElem? ..).symm.trans d2
          rw [if_pos (wanted_some rfl rfl rfl (by rw [hsz]; exact of_decide_eq_true rfl) d2)]
          refine grow_same (v := .int .i64 9) ?_ rfl
          clear old dep ho hsz hb
          go_simp
        | 4, ho =>
          obtain rfl := Option.some.inj ho
          have d3 : a.tmps.getD 59 undef = .int .i64 9 := dep 3 _ _ (by kernel_rfl) rfl rfl
          have e3 : a.tmps[59]?.getD undef = _ := (Array.getD_eq_getD_getElem? ..).symm.trans d3
          have d2 : a.tmps.getD 58 undef = .bool true := dep 2 _ _ (by kernel_rfl) rfl rfl
          have e2 : a.tmps[58]?.getD undef = _ := (Array.getD_eq_getD_getElem? ..).symm.trans d2
          rw [if_pos (wanted_some rfl rfl rfl (by rw [hsz]; exact of_decide_eq_true rfl) d2)]
          refine grow_same (v := .bool true) ?_ rfl
          clear old dep ho hsz hb
          go_simp
        | 5, ho =>
          obtain rfl := Option.some.inj ho
          have d4 : a.tmps.getD 60 undef = .bool true := dep 4 _ _ (by kernel_rfl) rfl rfl
          have e4 : a.tmps[60]?.getD undef = _ := (Array.getD_eq_getD_getElem? ..).symm.trans d4
          have d2 : a.tmps.getD 58 undef = .bool true := dep 2 _ _ (by kernel_rfl) rfl rfl
          have e2 : a.tmps[58]?.getD undef = _ := (Array.getD_eq_getD_getElem? ..).symm.trans d2
          rw [if_pos (wanted_some rfl rfl rfl (by rw [hsz]; exact of_decide_eq_true rfl) d2)]
          refine grow_same (v := .bool true) ?_ rfl
          clear old dep ho hsz hb
          go_simp
        | 6, ho =>
          obtain rfl := Option.some.inj ho
          have o10 : a.tmps.getD 10 undef = _ := old 10 (by kernel_rfl)
          have d5 : a.tmps.getD 61 undef = .bool true := dep 5 _ _ (by kernel_rfl) rfl rfl
          have e5 : a.tmps[61]?.getD undef = _ := (Array.getD_eq_getD_getElem? ..).symm.trans d5
          rw [if_pos (wanted_some rfl rfl rfl (by rw [hsz]; exact of_decide_eq_true rfl) d5)]
          have g0 := (hb.cell (p := ⟨w8.heap.size, 0, none⟩) hlx.out).trans x1
          have g1 := (hb.cell (p := ⟨w8.heap.size, 1, none⟩) hlx.out).trans x2
          have g2 := (hb.cell (p := ⟨w8.heap.size, 2, none⟩) hlx.out).trans x3
          refine grow_same (v := .agg #[.int .i64 0, .string ⟨#[]⟩, .string ⟨#[]⟩]) ?_ rfl
          clear old dep ho hsz hb
          go_simp
        | 7, ho =>
          obtain rfl := Option.some.inj ho
          have d5 : a.tmps.getD 61 undef = .bool true := dep 5 _ _ (by kernel_rfl) rfl rfl
          have e5 : a.tmps[61]?.getD undef = _ := (Array.getD_eq_getD_getElem? ..).symm.trans d5
          rw [if_pos (wanted_some rfl rfl rfl (by rw [hsz]; exact of_decide_eq_true rfl) d5)]
          refine grow_same (v := .agg #[.int .i64 0, .string ⟨#[]⟩, .string ⟨#[]⟩]) ?_ rfl
          clear old dep ho hsz hb
          go_simp
        | 8, ho =>
          obtain rfl := Option.some.inj ho
          have d6 : a.tmps.getD 62 undef = .agg #[.int .i64 0, .string ⟨#[]⟩, .string ⟨#[]⟩] := dep 6 _ _ (by kernel_rfl) rfl rfl
          have e6 : a.tmps[62]?.getD undef = _ := (Array.getD_eq_getD_getElem? ..).symm.trans d6
          have d7 : a.tmps.getD 63 undef = .agg #[.int .i64 0, .string ⟨#[]⟩, .string ⟨#[]⟩] := dep 7 _ _ (by kernel_rfl) rfl rfl
          have e7 : a.tmps[63]?.getD undef = _ := (Array.getD_eq_getD_getElem? ..).symm.trans d7
          have d5 : a.tmps.getD 61 undef = .bool true := dep 5 _ _ (by kernel_rfl) rfl rfl
          have e5 : a.tmps[61]?.getD undef = _ := (Array.getD_eq_getD_getElem? ..).symm.trans d5
          rw [if_pos (wanted_some rfl rfl rfl (by rw [hsz]; exact of_decide_eq_true rfl) d5)]
          refine grow_same (v := .bool true) ?_ rfl
          clear old dep ho hsz hb
          go_simp
        | 9, ho =>
          obtain rfl := Option.some.inj ho
          have d5 : a.tmps.getD 61 undef = .bool true := dep 5 _ _ (by kernel_rfl) rfl rfl
          have e5 : a.tmps[61]?.getD undef = _ := (Array.getD_eq_getD_getElem? ..).symm.trans d5
          have d8 : a.tmps.getD 64 undef = .bool true := dep 8 _ _ (by kernel_rfl) rfl rfl
          have e8 : a.tmps[64]?.getD undef = _ := (Array.getD_eq_getD_getElem? ..).symm.trans d8
          have d2 : a.tmps.getD 58 undef = .bool true := dep 2 _ _ (by kernel_rfl) rfl rfl
          have e2 : a.tmps[58]?.getD undef = _ := (Array.getD_eq_getD_getElem? ..).symm.trans d2
          rw [if_pos (wanted_some rfl rfl rfl (by rw [hsz]; exact of_decide_eq_true rfl) d2)]
          refine grow_same (v := .bool true) ?_ rfl
          clear old dep ho hsz hb
          go_simp
        | 10, ho =>
          obtain rfl := Option.some.inj ho
          have d9 : a.tmps.getD 65 undef = .bool true := dep 9 _ _ (by kernel_rfl) rfl rfl
          have e9 : a.tmps[65]?.getD undef = _ := (Array.getD_eq_getD_getElem? ..).symm.trans d9
          have d2 : a.tmps.getD 58 undef = .bool true := dep 2 _ _ (by kernel_rfl) rfl rfl
          have e2 : a.tmps[58]?.getD undef = _ := (Array.getD_eq_getD_getElem? ..).symm.trans d2
          rw [if_pos (wanted_some rfl rfl rfl (by rw [hsz]; exact of_decide_eq_true rfl) d2)]
          refine grow_same (v := .bool true) ?_ rfl
          clear old dep ho hsz hb
          go_simp
        | 11, ho =>
          obtain rfl := Option.some.inj ho
          have d10 : a.tmps.getD 66 undef = .bool true := dep 10 _ _ (by kernel_rfl) rfl rfl
          have e10 : a.tmps[66]?.getD undef = _ := (Array.getD_eq_getD_getElem? ..).symm.trans d10
          rw [if_neg (wanted_not rfl rfl rfl (by rw [hsz]; exact of_decide_eq_true rfl) d10 rfl)]
          exact rfl
        | 12, ho =>
          obtain rfl := Option.some.inj ho
          have d10 : a.tmps.getD 66 undef = .bool true := dep 10 _ _ (by kernel_rfl) rfl rfl
          have e10 : a.tmps[66]?.getD undef = _ := (Array.getD_eq_getD_getElem? ..).symm.trans d10
          rw [if_neg (wanted_not rfl rfl rfl (by rw [hsz]; exact of_decide_eq_true rfl) d10 rfl)]
          exact rfl
        | 13, ho =>
          obtain rfl := Option.some.inj ho
          have d10 : a.tmps.getD 66 undef = .bool true := dep 10 _ _ (by kernel_rfl) rfl rfl
          have e10 : a.tmps[66]?.getD undef = _ := (Array.getD_eq_getD_getElem? ..).symm.trans d10
          rw [if_neg (wanted_not rfl rfl rfl (by rw [hsz]; exact of_decide_eq_true rfl) d10 rfl)]
          exact rfl
        | 14, ho =>
          obtain rfl := Option.some.inj ho
          have d13 : a.tmps.getD 69 undef = undef := dep 13 _ _ (by kernel_rfl) rfl rfl
          have e13 : a.tmps[69]?.getD undef = _ := (Array.getD_eq_getD_getElem? ..).symm.trans d13
          rw [if_neg (wanted_undef rfl rfl rfl (by rw [hsz]; exact of_decide_eq_true rfl) d13)]
          exact rfl
        | 15, ho =>
          obtain rfl := Option.some.inj ho
          have d13 : a.tmps.getD 69 undef = undef := dep 13 _ _ (by kernel_rfl) rfl rfl
          have e13 : a.tmps[69]?.getD undef = _ := (Array.getD_eq_getD_getElem? ..).symm.trans d13
          rw [if_neg (wanted_undef rfl rfl rfl (by rw [hsz]; exact of_decide_eq_true rfl) d13)]
          exact rfl
        | 16, ho =>
          obtain rfl := Option.some.inj ho
          have d10 : a.tmps.getD 66 undef = .bool true := dep 10 _ _ (by kernel_rfl) rfl rfl
          have e10 : a.tmps[66]?.getD undef = _ := (Array.getD_eq_getD_getElem? ..).symm.trans d10
          rw [if_neg (wanted_not rfl rfl rfl (by rw [hsz]; exact of_decide_eq_true rfl) d10 rfl)]
          exact rfl
        | 17, ho =>
          obtain rfl := Option.some.inj ho
          have d10 : a.tmps.getD 66 undef = .bool true := dep 10 _ _ (by kernel_rfl) rfl rfl
          have e10 : a.tmps[66]?.getD undef = _ := (Array.getD_eq_getD_getElem? ..).symm.trans d10
          rw [if_neg (wanted_not rfl rfl rfl (by rw [hsz]; exact of_decide_eq_true rfl) d10 rfl)]
          exact rfl
        | 18, ho =>
          obtain rfl := Option.some.inj ho
          have d17 : a.tmps.getD 73 undef = undef := dep 17 _ _ (by kernel_rfl) rfl rfl
          have e17 : a.tmps[73]?.getD undef = _ := (Array.getD_eq_getD_getElem? ..).symm.trans d17
          rw [if_neg (wanted_undef rfl rfl rfl (by rw [hsz]; exact of_decide_eq_true rfl) d17)]
          exact rfl
        | 19, ho =>
          obtain rfl := Option.some.inj ho
          have d17 : a.tmps.getD 73 undef = undef := dep 17 _ _ (by kernel_rfl) rfl rfl
          have e17 : a.tmps[73]?.getD undef = _ := (Array.getD_eq_getD_getElem? ..).symm.trans d17
          rw [if_neg (wanted_undef rfl rfl rfl (by rw [hsz]; exact of_decide_eq_true rfl) d17)]
          exact rfl
        | 20, ho =>
          obtain rfl := Option.some.inj ho
          have d17 : a.tmps.getD 73 undef = undef := dep 17 _ _ (by kernel_rfl) rfl rfl
          have e17 : a.tmps[73]?.getD undef = _ := (Array.getD_eq_getD_getElem? ..).symm.trans d17
          rw [if_neg (wanted_undef rfl rfl rfl (by rw [hsz]; exact of_decide_eq_true rfl) d17)]
          exact rfl
        | 21, ho =>
          obtain rfl := Option.some.inj ho
          have d17 : a.tmps.getD 73 undef = undef := dep 17 _ _ (by kernel_rfl) rfl rfl
          have e17 : a.tmps[73]?.getD undef = _ := (Array.getD_eq_getD_getElem? ..).symm.trans d17
          rw [if_neg (wanted_undef rfl rfl rfl (by rw [hsz]; exact of_decide_eq_true rfl) d17)]
          exact rfl
        | 22, ho =>
          obtain rfl := Option.some.inj ho
          have d17 : a.tmps.getD 73 undef = undef := dep 17 _ _ (by kernel_rfl) rfl rfl
          have e17 : a.tmps[73]?.getD undef = _ := (Array.getD_eq_getD_getElem? ..).symm.trans d17
          rw [if_neg (wanted_undef rfl rfl rfl (by rw [hsz]; exact of_decide_eq_true rfl) d17)]
          exact rfl
        | 23, ho =>
          obtain rfl := Option.some.inj ho
          have d17 : a.tmps.getD 73 undef = undef := dep 17 _ _ (by kernel_rfl) rfl rfl
          have e17 : a.tmps[73]?.getD undef = _ := (Array.getD_eq_getD_getElem? ..).symm.trans d17
          rw [if_neg (wanted_undef rfl rfl rfl (by rw [hsz]; exact of_decide_eq_true rfl) d17)]
          exact rfl
        | 24, ho =>
          obtain rfl := Option.some.inj ho
          have d10 : a.tmps.getD 66 undef = .bool true := dep 10 _ _ (by kernel_rfl) rfl rfl
          have e10 : a.tmps[66]?.getD undef = _ := (Array.getD_eq_getD_getElem? ..).symm.trans d10
          rw [if_neg (wanted_not rfl rfl rfl (by rw [hsz]; exact of_decide_eq_true rfl) d10 rfl)]
          exact rfl
        | 25, ho =>
          obtain rfl := Option.some.inj ho
          have d10 : a.tmps.getD 66 undef = .bool true := dep 10 _ _ (by kernel_rfl) rfl rfl
          have e10 : a.tmps[66]?.getD undef = _ := (Array.getD_eq_getD_getElem? ..).symm.trans d10
          have d24 : a.tmps.getD 80 undef = undef := dep 24 _ _ (by kernel_rfl) rfl rfl
          have e24 : a.tmps[80]?.getD undef = _ := (Array.getD_eq_getD_getElem? ..).symm.trans d24
          have d2 : a.tmps.getD 58 undef = .bool true := dep 2 _ _ (by kernel_rfl) rfl rfl
          have e2 : a.tmps[58]?.getD undef = _ := (Array.getD_eq_getD_getElem? ..).symm.trans d2
          rw [if_pos (wanted_some rfl rfl rfl (by rw [hsz]; exact of_decide_eq_true rfl) d2)]
          refine grow_same (v := .bool true) ?_ rfl
          clear old dep ho hsz hb
          go_simp
        | 26, ho =>
          obtain rfl := Option.some.inj ho
          have d25 : a.tmps.getD 81 undef = .bool true := dep 25 _ _ (by kernel_rfl) rfl rfl
          have e25 : a.tmps[81]?.getD undef = _ := (Array.getD_eq_getD_getElem? ..).symm.trans d25
          have d2 : a.tmps.getD 58 undef = .bool true := dep 2 _ _ (by kernel_rfl) rfl rfl
          have e2 : a.tmps[58]?.getD undef = _ := (Array.getD_eq_getD_getElem? ..).symm.trans d2
          rw [if_pos (wanted_some rfl rfl rfl (by rw [hsz]; exact of_decide_eq_true rfl) d2)]
          refine grow_same (v := .bool true) ?_ rfl
          clear old dep ho hsz hb
          go_simp
        | 27, ho =>
          obtain rfl := Option.some.inj ho
          have d26 : a.tmps.getD 82 undef = .bool true := dep 26 _ _ (by kernel_rfl) rfl rfl
          have e26 : a.tmps[82]?.getD undef = _ := (Array.getD_eq_getD_getElem? ..).symm.trans d26
          rw [if_neg (wanted_not rfl rfl rfl (by rw [hsz]; exact of_decide_eq_true rfl) d26 rfl)]
          exact rfl
        | 28, ho =>
          obtain rfl := Option.some.inj ho
          have d26 : a.tmps.getD 82 undef = .bool true := dep 26 _ _ (by kernel_rfl) rfl rfl
          have e26 : a.tmps[82]?.getD undef = _ := (Array.getD_eq_getD_getElem? ..).symm.trans d26
          rw [if_neg (wanted_not rfl rfl rfl (by rw [hsz]; exact of_decide_eq_true rfl) d26 rfl)]
          exact rfl
        | 29, ho =>
          obtain rfl := Option.some.inj ho
          have d26 : a.tmps.getD 82 undef = .bool true := dep 26 _ _ (by kernel_rfl) rfl rfl
          have e26 : a.tmps[82]?.getD undef = _ := (Array.getD_eq_getD_getElem? ..).symm.trans d26
          rw [if_neg (wanted_not rfl rfl rfl (by rw [hsz]; exact of_decide_eq_true rfl) d26 rfl)]
          exact rfl
        | 30, ho =>
          obtain rfl := Option.some.inj ho
          have d29 : a.tmps.getD 85 undef = undef := dep 29 _ _ (by kernel_rfl) rfl rfl
          have e29 : a.tmps[85]?.getD undef = _ := (Array.getD_eq_getD_getElem? ..).symm.trans d29
          rw [if_neg (wanted_undef rfl rfl rfl (by rw [hsz]; exact of_decide_eq_true rfl) d29)]
          exact rfl
        | 31, ho =>
          obtain rfl := Option.some.inj ho
          have d29 : a.tmps.getD 85 undef = undef := dep 29 _ _ (by kernel_rfl) rfl rfl
          have e29 : a.tmps[85]?.getD undef = _ := (Array.getD_eq_getD_getElem? ..).symm.trans d29
          rw [if_neg (wanted_undef rfl rfl rfl (by rw [hsz]; exact of_decide_eq_true rfl) d29)]
          exact rfl
        | 32, ho =>
          obtain rfl := Option.some.inj ho
          have d29 : a.tmps.getD 85 undef = undef := dep 29 _ _ (by kernel_rfl) rfl rfl
          have e29 : a.tmps[85]?.getD undef = _ := (Array.getD_eq_getD_getElem? ..).symm.trans d29
          rw [if_neg (wanted_undef rfl rfl rfl (by rw [hsz]; exact of_decide_eq_true rfl) d29)]
          exact rfl
        | 33, ho =>
          obtain rfl := Option.some.inj ho
          have d29 : a.tmps.getD 85 undef = undef := dep 29 _ _ (by kernel_rfl) rfl rfl
          have e29 : a.tmps[85]?.getD undef = _ := (Array.getD_eq_getD_getElem? ..).symm.trans d29
          rw [if_neg (wanted_undef rfl rfl rfl (by rw [hsz]; exact of_decide_eq_true rfl) d29)]
          exact rfl
        | 34, ho =>
          obtain rfl := Option.some.inj ho
          have d29 : a.tmps.getD 85 undef = undef := dep 29 _ _ (by kernel_rfl) rfl rfl
          have e29 : a.tmps[85]?.getD undef = _ := (Array.getD_eq_getD_getElem? ..).symm.trans d29
          rw [if_neg (wanted_undef rfl rfl rfl (by rw [hsz]; exact of_decide_eq_true rfl) d29)]
          exact rfl
        | 35, ho =>
          obtain rfl := Option.some.inj ho
          have d26 : a.tmps.getD 82 undef = .bool true := dep 26 _ _ (by kernel_rfl) rfl rfl
          have e26 : a.tmps[82]?.getD undef = _ := (Array.getD_eq_getD_getElem? ..).symm.trans d26
          rw [if_neg (wanted_not rfl rfl rfl (by rw [hsz]; exact of_decide_eq_true rfl) d26 rfl)]
          exact rfl
        | 36, ho =>
          obtain rfl := Option.some.inj ho
          have d26 : a.tmps.getD 82 undef = .bool true := dep 26 _ _ (by kernel_rfl) rfl rfl
          have e26 : a.tmps[82]?.getD undef = _ := (Array.getD_eq_getD_getElem? ..).symm.trans d26
          have d35 : a.tmps.getD 91 undef = undef := dep 35 _ _ (by kernel_rfl) rfl rfl
          have e35 : a.tmps[91]?.getD undef = _ := (Array.getD_eq_getD_getElem? ..).symm.trans d35
          have d2 : a.tmps.getD 58 undef = .bool true := dep 2 _ _ (by kernel_rfl) rfl rfl
          have e2 : a.tmps[58]?.getD undef = _ := (Array.getD_eq_getD_getElem? ..).symm.trans d2
          rw [if_pos (wanted_some rfl rfl rfl (by rw [hsz]; exact of_decide_eq_true rfl) d2)]
          refine grow_same (v := .bool true) ?_ rfl
          clear old dep ho hsz hb
          go_simp
        | 37, ho =>
          obtain rfl := Option.some.inj ho
          have d2 : a.tmps.getD 58 undef = .bool true := dep 2 _ _ (by kernel_rfl) rfl rfl
          have e2 : a.tmps[58]?.getD undef = _ := (Array.getD_eq_getD_getElem? ..).symm.trans d2
          have d36 : a.tmps.getD 92 undef = .bool true := dep 36 _ _ (by kernel_rfl) rfl rfl
          have e36 : a.tmps[92]?.getD undef = _ := (Array.getD_eq_getD_getElem? ..).symm.trans d36
          rw [if_pos (wanted_none rfl)]
          refine grow_same (v := .bool true) ?_ rfl
          clear old dep ho hsz hb
          go_simp
        | 38, ho =>
          obtain rfl := Option.some.inj ho
          have d37 : a.tmps.getD 93 undef = .bool true := dep 37 _ _ (by kernel_rfl) rfl rfl
          have e37 : a.tmps[93]?.getD undef = _ := (Array.getD_eq_getD_getElem? ..).symm.trans d37
          rw [if_pos (wanted_none rfl)]
          refine grow_same (v := .bool true) ?_ rfl
          clear old dep ho hsz hb
          go_simp
        | i + 39, ho => exact absurd ho (by simp)
      · intro a wZ hb hsz hdf fin keep
        obtain ⟨tm, df⟩ := a
        have hx := frame_of [56, 57, 58, 59, 60, 61, 62, 63, 64, 65, 66, 67, 68, 69, 70, 71, 72, 73, 74, 75, 76, 77, 78, 79, 80, 81, 82, 83, 84, 85, 86, 87, 88, 89, 90, 91, 92, 93, 6] (by kernel_rfl) hsz keep
        dsimp only at hdf hx
        simp only [List.foldl_cons, List.foldl_nil] at hx
        subst hdf
        clear hsz keep
        have kn : tm.getD 56 undef = .int .i64 9 := fin 0 _ _ rfl rfl
        rw [kn] at hx
        clear kn
        have kn : tm.getD 57 undef = .bool true := fin 1 _ _ rfl rfl
        rw [kn] at hx
        clear kn
        have kn : tm.getD 58 undef = .bool true := fin 2 _ _ rfl rfl
        rw [kn] at hx
        clear kn
        have kn : tm.getD 59 undef = .int .i64 9 := fin 3 _ _ rfl rfl
        rw [kn] at hx
        clear kn
        have kn : tm.getD 60 undef = .bool true := fin 4 _ _ rfl rfl
        rw [kn] at hx
        clear kn
        have kn : tm.getD 61 undef = .bool true := fin 5 _ _ rfl rfl
        rw [kn] at hx
        clear kn
        have kn : tm.getD 62 undef = .agg #[.int .i64 0, .string ⟨#[]⟩, .string ⟨#[]⟩] := fin 6 _ _ rfl rfl
        rw [kn] at hx
        clear kn
        have kn : tm.getD 63 undef = .agg #[.int .i64 0, .string ⟨#[]⟩, .string ⟨#[]⟩] := fin 7 _ _ rfl rfl
        rw [kn] at hx
        clear kn
        have kn : tm.getD 64 undef = .bool true := fin 8 _ _ rfl rfl
        rw [kn] at hx
        clear kn
        have kn : tm.getD 65 undef = .bool true := fin 9 _ _ rfl rfl
        rw [kn] at hx
        clear kn
        have kn : tm.getD 66 undef = .bool true := fin 10 _ _ rfl rfl
        rw [kn] at hx
        clear kn
        have kn : tm.getD 67 undef = undef := fin 11 _ _ rfl rfl
        rw [kn] at hx
        clear kn
        have kn : tm.getD 68 undef = undef := fin 12 _ _ rfl rfl
        rw [kn] at hx
        clear kn
        have kn : tm.getD 69 undef = undef := fin 13 _ _ rfl rfl
        rw [kn] at hx
        clear kn
        have kn : tm.getD 70 undef = undef := fin 14 _ _ rfl rfl
        rw [kn] at hx
        clear kn
        have kn : tm.getD 71 undef = undef := fin 15 _ _ rfl rfl
        rw [kn] at hx
        clear kn
        have kn : tm.getD 72 undef = undef := fin 16 _ _ rfl rfl
        rw [kn] at hx
        clear kn
        have kn : tm.getD 73 undef = undef := fin 17 _ _ rfl rfl
        rw [kn] at hx
        clear kn
        have kn : tm.getD 74 undef = undef := fin 18 _ _ rfl rfl
        rw [kn] at hx
        clear kn
        have kn : tm.getD 75 undef = undef := fin 19 _ _ rfl rfl
        rw [kn] at hx
        clear kn
        have kn : tm.getD 76 undef = undef := fin 20 _ _ rfl rfl
        rw [kn] at hx
        clear kn
        have kn : tm.getD 77 undef = undef := fin 21 _ _ rfl rfl
        rw [kn] at hx
        clear kn
        have kn : tm.getD 78 undef = undef := fin 22 _ _ rfl rfl
        rw [kn] at hx
        clear kn
        have kn : tm.getD 79 undef = undef := fin 23 _ _ rfl rfl
        rw [kn] at hx
        clear kn
        have kn : tm.getD 80 undef = undef := fin 24 _ _ rfl rfl
        rw [kn] at hx
        clear kn
        have kn : tm.getD 81 undef = .bool true := fin 25 _ _ rfl rfl
        rw [kn] at hx
        clear kn
        have kn : tm.getD 82 undef = .bool true := fin 26 _ _ rfl rfl
        rw [kn] at hx
        clear kn
        have kn : tm.getD 83 undef = undef := fin 27 _ _ rfl rfl
        rw [kn] at hx
        clear kn
        have kn : tm.getD 84 undef = undef := fin 28 _ _ rfl rfl
        rw [kn] at hx
        clear kn
        have kn : tm.getD 85 undef = undef := fin 29 _ _ rfl rfl
        rw [kn] at hx
        clear kn
        have kn : tm.getD 86 undef = undef := fin 30 _ _ rfl rfl
        rw [kn] at hx
        clear kn
        have kn : tm.getD 87 undef = undef := fin 31 _ _ rfl rfl
        rw [kn] at hx
        clear kn
        have kn : tm.getD 88 undef = undef := fin 32 _ _ rfl rfl
        rw [kn] at hx
        clear kn
        have kn : tm.getD 89 undef = undef := fin 33 _ _ rfl rfl
        rw [kn] at hx
        clear kn
        have kn : tm.getD 90 undef = undef := fin 34 _ _ rfl rfl
        rw [kn] at hx
        clear kn
        have kn : tm.getD 91 undef = undef := fin 35 _ _ rfl rfl
        rw [kn] at hx
        clear kn
        have kn : tm.getD 92 undef = .bool true := fin 36 _ _ rfl rfl
        rw [kn] at hx
        clear kn
        have kn : tm.getD 93 undef = .bool true := fin 37 _ _ rfl rfl
        rw [kn] at hx
        clear kn
        have kn : tm.getD 6 undef = .bool true := fin 38 _ _ rfl rfl
        rw [kn] at hx
        clear kn
        clear fin
        simp only [List.setIfInBounds_toArray, List.set_cons_succ, List.set_cons_zero] at hx
        subst hx
        have TZ := TA.below hb
        go_wp2
        go_ret
        exact ⟨rfl, TZ.le⟩
    · have hz' : L = z40 := hz
      clear HD hz
      subst hz'
      refine region_grows [Say.is (.int .i64 9), Say.is (.bool true), Say.is (.bool true), Say.is (.int .i64 5), Say.is (.bool false), Say.is (.bool false), Say.is (undef), Say.is (undef), Say.is (undef), Say.is (.bool false), Say.is (.bool false), Say.is (.int .i64 5), Say.is (.bool false), Say.is (.bool false), Say.is (undef), Say.is (undef), Say.is (.bool false), Say.is (.bool false), Say.is (undef), Say.is (undef), Say.is (undef), Say.is (undef), Say.is (undef), Say.is (undef), Say.is (.bool false), Say.is (.bool false), Say.is (.bool false), Say.is (.int .i64 5), Say.is (.bool true), Say.is (.bool true), Say.is (.slice (some ⟨g, 0, none⟩) 40 c), Say.is (.string ⟨(z40).toArray⟩), Say.rd 40 (z40), Say.is (.string ⟨(z40).toArray⟩), Say.is (.bool true), Say.is (.bool true), Say.is (.bool true), Say.is (.bool true), Say.is (.bool true)] (by kernel_rfl) (by kernel_rfl) (by kernel_rfl) (by kernel_rfl) ?_ ?_
      · intro i o ho a w2 hb hsz old dep
        match i, ho with
        | 0, ho =>
          obtain rfl := Option.some.inj ho
          have o13 : a.tmps.getD 13 undef = _ := old 13 (by kernel_rfl)
          rw [if_pos (wanted_none rfl)]
          refine grow_same (v := .int .i64 9) ?_ rfl
          clear old dep ho hsz hb
          go_simp
        | 1, ho =>
          obtain rfl := Option.some.inj ho
          have d0 : a.tmps.getD 56 undef = .int .i64 9 := dep 0 _ _ (by kernel_rfl) rfl rfl
          have e0 : a.tmps[56]?.getD undef = _ := (Array.getD_eq_getD_getElem? ..).symm.trans d0
          rw [if_pos (wanted_none rfl)]
          refine grow_same (v := .bool true) ?_ rfl
          clear old dep ho hsz hb
          go_simp
        | 2, ho =>
          obtain rfl := Option.some.inj ho
          have d1 : a.tmps.getD 57 undef = .bool true := dep 1 _ _ (by kernel_rfl) rfl rfl
          have e1 : a.tmps[57]?.getD undef = _ := (Array.getD_eq_getD_getElem? ..).symm.trans d1
          rw [if_pos (wanted_none rfl)]
          refine grow_same (v := .bool true) ?_ rfl
          clear old dep ho hsz hb
          go_simp
        | 3, ho =>
          obtain rfl := Option.some.inj ho
          have o11 : a.tmps.getD 11 undef = _ := old 11 (by kernel_rfl)
          have d2 : a.tmps.getD 58 undef = .bool true := dep 2 _ _ (by kernel_rfl) rfl rfl
          have e2 : a.tmps[58]?.getD undef = _ := (Array.getD_eq_getD_getElem? ..).symm.trans d2
          rw [if_pos (wanted_some rfl rfl rfl (by rw [hsz]; exact of_decide_eq_true rfl) d2)]
          refine grow_same (v := .int .i64 5) ?_ rfl
          clear old dep ho hsz hb
          go_simp
        | 4, ho =>
          obtain rfl := Option.some.inj ho
          have d3 : a.tmps.getD 59 undef = .int .i64 5 := dep 3 _ _ (by kernel_rfl) rfl rfl
          have e3 : a.tmps[59]?.getD undef = _ := (Array.getD_eq_getD_getElem? ..).symm.trans d3
          have d2 : a.tmps.getD 58 undef = .bool true := dep 2 _ _ (by kernel_rfl) rfl rfl
          have e2 : a.tmps[58]?.getD undef = _ := (Array.getD_eq_getD_getElem? ..).symm.trans d2
          rw [if_pos (wanted_some rfl rfl rfl (by rw [hsz]; exact of_decide_eq_true rfl) d2)]
          refine grow_same (v := .bool false) ?_ rfl
          clear old dep ho hsz hb
          go_simp
        | 5, ho =>
          obtain rfl := Option.some.inj ho
          have d4 : a.tmps.getD 60 undef = .bool false := dep 4 _ _ (by kernel_rfl) rfl rfl
          have e4 : a.tmps[60]?.getD undef = _ := (Array.getD_eq_getD_getElem? ..).symm.trans d4
          have d2 : a.tmps.getD 58 undef = .bool true := dep 2 _ _ (by kernel_rfl) rfl rfl
          have e2 : a.tmps[58]?.getD undef = _ := (Array.getD_eq_getD_getElem? ..).symm.trans d2
          rw [if_pos (wanted_some rfl rfl rfl (by rw [hsz]; exact of_decide_eq_true rfl) d2)]
          refine grow_same (v := .bool false) ?_ rfl
          clear old dep ho hsz hb
          go_simp
        | 6, ho =>
          obtain rfl := Option.some.inj ho
          have d5 : a.tmps.getD 61 undef = .bool false := dep 5 _ _ (by kernel_rfl) rfl rfl
          have e5 : a.tmps[61]?.getD undef = _ := (Array.getD_eq_getD_getElem? ..).symm.trans d5
          rw [if_neg (wanted_not rfl rfl rfl (by rw [hsz]; exact of_decide_eq_true rfl) d5 rfl)]
          exact rfl
        | 7, ho =>
          obtain rfl := Option.some.inj ho
          have d5 : a.tmps.getD 61 undef = .bool false := dep 5 _ _ (by kernel_rfl) rfl rfl
          have e5 : a.tmps[61]?.getD undef = _ := (Array.getD_eq_getD_getElem? ..).symm.trans d5
          rw [if_neg (wanted_not rfl rfl rfl (by rw [hsz]; exact of_decide_eq_true rfl) d5 rfl)]
          exact rfl
        | 8, ho =>
          obtain rfl := Option.some.inj ho
          have d5 : a.tmps.getD 61 undef = .bool false := dep 5 _ _ (by kernel_rfl) rfl rfl
          have e5 : a.tmps[61]?.getD undef = _ := (Array.getD_eq_getD_getElem? ..).symm.trans d5
          rw [if_neg (wanted_not rfl rfl rfl (by rw [hsz]; exact of_decide_eq_true rfl) d5 rfl)]
          exact rfl
        | 9, ho =>
          obtain rfl := Option.some.inj ho
          have d5 : a.tmps.getD 61 undef = .bool false := dep 5 _ _ (by kernel_rfl) rfl rfl
          have e5 : a.tmps[61]?.getD undef = _ := (Array.getD_eq_getD_getElem? ..).symm.trans d5
          have d8 : a.tmps.getD 64 undef = undef := dep 8 _ _ (by kernel_rfl) rfl rfl
          have e8 : a.tmps[64]?.getD undef = _ := (Array.getD_eq_getD_getElem? ..).symm.trans d8
          have d2 : a.tmps.getD 58 undef = .bool true := dep 2 _ _ (by kernel_rfl) rfl rfl
          have e2 : a.tmps[58]?.getD undef = _ := (Array.getD_eq_getD_getElem? ..).symm.trans d2
          rw [if_pos (wanted_some rfl rfl rfl (by rw [hsz]; exact of_decide_eq_true rfl) d2)]
          refine grow_same (v := .bool false) ?_ rfl
          clear old dep ho hsz hb
          go_simp
        | 10, ho =>
          obtain rfl := Option.some.inj ho
          have d9 : a.tmps.getD 65 undef = .bool false := dep 9 _ _ (by kernel_rfl) rfl rfl
          have e9 : a.tmps[65]?.getD undef = _ := (Array.getD_eq_getD_getElem? ..).symm.trans d9
          have d2 : a.tmps.getD 58 undef = .bool true := dep 2 _ _ (by kernel_rfl) rfl rfl
          have e2 : a.tmps[58]?.getD undef = _ := (Array.getD_eq_getD_getElem? ..).symm.trans d2
          rw [if_pos (wanted_some rfl rfl rfl (by rw [hsz]; exact of_decide_eq_true rfl) d2)]
          refine grow_same (v := .bool false) ?_ rfl
          clear old dep ho hsz hb
          go_simp
        | 11, ho =>
          obtain rfl := Option.some.inj ho
          have o11 : a.tmps.getD 11 undef = _ := old 11 (by kernel_rfl)
          have d10 : a.tmps.getD 66 undef = .bool false := dep 10 _ _ (by kernel_rfl) rfl rfl
          have e10 : a.tmps[66]?.getD undef = _ := (Array.getD_eq_getD_getElem? ..).symm.trans d10
          rw [if_pos (wanted_some rfl rfl rfl (by rw [hsz]; exact of_decide_eq_true rfl) d10)]
          refine grow_same (v := .int .i64 5) ?_ rfl
          clear old dep ho hsz hb
          go_simp
        | 12, ho =>
          obtain rfl := Option.some.inj ho
          have d11 : a.tmps.getD 67 undef = .int .i64 5 := dep 11 _ _ (by kernel_rfl) rfl rfl
          have e11 : a.tmps[67]?.getD undef = _ := (Array.getD_eq_getD_getElem? ..).symm.trans d11
          have d10 : a.tmps.getD 66 undef = .bool false := dep 10 _ _ (by kernel_rfl) rfl rfl
          have e10 : a.tmps[66]?.getD undef = _ := (Array.getD_eq_getD_getElem? ..).symm.trans d10
          rw [if_pos (wanted_some rfl rfl rfl (by rw [hsz]; exact of_decide_eq_true rfl) d10)]
          refine grow_same (v := .bool false) ?_ rfl
          clear old dep ho hsz hb
          go_simp
        | 13, ho =>
          obtain rfl := Option.some.inj ho
          have d12 : a.tmps.getD 68 undef = .bool false := dep 12 _ _ (by kernel_rfl) rfl rfl
          have e12 : a.tmps[68]?.getD undef = _ := (Array.getD_eq_getD_getElem? ..).symm.trans d12
          have d10 : a.tmps.getD 66 undef = .bool false := dep 10 _ _ (by kernel_rfl) rfl rfl
          have e10 : a.tmps[66]?.getD undef = _ := (Array.getD_eq_getD_getElem? ..).symm.trans d10
          rw [if_pos (wanted_some rfl rfl rfl (by rw [hsz]; exact of_decide_eq_true rfl) d10)]
          refine grow_same (v := .bool false) ?_ rfl
          clear old dep ho hsz hb
          go_simp
        | 14, ho =>
          obtain rfl := Option.some.inj ho
          have d13 : a.tmps.getD 69 undef = .bool false := dep 13 _ _ (by kernel_rfl) rfl rfl
          have e13 : a.tmps[69]?.getD undef = _ := (Array.getD_eq_getD_getElem? ..).symm.trans d13
          rw [if_neg (wanted_not rfl rfl rfl (by rw [hsz]; exact of_decide_eq_true rfl) d13 rfl)]
          exact rfl
        | 15, ho =>
          obtain rfl := Option.some.inj ho
          have d13 : a.tmps.getD 69 undef = .bool false := dep 13 _ _ (by kernel_rfl) rfl rfl
          have e13 : a.tmps[69]?.getD undef = _ := (Array.getD_eq_getD_getElem? ..).symm.trans d13
          rw [if_neg (wanted_not rfl rfl rfl (by rw [hsz]; exact of_decide_eq_true rfl) d13 rfl)]
          exact rfl
        | 16, ho =>
          obtain rfl := Option.some.inj ho
          have d13 : a.tmps.getD 69 undef = .bool false := dep 13 _ _ (by kernel_rfl) rfl rfl
          have e13 : a.tmps[69]?.getD undef = _ := (Array.getD_eq_getD_getElem? ..).symm.trans d13
          have d15 : a.tmps.getD 71 undef = undef := dep 15 _ _ (by kernel_rfl) rfl rfl
          have e15 : a.tmps[71]?.getD undef = _ := (Array.getD_eq_getD_getElem? ..).symm.trans d15
          have d10 : a.tmps.getD 66 undef = .bool false := dep 10 _ _ (by kernel_rfl) rfl rfl
          have e10 : a.tmps[66]?.getD undef = _ := (Array.getD_eq_getD_getElem? ..).symm.trans d10
          rw [if_pos (wanted_some rfl rfl rfl (by rw [hsz]; exact of_decide_eq_true rfl) d10)]
          refine grow_same (v := .bool false) ?_ rfl
          clear old dep ho hsz hb
          go_simp
        | 17, ho =>
          obtain rfl := Option.some.inj ho
          have d16 : a.tmps.getD 72 undef = .bool false := dep 16 _ _ (by kernel_rfl) rfl rfl
          have e16 : a.tmps[72]?.getD undef = _ := (Array.getD_eq_getD_getElem? ..).symm.trans d16
          have d10 : a.tmps.getD 66 undef = .bool false := dep 10 _ _ (by kernel_rfl) rfl rfl
          have e10 : a.tmps[66]?.getD undef = _ := (Array.getD_eq_getD_getElem? ..).symm.trans d10
          rw [if_pos (wanted_some rfl rfl rfl (by rw [hsz]; exact of_decide_eq_true rfl) d10)]
          refine grow_same (v := .bool false) ?_ rfl
          clear old dep ho hsz hb
          go_simp
        | 18, ho =>
          obtain rfl := Option.some.inj ho
          have d17 : a.tmps.getD 73 undef = .bool false := dep 17 _ _ (by kernel_rfl) rfl rfl
          have e17 : a.tmps[73]?.getD undef = _ := (Array.getD_eq_getD_getElem? ..).symm.trans d17
          rw [if_neg (wanted_not rfl rfl rfl (by rw [hsz]; exact of_decide_eq_true rfl) d17 rfl)]
          exact rfl
        | 19, ho =>
          obtain rfl := Option.some.inj ho
          have d17 : a.tmps.getD 73 undef = .bool false := dep 17 _ _ (by kernel_rfl) rfl rfl
          have e17 : a.tmps[73]?.getD undef = _ := (Array.getD_eq_getD_getElem? ..).symm.trans d17
          rw [if_neg (wanted_not rfl rfl rfl (by rw [hsz]; exact of_decide_eq_true rfl) d17 rfl)]
          exact rfl
        | 20, ho =>
          obtain rfl := Option.some.inj ho
          have d17 : a.tmps.getD 73 undef = .bool false := dep 17 _ _ (by kernel_rfl) rfl rfl
          have e17 : a.tmps[73]?.getD undef = _ := (Array.getD_eq_getD_getElem? ..).symm.trans d17
          rw [if_neg (wanted_not rfl rfl rfl (by rw [hsz]; exact of_decide_eq_true rfl) d17 rfl)]
          exact rfl
        | 21, ho =>
          obtain rfl := Option.some.inj ho
          have d17 : a.tmps.getD 73 undef = .bool false := dep 17 _ _ (by kernel_rfl) rfl rfl
          have e17 : a.tmps[73]?.getD undef = _ := (Array.getD_eq_getD_getElem? ..).symm.trans d17
          rw [if_neg (wanted_not rfl rfl rfl (by rw [hsz]; exact of_decide_eq_true rfl) d17 rfl)]
          exact rfl
        | 22, ho =>
          obtain rfl := Option.some.inj ho
          have d17 : a.tmps.getD 73 undef = .bool false := dep 17 _ _ (by kernel_rfl) rfl rfl
          have e17 : a.tmps[73]?.getD undef = _ := (Array.getD_eq_getD_getElem? ..).symm.trans d17
          rw [if_neg (wanted_not rfl rfl rfl (by rw [hsz]; exact of_decide_eq_true rfl) d17 rfl)]
          exact rfl
        | 23, ho =>
          obtain rfl := Option.some.inj ho
          have d17 : a.tmps.getD 73 undef = .bool false := dep 17 _ _ (by kernel_rfl) rfl rfl
          have e17 : a.tmps[73]?.getD undef = _ := (Array.getD_eq_getD_getElem? ..).symm.trans d17
          rw [if_neg (wanted_not rfl rfl rfl (by rw [hsz]; exact of_decide_eq_true rfl) d17 rfl)]
          exact rfl
        | 24, ho =>
          obtain rfl := Option.some.inj ho
          have d17 : a.tmps.getD 73 undef = .bool false := dep 17 _ _ (by kernel_rfl) rfl rfl
          have e17 : a.tmps[73]?.getD undef = _ := (Array.getD_eq_getD_getElem? ..).symm.trans d17
          have d23 : a.tmps.getD 79 undef = undef := dep 23 _ _ (by kernel_rfl) rfl rfl
          have e23 : a.tmps[79]?.getD undef = _ := (Array.getD_eq_getD_getElem? ..).symm.trans d23
          have d10 : a.tmps.getD 66 undef = .bool false := dep 10 _ _ (by kernel_rfl) rfl rfl
          have e10 : a.tmps[66]?.getD undef = _ := (Array.getD_eq_getD_getElem? ..).symm.trans d10
          rw [if_pos (wanted_some rfl rfl rfl (by rw [hsz]; exact of_decide_eq_true rfl) d10)]
          refine grow_same (v := .bool false) ?_ rfl
          clear old dep ho hsz hb
          go_simp
        | 25, ho =>
          obtain rfl := Option.some.inj ho
          have d10 : a.tmps.getD 66 undef = .bool false := dep 10 _ _ (by kernel_rfl) rfl rfl
          have e10 : a.tmps[66]?.getD undef = _ := (Array.getD_eq_getD_getElem? ..).symm.trans d10
          have d24 : a.tmps.getD 80 undef = .bool false := dep 24 _ _ (by kernel_rfl) rfl rfl
          have e24 : a.tmps[80]?.getD undef = _ := (Array.getD_eq_getD_getElem? ..).symm.trans d24
          have d2 : a.tmps.getD 58 undef = .bool true := dep 2 _ _ (by kernel_rfl) rfl rfl
          have e2 : a.tmps[58]?.getD undef = _ := (Array.getD_eq_getD_getElem? ..).symm.trans d2
          rw [if_pos (wanted_some rfl rfl rfl (by rw [hsz]; exact of_decide_eq_true rfl) d2)]
          refine grow_same (v := .bool false) ?_ rfl
          clear old dep ho hsz hb
          go_simp
        | 26, ho =>
          obtain rfl := Option.some.inj ho
          have d25 : a.tmps.getD 81 undef = .bool false := dep 25 _ _ (by kernel_rfl) rfl rfl
          have e25 : a.tmps[81]?.getD undef = _ := (Array.getD_eq_getD_getElem? ..).symm.trans d25
          have d2 : a.tmps.getD 58 undef = .bool true := dep 2 _ _ (by kernel_rfl) rfl rfl
          have e2 : a.tmps[58]?.getD undef = _ := (Array.getD_eq_getD_getElem? ..).symm.trans d2
          rw [if_pos (wanted_some rfl rfl rfl (by rw [hsz]; exact of_decide_eq_true rfl) d2)]
          refine grow_same (v := .bool false) ?_ rfl
          clear old dep ho hsz hb
          go_simp
        | 27, ho =>
          obtain rfl := Option.some.inj ho
          have o11 : a.tmps.getD 11 undef = _ := old 11 (by kernel_rfl)
          have d26 : a.tmps.getD 82 undef = .bool false := dep 26 _ _ (by kernel_rfl) rfl rfl
          have e26 : a.tmps[82]?.getD undef = _ := (Array.getD_eq_getD_getElem? ..).symm.trans d26
          rw [if_pos (wanted_some rfl rfl rfl (by rw [hsz]; exact of_decide_eq_true rfl) d26)]
          refine grow_same (v := .int .i64 5) ?_ rfl
          clear old dep ho hsz hb
          go_simp
        | 28, ho =>
          obtain rfl := Option.some.inj ho
          have d27 : a.tmps.getD 83 undef = .int .i64 5 := dep 27 _ _ (by kernel_rfl) rfl rfl
          have e27 : a.tmps[83]?.getD undef = _ := (Array.getD_eq_getD_getElem? ..).symm.trans d27
          have d26 : a.tmps.getD 82 undef = .bool false := dep 26 _ _ (by kernel_rfl) rfl rfl
          have e26 : a.tmps[82]?.getD undef = _ := (Array.getD_eq_getD_getElem? ..).symm.trans d26
          rw [if_pos (wanted_some rfl rfl rfl (by rw [hsz]; exact of_decide_eq_true rfl) d26)]
          refine grow_same (v := .bool true) ?_ rfl
          clear old dep ho hsz hb
          go_simp
        | 29, ho =>
          obtain rfl := Option.some.inj ho
          have d28 : a.tmps.getD 84 undef = .bool true := dep 28 _ _ (by kernel_rfl) rfl rfl
          have e28 : a.tmps[84]?.getD undef = _ := (Array.getD_eq_getD_getElem? ..).symm.trans d28
          have d26 : a.tmps.getD 82 undef = .bool false := dep 26 _ _ (by kernel_rfl) rfl rfl
          have e26 : a.tmps[82]?.getD undef = _ := (Array.getD_eq_getD_getElem? ..).symm.trans d26
          rw [if_pos (wanted_some rfl rfl rfl (by rw [hsz]; exact of_decide_eq_true rfl) d26)]
          refine grow_same (v := .bool true) ?_ rfl
          clear old dep ho hsz hb
          go_simp
        | 30, ho =>
          obtain rfl := Option.some.inj ho
          have o7 : a.tmps.getD 7 undef = _ := old 7 (by kernel_rfl)
          have d29 : a.tmps.getD 85 undef = .bool true := dep 29 _ _ (by kernel_rfl) rfl rfl
          have e29 : a.tmps[85]?.getD undef = _ := (Array.getD_eq_getD_getElem? ..).symm.trans d29
          rw [if_pos (wanted_some rfl rfl rfl (by rw [hsz]; exact of_decide_eq_true rfl) d29)]
          refine grow_same (v := .slice (some ⟨g, 0, none⟩) 40 c) ?_ rfl
          clear old dep ho hsz hb
          go_simp
        | 31, ho =>
          obtain rfl := Option.some.inj ho
          have d30 : a.tmps.getD 86 undef = .slice (some ⟨g, 0, none⟩) 40 c := dep 30 _ _ (by kernel_rfl) rfl rfl
          have e30 : a.tmps[86]?.getD undef = _ := (Array.getD_eq_getD_getElem? ..).symm.trans d30
          have d29 : a.tmps.getD 85 undef = .bool true := dep 29 _ _ (by kernel_rfl) rfl rfl
          have e29 : a.tmps[85]?.getD undef = _ := (Array.getD_eq_getD_getElem? ..).symm.trans d29
          rw [if_pos (wanted_some rfl rfl rfl (by rw [hsz]; exact of_decide_eq_true rfl) d29)]
          have hcv := conv_rdn HLL.out (HRA.out.below hb)
          refine grow_same (v := .string ⟨(z40).toArray⟩) ?_ rfl
          clear old dep ho hsz hb
          go_simp
        | 32, ho =>
          obtain rfl := Option.some.inj ho
          have d29 : a.tmps.getD 85 undef = .bool true := dep 29 _ _ (by kernel_rfl) rfl rfl
          have e29 : a.tmps[85]?.getD undef = _ := (Array.getD_eq_getD_getElem? ..).symm.trans d29
          rw [if_pos (wanted_some rfl rfl rfl (by rw [hsz]; exact of_decide_eq_true rfl) d29)]
          refine grow_yields (v := .slice (some ⟨w2.heap.size, 0, none⟩) 40 40) (w' := w2.alloc (.cells (blk8 z40) 5)) (exec_make40 rfl) ⟨_, _, rfl, Blk.rd8 (heap_new w2 _) rfl (Nat.le_refl _)⟩ ((Below.refl _ _).alloc (Nat.le_refl _) _)
        | 33, ho =>
          obtain rfl := Option.some.inj ho
          obtain ⟨A32, C32, d32, r32⟩ : ∃ A c, a.tmps.getD 88 undef = .slice A 40 c ∧ Rd w2 (.slice A 40 c) (u8s (z40)) := dep 32 _ _ (by kernel_rfl) rfl rfl
          have e32 : a.tmps[88]?.getD undef = _ := (Array.getD_eq_getD_getElem? ..).symm.trans d32
          have d29 : a.tmps.getD 85 undef = .bool true := dep 29 _ _ (by kernel_rfl) rfl rfl
          have e29 : a.tmps[85]?.getD undef = _ := (Array.getD_eq_getD_getElem? ..).symm.trans d29
          rw [if_pos (wanted_some rfl rfl rfl (by rw [hsz]; exact of_decide_eq_true rfl) d29)]
          have hcv := conv_rdn z40_length r32
          refine grow_same (v := .string ⟨(z40).toArray⟩) ?_ rfl
          clear old dep ho hsz hb r32
          go_simp
        | 34, ho =>
          obtain rfl := Option.some.inj ho
          have d31 : a.tmps.getD 87 undef = .string ⟨(z40).toArray⟩ := dep 31 _ _ (by kernel_rfl) rfl rfl
          have e31 : a.tmps[87]?.getD undef = _ := (Array.getD_eq_getD_getElem? ..).symm.trans d31
          have d33 : a.tmps.getD 89 undef = .string ⟨(z40).toArray⟩ := dep 33 _ _ (by kernel_rfl) rfl rfl
          have e33 : a.tmps[89]?.getD undef = _ := (Array.getD_eq_getD_getElem? ..).symm.trans d33
          have d29 : a.tmps.getD 85 undef = .bool true := dep 29 _ _ (by kernel_rfl) rfl rfl
          have e29 : a.tmps[85]?.getD undef = _ := (Array.getD_eq_getD_getElem? ..).symm.trans d29
          rw [if_pos (wanted_some rfl rfl rfl (by rw [hsz]; exact of_decide_eq_true rfl) d29)]
          refine grow_same (v := .bool true) ?_ rfl
          clear old dep ho hsz hb
          go_simp
        | 35, ho =>
          obtain rfl := Option.some.inj ho
          have d29 : a.tmps.getD 85 undef = .bool true := dep 29 _ _ (by kernel_rfl) rfl rfl
          have e29 : a.tmps[85]?.getD undef = _ := (Array.getD_eq_getD_getElem? ..).symm.trans d29
          have d34 : a.tmps.getD 90 undef = .bool true := dep 34 _ _ (by kernel_rfl) rfl rfl
          have e34 : a.tmps[90]?.getD undef = _ := (Array.getD_eq_getD_getElem? ..).symm.trans d34
          have d26 : a.tmps.getD 82 undef = .bool false := dep 26 _ _ (by kernel_rfl) rfl rfl
          have e26 : a.tmps[82]?.getD undef = _ := (Array.getD_eq_getD_getElem? ..).symm.trans d26
          rw [if_pos (wanted_some rfl rfl rfl (by rw [hsz]; exact of_decide_eq_true rfl) d26)]
          refine grow_same (v := .bool true) ?_ rfl
          clear old dep ho hsz hb
          go_simp
        | 36, ho =>
          obtain rfl := Option.some.inj ho
          have d26 : a.tmps.getD 82 undef = .bool false := dep 26 _ _ (by kernel_rfl) rfl rfl
          have e26 : a.tmps[82]?.getD undef = _ := (Array.getD_eq_getD_getElem? ..).symm.trans d26
          have d35 : a.tmps.getD 91 undef = .bool true := dep 35 _ _ (by kernel_rfl) rfl rfl
          have e35 : a.tmps[91]?.getD undef = _ := (Array.getD_eq_getD_getElem? ..).symm.trans d35
          have d2 : a.tmps.getD 58 undef = .bool true := dep 2 _ _ (by kernel_rfl) rfl rfl
          have e2 : a.tmps[58]?.getD undef = _ := (Array.getD_eq_getD_getElem? ..).symm.trans d2
          rw [if_pos (wanted_some rfl rfl rfl (by rw [hsz]; exact of_decide_eq_true rfl) d2)]
          refine grow_same (v := .bool true) ?_ rfl
          clear old dep ho hsz hb
          go_simp
        | 37, ho =>
          obtain rfl := Option.some.inj ho
          have d2 : a.tmps.getD 58 undef = .bool true := dep 2 _ _ (by kernel_rfl) rfl rfl
          have e2 : a.tmps[58]?.getD undef = _ := (Array.getD_eq_getD_getElem? ..).symm.trans d2
          have d36 : a.tmps.getD 92 undef = .bool true := dep 36 _ _ (by kernel_rfl) rfl rfl
          have e36 : a.tmps[92]?.getD undef = _ := (Array.getD_eq_getD_getElem? ..).symm.trans d36
          rw [if_pos (wanted_none rfl)]
          refine grow_same (v := .bool true) ?_ rfl
          clear old dep ho hsz hb
          go_simp
        | 38, ho =>
          obtain rfl := Option.some.inj ho
          have d37 : a.tmps.getD 93 undef = .bool true := dep 37 _ _ (by kernel_rfl) rfl rfl
          have e37 : a.tmps[93]?.getD undef = _ := (Array.getD_eq_getD_getElem? ..).symm.trans d37
          rw [if_pos (wanted_none rfl)]
          refine grow_same (v := .bool true) ?_ rfl
          clear old dep ho hsz hb
          go_simp
        | i + 39, ho => exact absurd ho (by simp)
      · intro a wZ hb hsz hdf fin keep
        obtain ⟨tm, df⟩ := a
        have hx := frame_of [56, 57, 58, 59, 60, 61, 62, 63, 64, 65, 66, 67, 68, 69, 70, 71, 72, 73, 74, 75, 76, 77, 78, 79, 80, 81, 82, 83, 84, 85, 86, 87, 88, 89, 90, 91, 92, 93, 6] (by kernel_rfl) hsz keep
        dsimp only at hdf hx
        simp only [List.foldl_cons, List.foldl_nil] at hx
        subst hdf
        clear hsz keep
        have kn : tm.getD 56 undef = .int .i64 9 := fin 0 _ _ rfl rfl
        rw [kn] at hx
        clear kn
        have kn : tm.getD 57 undef = .bool true := fin 1 _ _ rfl rfl
        rw [kn] at hx
        clear kn
        have kn : tm.getD 58 undef = .bool true := fin 2 _ _ rfl rfl
        rw [kn] at hx
        clear kn
        have kn : tm.getD 59 undef = .int .i64 5 := fin 3 _ _ rfl rfl
        rw [kn] at hx
        clear kn
        have kn : tm.getD 60 undef = .bool false := fin 4 _ _ rfl rfl
        rw [kn] at hx
        clear kn
        have kn : tm.getD 61 undef = .bool false := fin 5 _ _ rfl rfl
        rw [kn] at hx
        clear kn
        have kn : tm.getD 62 undef = undef := fin 6 _ _ rfl rfl
        rw [kn] at hx
        clear kn
        have kn : tm.getD 63 undef = undef := fin 7 _ _ rfl rfl
        rw [kn] at hx
        clear kn
        have kn : tm.getD 64 undef = undef := fin 8 _ _ rfl rfl
        rw [kn] at hx
        clear kn
        have kn : tm.getD 65 undef = .bool false := fin 9 _ _ rfl rfl
        rw [kn] at hx
        clear kn
        have kn : tm.getD 66 undef = .bool false := fin 10 _ _ rfl rfl
        rw [kn] at hx
        clear kn
        have kn : tm.getD 67 undef = .int .i64 5 := fin 11 _ _ rfl rfl
        rw [kn] at hx
        clear kn
        have kn : tm.getD 68 undef = .bool false := fin 12 _ _ rfl rfl
        rw [kn] at hx
        clear kn
        have kn : tm.getD 69 undef = .bool false := fin 13 _ _ rfl rfl
        rw [kn] at hx
        clear kn
        have kn : tm.getD 70 undef = undef := fin 14 _ _ rfl rfl
        rw [kn] at hx
        clear kn
        have kn : tm.getD 71 undef = undef := fin 15 _ _ rfl rfl
        rw [kn] at hx
        clear kn
        have kn : tm.getD 72 undef = .bool false := fin 16 _ _ rfl rfl
        rw [kn] at hx
        clear kn
        have kn : tm.getD 73 undef = .bool false := fin 17 _ _ rfl rfl
        rw [kn] at hx
        clear kn
        have kn : tm.getD 74 undef = undef := fin 18 _ _ rfl rfl
        rw [kn] at hx
        clear kn
        have kn : tm.getD 75 undef = undef := fin 19 _ _ rfl rfl
        rw [kn] at hx
        clear kn
        have kn : tm.getD 76 undef = undef := fin 20 _ _ rfl rfl
        rw [kn] at hx
        clear kn
        have kn : tm.getD 77 undef = undef := fin 21 _ _ rfl rfl
        rw [kn] at hx
        clear kn
        have kn : tm.getD 78 undef = undef := fin 22 _ _ rfl rfl
        rw [kn] at hx
        clear kn
        have kn : tm.getD 79 undef = undef := fin 23 _ _ rfl rfl
        rw [kn] at hx
        clear kn
        have kn : tm.getD 80 undef = .bool false := fin 24 _ _ rfl rfl
        rw [kn] at hx
        clear kn
        have kn : tm.getD 81 undef = .bool false := fin 25 _ _ rfl rfl
        rw [kn] at hx
        clear kn
        have kn : tm.getD 82 undef = .bool false := fin 26 _ _ rfl rfl
        rw [kn] at hx
        clear kn
        have kn : tm.getD 83 undef = .int .i64 5 := fin 27 _ _ rfl rfl
        rw [kn] at hx
        clear kn
        have kn : tm.getD 84 undef = .bool true := fin 28 _ _ rfl rfl
        rw [kn] at hx
        clear kn
        have kn : tm.getD 85 undef = .bool true := fin 29 _ _ rfl rfl
        rw [kn] at hx
        clear kn
        have kn : tm.getD 86 undef = .slice (some ⟨g, 0, none⟩) 40 c := fin 30 _ _ rfl rfl
        rw [kn] at hx
        clear kn
        have kn : tm.getD 87 undef = .string ⟨(z40).toArray⟩ := fin 31 _ _ rfl rfl
        rw [kn] at hx
        clear kn
        obtain ⟨A88, C88, kn, R88⟩ : ∃ A c, tm.getD 88 undef = .slice A 40 c ∧ Rd wZ (.slice A 40 c) (u8s (z40)) := fin 32 _ _ rfl rfl
        rw [kn] at hx
        clear kn
        clear R88
        have kn : tm.getD 89 undef = .string ⟨(z40).toArray⟩ := fin 33 _ _ rfl rfl
        rw [kn] at hx
        clear kn
        have kn : tm.getD 90 undef = .bool true := fin 34 _ _ rfl rfl
        rw [kn] at hx
        clear kn
        have kn : tm.getD 91 undef = .bool true := fin 35 _ _ rfl rfl
        rw [kn] at hx
        clear kn
        have kn : tm.getD 92 undef = .bool true := fin 36 _ _ rfl rfl
        rw [kn] at hx
        clear kn
        have kn : tm.getD 93 undef = .bool true := fin 37 _ _ rfl rfl
        rw [kn] at hx
        clear kn
        have kn : tm.getD 6 undef = .bool true := fin 38 _ _ rfl rfl
        rw [kn] at hx
        clear kn
        clear fin
        simp only [List.setIfInBounds_toArray, List.set_cons_succ, List.set_cons_zero] at hx
        subst hx
        have TZ := TA.below hb
        go_wp2
        go_ret
        exact ⟨rfl, TZ.le⟩
    · have HE := hide he
      clear HD he
      refine region_grows [Say.is (.int .i64 9), Say.is (.bool true), Say.is (.bool true), Say.is (.int .i64 0), Say.is (.bool false), Say.is (.bool false), Say.is (undef), Say.is (undef), Say.is (undef), Say.is (.bool false), Say.is (.bool false), Say.is (.int .i64 0), Say.is (.bool true), Say.is (.bool true), Say.is (.agg #[.int .i64 t', .string k', .string v']), Say.is (.bool true), Say.is (.bool true), Say.is (.bool true), Say.is (.agg #[.int .i64 t', .string k', .string v']), Say.rd 40 (L), Say.is (.string ⟨(L).toArray⟩), Say.is (.slice (some ⟨g, 0, none⟩) 40 c), Say.is (.string ⟨(L).toArray⟩), Say.is (.bool true), Say.is (.bool true), Say.is (.bool true), Say.is (.bool true), Say.is (undef), Say.is (undef), Say.is (undef), Say.is (undef), Say.is (undef), Say.is (undef), Say.is (undef), Say.is (undef), Say.is (undef), Say.is (.bool true), Say.is (.bool true), Say.is (.bool true)] (by kernel_rfl) (by kernel_rfl) (by kernel_rfl) (by kernel_rfl) ?_ ?_
      · intro i o ho a w2 hb hsz old dep
        match i, ho with
        | 0, ho =>
          obtain rfl := Option.some.inj ho
          have o13 : a.tmps.getD 13 undef = _ := old 13 (by kernel_rfl)
          rw [if_pos (wanted_none rfl)]
          refine grow_same (v := .int .i64 9) ?_ rfl
          clear old dep ho hsz hb
          go_simp
        | 1, ho =>
          obtain rfl := Option.some.inj ho
          have d0 : a.tmps.getD 56 undef = .int .i64 9 := dep 0 _ _ (by kernel_rfl) rfl rfl
          have e0 : a.tmps[56]?.getD undef = _ := (Array.getD_eq_getD_getElem? ..).symm.trans d0
          rw [if_pos (wanted_none rfl)]
          refine grow_same (v := .bool true) ?_ rfl
          clear old dep ho hsz hb
          go_simp
        | 2, ho =>
          obtain rfl := Option.some.inj ho
          have d1 : a.tmps.getD 57 undef = .bool true := dep 1 _ _ (by kernel_rfl) rfl rfl
          have e1 : a.tmps[57]?.getD undef = _ := (Array.getD_eq_getD_getElem? ..).symm.trans d1
          rw [if_pos (wanted_none rfl)]
          refine grow_same (v := .bool true) ?_ rfl
          clear old dep ho hsz hb
          go_simp
        | 3, ho =>
          obtain rfl := Option.some.inj ho
          have o11 : a.tmps.getD 11 undef = _ := old 11 (by kernel_rfl)
          have d2 : a.tmps.getD 58 undef = .bool true := dep 2 _ _ (by kernel_rfl) rfl rfl
          have e2 : a.tmps[58]?.getD undef = _ := (Array.getD_eq_getD_getElem? ..).symm.trans d2
          rw [if_pos (wanted_some rfl rfl rfl (by rw [hsz]; exact of_decide_eq_true rfl) d2)]
          refine grow_same (v := .int .i64 0) ?_ rfl
          clear old dep ho hsz hb
          go_simp
        | 4, ho =>
          obtain rfl := Option.some.inj ho
          have d3 : a.tmps.getD 59 undef = .int .i64 0 := dep 3 _ _ (by kernel_rfl) rfl rfl
          have e3 : a.tmps[59]?.getD undef = _ := (Array.getD_eq_getD_getElem? ..).symm.trans d3
          have d2 : a.tmps.getD 58 undef = .bool true := dep 2 _ _ (by kernel_rfl) rfl rfl
          have e2 : a.tmps[58]?.getD undef = _ := (Array.getD_eq_getD_getElem? ..).symm.trans d2
          rw [if_pos (wanted_some rfl rfl rfl (by rw [hsz]; exact of_decide_eq_true rfl) d2)]
          refine grow_same (v := .bool false) ?_ rfl
          clear old dep ho hsz hb
          go_simp
        | 5, ho =>
          obtain rfl := Option.some.inj ho
          have d4 : a.tmps.getD 60 undef = .bool false := dep 4 _ _ (by kernel_rfl) rfl rfl
          have e4 : a.tmps[60]?.getD undef = _ := (Array.getD_eq_getD_getElem? ..).symm.trans d4
          have d2 : a.tmps.getD 58 undef = .bool true := dep 2 _ _ (by kernel_rfl) rfl rfl
          have e2 : a.tmps[58]?.getD undef = _ := (Array.getD_eq_getD_getElem? ..).symm.trans d2
          rw [if_pos (wanted_some rfl rfl rfl (by rw [hsz]; exact of_decide_eq_true rfl) d2)]
          refine grow_same (v := .bool false) ?_ rfl
          clear old dep ho hsz hb
          go_simp
        | 6, ho =>
          obtain rfl := Option.some.inj ho
          have d5 : a.tmps.getD 61 undef = .bool false := dep 5 _ _ (by kernel_rfl) rfl rfl
          have e5 : a.tmps[61]?.getD undef = _ := (Array.getD_eq_getD_getElem? ..).symm.trans d5
          rw [if_neg (wanted_not rfl rfl rfl (by rw [hsz]; exact of_decide_eq_true rfl) d5 rfl)]
          exact rfl
        | 7, ho =>
          obtain rfl := Option.some.inj ho
          have d5 : a.tmps.getD 61 undef = .bool false := dep 5 _ _ (by kernel_rfl) rfl rfl
          have e5 : a.tmps[61]?.getD undef = _ := (Array.getD_eq_getD_getElem? ..).symm.trans d5
          rw [if_neg (wanted_not rfl rfl rfl (by rw [hsz]; exact of_decide_eq_true rfl) d5 rfl)]
          exact rfl
        | 8, ho =>
          obtain rfl := Option.some.inj ho
          have d5 : a.tmps.getD 61 undef = .bool false := dep 5 _ _ (by kernel_rfl) rfl rfl
          have e5 : a.tmps[61]?.getD undef = _ := (Array.getD_eq_getD_getElem? ..).symm.trans d5
          rw [if_neg (wanted_not rfl rfl rfl (by rw [hsz]; exact of_decide_eq_true rfl) d5 rfl)]
          exact rfl
        | 9, ho =>
          obtain rfl := Option.some.inj ho
          have d5 : a.tmps.getD 61 undef = .bool false := dep 5 _ _ (by kernel_rfl) rfl rfl
          have e5 : a.tmps[61]?.getD undef = _ := (Array.getD_eq_getD_getElem? ..).symm.trans d5
          have d8 : a.tmps.getD 64 undef = undef := dep 8 _ _ (by kernel_rfl) rfl rfl
          have e8 : a.tmps[64]?.getD undef = _ := (Array.getD_eq_getD_getElem? ..).symm.trans d8
          have d2 : a.tmps.getD 58 undef = .bool true := dep 2 _ _ (by kernel_rfl) rfl rfl
          have e2 : a.tmps[58]?.getD undef = _ := (Array.getD_eq_getD_getElem? ..).symm.trans d2
          rw [if_pos (wanted_some rfl rfl rfl (by rw [hsz]; exact of_decide_eq_true rfl) d2)]
          refine grow_same (v := .bool false) ?_ rfl
          clear old dep ho hsz hb
          go_simp
        | 10, ho =>
          obtain rfl := Option.some.inj ho
          have d9 : a.tmps.getD 65 undef = .bool false := dep 9 _ _ (by kernel_rfl) rfl rfl
          have e9 : a.tmps[65]?.getD undef = _ := (Array.getD_eq_getD_getElem? ..).symm.trans d9
          have d2 : a.tmps.getD 58 undef = .bool true := dep 2 _ _ (by kernel_rfl) rfl rfl
          have e2 : a.tmps[58]?.getD undef = _ := (Array.getD_eq_getD_getElem? ..).symm.trans d2
          rw [if_pos (wanted_some rfl rfl rfl (by rw [hsz]; exact of_decide_eq_true rfl) d2)]
          refine grow_same (v := .bool false) ?_ rfl
          clear old dep ho hsz hb
          go_simp
        | 11, ho =>
          obtain rfl := Option.some.inj ho
          have o11 : a.tmps.getD 11 undef = _ := old 11 (by kernel_rfl)
          have d10 : a.tmps.getD 66 undef = .bool false := dep 10 _ _ (by kernel_rfl) rfl rfl
          have e10 : a.tmps[66]?.getD undef = _ := (Array.getD_eq_getD_getElem? ..).symm.trans d10
          rw [if_pos (wanted_some rfl rfl rfl (by rw [hsz]; exact of_decide_eq_true rfl) d10)]
          refine grow_same (v := .int .i64 0) ?_ rfl
          clear old dep ho hsz hb
          go_simp
        | 12, ho =>
          obtain rfl := Option.some.inj ho
          have d11 : a.tmps.getD 67 undef = .int .i64 0 := dep 11 _ _ (by kernel_rfl) rfl rfl
          have e11 : a.tmps[67]?.getD undef = _ := (Array.getD_eq_getD_getElem? ..).symm.trans d11
          have d10 : a.tmps.getD 66 undef = .bool false := dep 10 _ _ (by kernel_rfl) rfl rfl
          have e10 : a.tmps[66]?.getD undef = _ := (Array.getD_eq_getD_getElem? ..).symm.trans d10
          rw [if_pos (wanted_some rfl rfl rfl (by rw [hsz]; exact of_decide_eq_true rfl) d10)]
          refine grow_same (v := .bool true) ?_ rfl
          clear old dep ho hsz hb
          go_simp
        | 13, ho =>
          obtain rfl := Option.some.inj ho
          have d12 : a.tmps.getD 68 undef = .bool true := dep 12 _ _ (by kernel_rfl) rfl rfl
          have e12 : a.tmps[68]?.getD undef = _ := (Array.getD_eq_getD_getElem? ..).symm.trans d12
          have d10 : a.tmps.getD 66 undef = .bool false := dep 10 _ _ (by kernel_rfl) rfl rfl
          have e10 : a.tmps[66]?.getD undef = _ := (Array.getD_eq_getD_getElem? ..).symm.trans d10
          rw [if_pos (wanted_some rfl rfl rfl (by rw [hsz]; exact of_decide_eq_true rfl) d10)]
          refine grow_same (v := .bool true) ?_ rfl
          clear old dep ho hsz hb
          go_simp
        | 14, ho =>
          obtain rfl := Option.some.inj ho
          have o10 : a.tmps.getD 10 undef = _ := old 10 (by kernel_rfl)
          have d13 : a.tmps.getD 69 undef = .bool true := dep 13 _ _ (by kernel_rfl) rfl rfl
          have e13 : a.tmps[69]?.getD undef = _ := (Array.getD_eq_getD_getElem? ..).symm.trans d13
          rw [if_pos (wanted_some rfl rfl rfl (by rw [hsz]; exact of_decide_eq_true rfl) d13)]
          have g0 := (hb.cell (p := ⟨w8.heap.size, 0, none⟩) hlx.out).trans x1
          have g1 := (hb.cell (p := ⟨w8.heap.size, 1, none⟩) hlx.out).trans x2
          have g2 := (hb.cell (p := ⟨w8.heap.size, 2, none⟩) hlx.out).trans x3
          refine grow_same (v := .agg #[.int .i64 t', .string k', .string v']) ?_ rfl
          clear old dep ho hsz hb
          go_simp
        | 15, ho =>
          obtain rfl := Option.some.inj ho
          have d14 : a.tmps.getD 70 undef = .agg #[.int .i64 t', .string k', .string v'] := dep 14 _ _ (by kernel_rfl) rfl rfl
          have e14 : a.tmps[70]?.getD undef = _ := (Array.getD_eq_getD_getElem? ..).symm.trans d14
          have d13 : a.tmps.getD 69 undef = .bool true := dep 13 _ _ (by kernel_rfl) rfl rfl
          have e13 : a.tmps[69]?.getD undef = _ := (Array.getD_eq_getD_getElem? ..).symm.trans d13
          rw [if_pos (wanted_some rfl rfl rfl (by rw [hsz]; exact of_decide_eq_true rfl) d13)]
          refine grow_enters (f := 12) (args := #[.agg #[.int .i64 t', .string k', .string v']]) ?_ (lright_grow true t' k' v' _ hr')
          clear old dep ho hsz hb
          go_simp
        | 16, ho =>
          obtain rfl := Option.some.inj ho
          have d13 : a.tmps.getD 69 undef = .bool true := dep 13 _ _ (by kernel_rfl) rfl rfl
          have e13 : a.tmps[69]?.getD undef = _ := (Array.getD_eq_getD_getElem? ..).symm.trans d13
          have d15 : a.tmps.getD 71 undef = .bool true := dep 15 _ _ (by kernel_rfl) rfl rfl
          have e15 : a.tmps[71]?.getD undef = _ := (Array.getD_eq_getD_getElem? ..).symm.trans d15
          have d10 : a.tmps.getD 66 undef = .bool false := dep 10 _ _ (by kernel_rfl) rfl rfl
          have e10 : a.tmps[66]?.getD undef = _ := (Array.getD_eq_getD_getElem? ..).symm.trans d10
          rw [if_pos (wanted_some rfl rfl rfl (by rw [hsz]; exact of_decide_eq_true rfl) d10)]
          refine grow_same (v := .bool true) ?_ rfl
          clear old dep ho hsz hb
          go_simp
        | 17, ho =>
          obtain rfl := Option.some.inj ho
          have d16 : a.tmps.getD 72 undef = .bool true := dep 16 _ _ (by kernel_rfl) rfl rfl
          have e16 : a.tmps[72]?.getD undef = _ := (Array.getD_eq_getD_getElem? ..).symm.trans d16
          have d10 : a.tmps.getD 66 undef = .bool false := dep 10 _ _ (by kernel_rfl) rfl rfl
          have e10 : a.tmps[66]?.getD undef = _ := (Array.getD_eq_getD_getElem? ..).symm.trans d10
          rw [if_pos (wanted_some rfl rfl rfl (by rw [hsz]; exact of_decide_eq_true rfl) d10)]
          refine grow_same (v := .bool true) ?_ rfl
          clear old dep ho hsz hb
          go_simp
        | 18, ho =>
          obtain rfl := Option.some.inj ho
          have o10 : a.tmps.getD 10 undef = _ := old 10 (by kernel_rfl)
          have d17 : a.tmps.getD 73 undef = .bool true := dep 17 _ _ (by kernel_rfl) rfl rfl
          have e17 : a.tmps[73]?.getD undef = _ := (Array.getD_eq_getD_getElem? ..).symm.trans d17
          rw [if_pos (wanted_some rfl rfl rfl (by rw [hsz]; exact of_decide_eq_true rfl) d17)]
          have g0 := (hb.cell (p := ⟨w8.heap.size, 0, none⟩) hlx.out).trans x1
          have g1 := (hb.cell (p := ⟨w8.heap.size, 1, none⟩) hlx.out).trans x2
          have g2 := (hb.cell (p := ⟨w8.heap.size, 2, none⟩) hlx.out).trans x3
          refine grow_same (v := .agg #[.int .i64 t', .string k', .string v']) ?_ rfl
          clear old dep ho hsz hb
          go_simp
        | 19, ho =>
          obtain rfl := Option.some.inj ho
          have d18 : a.tmps.getD 74 undef = .agg #[.int .i64 t', .string k', .string v'] := dep 18 _ _ (by kernel_rfl) rfl rfl
          have e18 : a.tmps[74]?.getD undef = _ := (Array.getD_eq_getD_getElem? ..).symm.trans d18
          have d17 : a.tmps.getD 73 undef = .bool true := dep 17 _ _ (by kernel_rfl) rfl rfl
          have e17 : a.tmps[73]?.getD undef = _ := (Array.getD_eq_getD_getElem? ..).symm.trans d17
          rw [if_pos (wanted_some rfl rfl rfl (by rw [hsz]; exact of_decide_eq_true rfl) d17)]
          refine grow_enters (f := 14) (args := #[.agg #[.int .i64 t', .string k', .string v']]) ?_ (encode_as t' k' v' L _ hr' HE.out)
          clear old dep ho hsz hb
          go_simp
        | 20, ho =>
          obtain rfl := Option.some.inj ho
          obtain ⟨A19, C19, d19, r19⟩ : ∃ A c, a.tmps.getD 75 undef = .slice A 40 c ∧ Rd w2 (.slice A 40 c) (u8s (L)) := dep 19 _ _ (by kernel_rfl) rfl rfl
          have e19 : a.tmps[75]?.getD undef = _ := (Array.getD_eq_getD_getElem? ..).symm.trans d19
          have d17 : a.tmps.getD 73 undef = .bool true := dep 17 _ _ (by kernel_rfl) rfl rfl
          have e17 : a.tmps[73]?.getD undef = _ := (Array.getD_eq_getD_getElem? ..).symm.trans d17
          rw [if_pos (wanted_some rfl rfl rfl (by rw [hsz]; exact of_decide_eq_true rfl) d17)]
          have hcv := conv_rdn HLL.out r19
          refine grow_same (v := .string ⟨(L).toArray⟩) ?_ rfl
          clear old dep ho hsz hb r19
          go_simp
        | 21, ho =>
          obtain rfl := Option.some.inj ho
          have o7 : a.tmps.getD 7 undef = _ := old 7 (by kernel_rfl)
          have d17 : a.tmps.getD 73 undef = .bool true := dep 17 _ _ (by kernel_rfl) rfl rfl
          have e17 : a.tmps[73]?.getD undef = _ := (Array.getD_eq_getD_getElem? ..).symm.trans d17
          rw [if_pos (wanted_some rfl rfl rfl (by rw [hsz]; exact of_decide_eq_true rfl) d17)]
          refine grow_same (v := .slice (some ⟨g, 0, none⟩) 40 c) ?_ rfl
          clear old dep ho hsz hb
          go_simp
        | 22, ho =>
          obtain rfl := Option.some.inj ho
          have d21 : a.tmps.getD 77 undef = .slice (some ⟨g, 0, none⟩) 40 c := dep 21 _ _ (by kernel_rfl) rfl rfl
          have e21 : a.tmps[77]?.getD undef = _ := (Array.getD_eq_getD_getElem? ..).symm.trans d21
          have d17 : a.tmps.getD 73 undef = .bool true := dep 17 _ _ (by kernel_rfl) rfl rfl
          have e17 : a.tmps[73]?.getD undef = _ := (Array.getD_eq_getD_getElem? ..).symm.trans d17
          rw [if_pos (wanted_some rfl rfl rfl (by rw [hsz]; exact of_decide_eq_true rfl) d17)]
          have hcv := conv_rdn HLL.out (HRA.out.below hb)
          refine grow_same (v := .string ⟨(L).toArray⟩) ?_ rfl
          clear old dep ho hsz hb
          go_simp
        | 23, ho =>
          obtain rfl := Option.some.inj ho
          have d20 : a.tmps.getD 76 undef = .string ⟨(L).toArray⟩ := dep 20 _ _ (by kernel_rfl) rfl rfl
          have e20 : a.tmps[76]?.getD undef = _ := (Array.getD_eq_getD_getElem? ..).symm.trans d20
          have d22 : a.tmps.getD 78 undef = .string ⟨(L).toArray⟩ := dep 22 _ _ (by kernel_rfl) rfl rfl
          have e22 : a.tmps[78]?.getD undef = _ := (Array.getD_eq_getD_getElem? ..).symm.trans d22
          have d17 : a.tmps.getD 73 undef = .bool true := dep 17 _ _ (by kernel_rfl) rfl rfl
          have e17 : a.tmps[73]?.getD undef = _ := (Array.getD_eq_getD_getElem? ..).symm.trans d17
          rw [if_pos (wanted_some rfl rfl rfl (by rw [hsz]; exact of_decide_eq_true rfl) d17)]
          refine grow_same (v := .bool true) ?_ rfl
          clear old dep ho hsz hb
          go_simp
        | 24, ho =>
          obtain rfl := Option.some.inj ho
          have d17 : a.tmps.getD 73 undef = .bool true := dep 17 _ _ (by kernel_rfl) rfl rfl
          have e17 : a.tmps[73]?.getD undef = _ := (Array.getD_eq_getD_getElem? ..).symm.trans d17
          have d23 : a.tmps.getD 79 undef = .bool true := dep 23 _ _ (by kernel_rfl) rfl rfl
          have e23 : a.tmps[79]?.getD undef = _ := (Array.getD_eq_getD_getElem? ..).symm.trans d23
          have d10 : a.tmps.getD 66 undef = .bool false := dep 10 _ _ (by kernel_rfl) rfl rfl
          have e10 : a.tmps[66]?.getD undef = _ := (Array.getD_eq_getD_getElem? ..).symm.trans d10
          rw [if_pos (wanted_some rfl rfl rfl (by rw [hsz]; exact of_decide_eq_true rfl) d10)]
          refine grow_same (v := .bool true) ?_ rfl
          clear old dep ho hsz hb
          go_simp
        | 25, ho =>
          obtain rfl := Option.some.inj ho
          have d10 : a.tmps.getD 66 undef = .bool false := dep 10 _ _ (by kernel_rfl) rfl rfl
          have e10 : a.tmps[66]?.getD undef = _ := (Array.getD_eq_getD_getElem? ..).symm.trans d10
          have d24 : a.tmps.getD 80 undef = .bool true := dep 24 _ _ (by kernel_rfl) rfl rfl
          have e24 : a.tmps[80]?.getD undef = _ := (Array.getD_eq_getD_getElem? ..).symm.trans d24
          have d2 : a.tmps.getD 58 undef = .bool true := dep 2 _ _ (by kernel_rfl) rfl rfl
          have e2 : a.tmps[58]?.getD undef = _ := (Array.getD_eq_getD_getElem? ..).symm.trans d2
          rw [if_pos (wanted_some rfl rfl rfl (by rw [hsz]; exact of_decide_eq_true rfl) d2)]
          refine grow_same (v := .bool true) ?_ rfl
          clear old dep ho hsz hb
          go_simp
        | 26, ho =>
          obtain rfl := Option.some.inj ho
          have d25 : a.tmps.getD 81 undef = .bool true := dep 25 _ _ (by kernel_rfl) rfl rfl
          have e25 : a.tmps[81]?.getD undef = _ := (Array.getD_eq_getD_getElem? ..).symm.trans d25
          have d2 : a.tmps.getD 58 undef = .bool true := dep 2 _ _ (by kernel_rfl) rfl rfl
          have e2 : a.tmps[58]?.getD undef = _ := (Array.getD_eq_getD_getElem? ..).symm.trans d2
          rw [if_pos (wanted_some rfl rfl rfl (by rw [hsz]; exact of_decide_eq_true rfl) d2)]
          refine grow_same (v := .bool true) ?_ rfl
          clear old dep ho hsz hb
          go_simp
        | 27, ho =>
          obtain rfl := Option.some.inj ho
          have d26 : a.tmps.getD 82 undef = .bool true := dep 26 _ _ (by kernel_rfl) rfl rfl
          have e26 : a.tmps[82]?.getD undef = _ := (Array.getD_eq_getD_getElem? ..).symm.trans d26
          rw [if_neg (wanted_not rfl rfl rfl (by rw [hsz]; exact of_decide_eq_true rfl) d26 rfl)]
          exact rfl
        | 28, ho =>
          obtain rfl := Option.some.inj ho
          have d26 : a.tmps.getD 82 undef = .bool true := dep 26 _ _ (by kernel_rfl) rfl rfl
          have e26 : a.tmps[82]?.getD undef = _ := (Array.getD_eq_getD_getElem? ..).symm.trans d26
          rw [if_neg (wanted_not rfl rfl rfl (by rw [hsz]; exact of_decide_eq_true rfl) d26 rfl)]
          exact rfl
        | 29, ho =>
          obtain rfl := Option.some.inj ho
          have d26 : a.tmps.getD 82 undef = .bool true := dep 26 _ _ (by kernel_rfl) rfl rfl
          have e26 : a.tmps[82]?.getD undef = _ := (Array.getD_eq_getD_getElem? ..).symm.trans d26
          rw [if_neg (wanted_not rfl rfl rfl (by rw [hsz]; exact of_decide_eq_true rfl) d26 rfl)]
          exact rfl
        | 30, ho =>
          obtain rfl := Option.some.inj ho
          have d29 : a.tmps.getD 85 undef = undef := dep 29 _ _ (by kernel_rfl) rfl rfl
          have e29 : a.tmps[85]?.getD undef = _ := (Array.getD_eq_getD_getElem? ..).symm.trans d29
          rw [if_neg (wanted_undef rfl rfl rfl (by rw [hsz]; exact of_decide_eq_true rfl) d29)]
          exact rfl
        | 31, ho =>
          obtain rfl := Option.some.inj ho
          have d29 : a.tmps.getD 85 undef = undef := dep 29 _ _ (by kernel_rfl) rfl rfl
          have e29 : a.tmps[85]?.getD undef = _ := (Array.getD_eq_getD_getElem? ..).symm.trans d29
          rw [if_neg (wanted_undef rfl rfl rfl (by rw [hsz]; exact of_decide_eq_true rfl) d29)]
          exact rfl
        | 32, ho =>
          obtain rfl := Option.some.inj ho
          have d29 : a.tmps.getD 85 undef = undef := dep 29 _ _ (by kernel_rfl) rfl rfl
          have e29 : a.tmps[85]?.getD undef = _ := (Array.getD_eq_getD_getElem? ..).symm.trans d29
          rw [if_neg (wanted_undef rfl rfl rfl (by rw [hsz]; exact of_decide_eq_true rfl) d29)]
          exact rfl
        | 33, ho =>
          obtain rfl := Option.some.inj ho
          have d29 : a.tmps.getD 85 undef = undef := dep 29 _ _ (by kernel_rfl) rfl rfl
          have e29 : a.tmps[85]?.getD undef = _ := (Array.getD_eq_getD_getElem? ..).symm.trans d29
          rw [if_neg (wanted_undef rfl rfl rfl (by rw [hsz]; exact of_decide_eq_true rfl) d29)]
          exact rfl
        | 34, ho =>
          obtain rfl := Option.some.inj ho
          have d29 : a.tmps.getD 85 undef = undef := dep 29 _ _ (by kernel_rfl) rfl rfl
          have e29 : a.tmps[85]?.getD undef = _ := (Array.getD_eq_getD_getElem? ..).symm.trans d29
          rw [if_neg (wanted_undef rfl rfl rfl (by rw [hsz]; exact of_decide_eq_true rfl) d29)]
          exact rfl
        | 35, ho =>
          obtain rfl := Option.some.inj ho
          have d26 : a.tmps.getD 82 undef = .bool true := dep 26 _ _ (by kernel_rfl) rfl rfl
          have e26 : a.tmps[82]?.getD undef = _ := (Array.getD_eq_getD_getElem? ..).symm.trans d26
          rw [if_neg (wanted_not rfl rfl rfl (by rw [hsz]; exact of_decide_eq_true rfl) d26 rfl)]
          exact rfl
        | 36, ho =>
          obtain rfl := Option.some.inj ho
          have d26 : a.tmps.getD 82 undef = .bool true := dep 26 _ _ (by kernel_rfl) rfl rfl
          have e26 : a.tmps[82]?.getD undef = _ := (Array.getD_eq_getD_getElem? ..).symm.trans d26
          have d35 : a.tmps.getD 91 undef = undef := dep 35 _ _ (by kernel_rfl) rfl rfl
          have e35 : a.tmps[91]?.getD undef = _ := (Array.getD_eq_getD_getElem? ..).symm.trans d35
          have d2 : a.tmps.getD 58 undef = .bool true := dep 2 _ _ (by kernel_rfl) rfl rfl
          have e2 : a.tmps[58]?.getD undef = _ := (Array.getD_eq_getD_getElem? ..).symm.trans d2
          rw [if_pos (wanted_some rfl rfl rfl (by rw [hsz]; exact of_decide_eq_true rfl) d2)]
          refine grow_same (v := .bool true) ?_ rfl
          clear old dep ho hsz hb
          go_simp
        | 37, ho =>
          obtain rfl := Option.some.inj ho
          have d2 : a.tmps.getD 58 undef = .bool true := dep 2 _ _ (by kernel_rfl) rfl rfl
          have e2 : a.tmps[58]?.getD undef = _ := (Array.getD_eq_getD_getElem? ..).symm.trans d2
          have d36 : a.tmps.getD 92 undef = .bool true := dep 36 _ _ (by kernel_rfl) rfl rfl
          have e36 : a.tmps[92]?.getD undef = _ := (Array.getD_eq_getD_getElem? ..).symm.trans d36
          rw [if_pos (wanted_none rfl)]
          refine grow_same (v := .bool true) ?_ rfl
          clear old dep ho hsz hb
          go_simp
        | 38, ho =>
          obtain rfl := Option.some.inj ho
          have d37 : a.tmps.getD 93 undef = .bool true := dep 37 _ _ (by kernel_rfl) rfl rfl
          have e37 : a.tmps[93]?.getD undef = _ := (Array.getD_eq_getD_getElem? ..).symm.trans d37
          rw [if_pos (wanted_none rfl)]
          refine grow_same (v := .bool true) ?_ rfl
          clear old dep ho hsz hb
          go_simp
        | i + 39, ho => exact absurd ho (by simp)
      · intro a wZ hb hsz hdf fin keep
        obtain ⟨tm, df⟩ := a
        have hx := frame_of [56, 57, 58, 59, 60, 61, 62, 63, 64, 65, 66, 67, 68, 69, 70, 71, 72, 73, 74, 75, 76, 77, 78, 79, 80, 81, 82, 83, 84, 85, 86, 87, 88, 89, 90, 91, 92, 93, 6] (by kernel_rfl) hsz keep
        dsimp only at hdf hx
        simp only [List.foldl_cons, List.foldl_nil] at hx
        subst hdf
        clear hsz keep
        have kn : tm.getD 56 undef = .int .i64 9 := fin 0 _ _ rfl rfl
        rw [kn] at hx
        clear kn
        have kn : tm.getD 57 undef = .bool true := fin 1 _ _ rfl rfl
        rw [kn] at hx
        clear kn
        have kn : tm.getD 58 undef = .bool true := fin 2 _ _ rfl rfl
        rw [kn] at hx
        clear kn
        have kn : tm.getD 59 undef = .int .i64 0 := fin 3 _ _ rfl rfl
        rw [kn] at hx
        clear kn
        have kn : tm.getD 60 undef = .bool false := fin 4 _ _ rfl rfl
        rw [kn] at hx
        clear kn
        have kn : tm.getD 61 undef = .bool false := fin 5 _ _ rfl rfl
        rw [kn] at hx
        clear kn
        have kn : tm.getD 62 undef = undef := fin 6 _ _ rfl rfl
        rw [kn] at hx
        clear kn
        have kn : tm.getD 63 undef = undef := fin 7 _ _ rfl rfl
        rw [kn] at hx
        clear kn
        have kn : tm.getD 64 undef = undef := fin 8 _ _ rfl rfl
        rw [kn] at hx
        clear kn
        have kn : tm.getD 65 undef = .bool false := fin 9 _ _ rfl rfl
        rw [kn] at hx
        clear kn
        have kn : tm.getD 66 undef = .bool false := fin 10 _ _ rfl rfl
        rw [kn] at hx
        clear kn
        have kn : tm.getD 67 undef = .int .i64 0 := fin 11 _ _ rfl rfl
        rw [kn] at hx
        clear kn
        have kn : tm.getD 68 undef = .bool true := fin 12 _ _ rfl rfl
        rw [kn] at hx
        clear kn
        have kn : tm.getD 69 undef = .bool true := fin 13 _ _ rfl rfl
        rw [kn] at hx
        clear kn
        have kn : tm.getD 70 undef = .agg #[.int .i64 t', .string k', .string v'] := fin 14 _ _ rfl rfl
        rw [kn] at hx
        clear kn
        have kn : tm.getD 71 undef = .bool true := fin 15 _ _ rfl rfl
        rw [kn] at hx
        clear kn
        have kn : tm.getD 72 undef = .bool true := fin 16 _ _ rfl rfl
        rw [kn] at hx
        clear kn
        have kn : tm.getD 73 undef = .bool true := fin 17 _ _ rfl rfl
        rw [kn] at hx
        clear kn
        have kn : tm.getD 74 undef = .agg #[.int .i64 t', .string k', .string v'] := fin 18 _ _ rfl rfl
        rw [kn] at hx
        clear kn
        obtain ⟨A75, C75, kn, R75⟩ : ∃ A c, tm.getD 75 undef = .slice A 40 c ∧ Rd wZ (.slice A 40 c) (u8s (L)) := fin 19 _ _ rfl rfl
        rw [kn] at hx
        clear kn
        clear R75
        have kn : tm.getD 76 undef = .string ⟨(L).toArray⟩ := fin 20 _ _ rfl rfl
        rw [kn] at hx
        clear kn
        have kn : tm.getD 77 undef = .slice (some ⟨g, 0, none⟩) 40 c := fin 21 _ _ rfl rfl
        rw [kn] at hx
        clear kn
        have kn : tm.getD 78 undef = .string ⟨(L).toArray⟩ := fin 22 _ _ rfl rfl
        rw [kn] at hx
        clear kn
        have kn : tm.getD 79 undef = .bool true := fin 23 _ _ rfl rfl
        rw [kn] at hx
        clear kn
        have kn : tm.getD 80 undef = .bool true := fin 24 _ _ rfl rfl
        rw [kn] at hx
        clear kn
        have kn : tm.getD 81 undef = .bool true := fin 25 _ _ rfl rfl
        rw [kn] at hx
        clear kn
        have kn : tm.getD 82 undef = .bool true := fin 26 _ _ rfl rfl
        rw [kn] at hx
        clear kn
        have kn : tm.getD 83 undef = undef := fin 27 _ _ rfl rfl
        rw [kn] at hx
        clear kn
        have kn : tm.getD 84 undef = undef := fin 28 _ _ rfl rfl
        rw [kn] at hx
        clear kn
        have kn : tm.getD 85 undef = undef := fin 29 _ _ rfl rfl
        rw [kn] at hx
        clear kn
        have kn : tm.getD 86 undef = undef := fin 30 _ _ rfl rfl
        rw [kn] at hx
        clear kn
        have kn : tm.getD 87 undef = undef := fin 31 _ _ rfl rfl
        rw [kn] at hx
        clear kn
        have kn : tm.getD 88 undef = undef := fin 32 _ _ rfl rfl
        rw [kn] at hx
        clear kn
        have kn : tm.getD 89 undef = undef := fin 33 _ _ rfl rfl
        rw [kn] at hx
        clear kn
        have kn : tm.getD 90 undef = undef := fin 34 _ _ rfl rfl
        rw [kn] at hx
        clear kn
        have kn : tm.getD 91 undef = undef := fin 35 _ _ rfl rfl
        rw [kn] at hx
        clear kn
        have kn : tm.getD 92 undef = .bool true := fin 36 _ _ rfl rfl
        rw [kn] at hx
        clear kn
        have kn : tm.getD 93 undef = .bool true := fin 37 _ _ rfl rfl
        rw [kn] at hx
        clear kn
        have kn : tm.getD 6 undef = .bool true := fin 38 _ _ rfl rfl
        rw [kn] at hx
        clear kn
        clear fin
        simp only [List.setIfInBounds_toArray, List.set_cons_succ, List.set_cons_zero] at hx
        subst hx
        have TZ := TA.below hb
        go_wp2
        go_ret
        exact ⟨rfl, TZ.le⟩
theorem any_walk (t : Int) (k v : ByteArray) (ma mb : Int) (x : UInt8) (w : World) (_ : (Lit.int .i64 t).wf = true) (_ : k.size ≤ maxLen) (_ : v.size ≤ maxLen) (_ : (Lit.int .i64 ma).wf = true) (_ : (Lit.int .i64 mb).wf = true) :
    Calls Try.prog 4 #[.agg #[.int .i64 t, .string k, .string v], .agg #[.int .i64 ma, .int .i64 mb], .int .u8 (x.toNat : Int)] w fun e w' => e = .returned (.bool true) ∧ Below w.heap.size w w' := by
  cases hl : lightB k v
  · exact any_long t k v ma mb x w hl
  · cases hr : rightB t k v
    · exact any_wrong t k v ma mb x w hl hr
    · exact any_right t k v ma mb x w hl hr
end Go.Proofs.Ytkjngpiblbkccaa
