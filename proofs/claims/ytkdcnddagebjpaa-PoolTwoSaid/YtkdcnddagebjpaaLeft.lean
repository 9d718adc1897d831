/-
  Two pools on one disk: what the one leaves of its region, whatever the other does; a lane and a pool opened over it.
-/
import Derived.Test.YtkdcnddagebjpaaRowS
namespace Go.Proofs.Ytkdcnddagebjpaa
open Go.RowKit
set_option maxRecDepth 20000
set_option linter.unusedSimpArgs false
set_option linter.unusedVariables false

/-- A region with a lane and pages that are whole; page p's slot 0. -/
def LeftP (d : Ds) (r k p : Nat) (t : ByteArray) : Prop :=
  ∃ (l : Ln) (gr : Rg) (all : List Rc) (s : Nat) (D : Nat → Pg), DIs d r gr k ∧ Lv gr 538 l all s ∧ l.r = r ∧ d.size = 538 ∧ l.gen = 1 ∧ gr.armed = false ∧ (∀ m, m < 6 → DecP (pgB gr.base m 4) r m (D m) 0 ∧ (D m).mark < lim 1 (all.take s)) ∧ (D p).ten = r ∧ (D p).s 0 = t
section
variable {w w' : World} {X Y : Nat → Prop} {dg : Nat} {d d' : Ds} {g q r r' k k' p s : Nat} {all : List Rc} {P P' : Po} {D D' : Nat → Pg} {x : Option Nat} {t : ByteArray} {B : List Sec}
theorem LeftP.other (h : LeftP d r k p t) (ha : ApartP d d' r') (hne : r ≠ r') (hs : Small d' k') : LeftP d' r k' p t := by
  obtain ⟨l, gr, all, s, D, h1, h2, h3, h4, h5, h6, h7, h8, h9⟩ := h
  exact ⟨l, gr, all, s, D, ⟨(ha.2 r hne).trans h1.at_, by rw [ha.1]; exact h1.size, by rw [ha.1]; exact h1.fit, hs⟩, h2, h3, ha.1.trans h4, h5, h6, h7, h8, h9⟩
theorem LeftP.small (h : LeftP d r k p t) : Small d k := by
  obtain ⟨l, gr, all, s, D, h1, _⟩ := h
  exact h1.small
theorem PoolT.many (h : PoolT w X dg d g q r k 1 all s P D x) : Many w X [(dg, d)] := by
  obtain ⟨l, kv, gr, h1, _⟩ := h
  exact h1.ln.many.more (Below.refl _ _) (fun k hk => .inl (.inl (.inl hk)))
theorem PoolT.left (h : PoolT w X dg d g q r k 1 all s P D x) (h1 : (D p).ten = r) (h2 : (D p).s 0 = t) : LeftP d r k p t := by
  obtain ⟨l, kv, gr, a1, a2, a3, a4, a5, a6, a7, a8, a9⟩ := h
  exact ⟨l, gr, all, s, D, a2, a3, a4, a6, a7, a8, a9.on, h1, h2⟩
/-- The page as the disk has it. -/
theorem left_kept (h : LeftP d 0 k p t) (hm : Many w X [(dg, d)]) (hp : p < 6) :
    Calls Try.prog 18 #[.pointer (some ⟨dg, 0, none⟩), .int .i64 (p : Int)] w fun e w' => ∃ y : Pg, e = .returned (.tuple #[y.val, .bool true]) ∧ y.s 0 = t ∧ Below w.heap.size w w' := by
  obtain ⟨l, gr, all, s, D, h1, h2, h3, h4, h5, h6, h7, h8, h9⟩ := h
  have hD := h7 p hp
  refine (kept_any hm h1 (by omega) p hp).mono ?_
  rw [h2.secs]
  rintro e w' ⟨y, e', rfl, hy, hb⟩
  rcases id hy with ⟨rfl, _⟩ | ⟨rfl, _, hno⟩
  · have hv := DecP.same (by omega) (by omega) hy hD.1
    exact ⟨y, rfl, by rw [(pg_of_val hv).2.2.2 0 (by omega)]; exact h9, hb⟩
  · obtain ⟨g1, g2, g3, g4, _⟩ := DecP.good (by omega) (by omega) hD.1
    exact absurd g4 (hno (D p) g1 g2 g3)
/-- A lane that is up, as one that a crash left. -/
theorem Lv.cr0 {gr : Rg} {n : Nat} {l : Ln} (h : Lv gr n l all s) : Cr gr n l.r l.bank l.gen (frsR ((all.take s).take s)) (frsR (all.take s)) := by
  refine ⟨h.fit, h.size, h.quiet, h.lf.bank, ⟨h.gen1, h.lf.gen⟩, h.head, ?_, ?_, ?_⟩
  · rw [List.take_take, Nat.min_self]
    exact h.holds.mixed
  · rw [List.take_take, Nat.min_self]
    exact List.prefix_refl _
  · have h1 := h.lf.len
    rw [h.len] at h1
    have := (frsR_take all s).length_le
    omega
/-- A lane opened over it. -/
def OpenP (w : World) (X : Nat → Prop) (dg : Nat) (d : Ds) (g r p : Nat) (t : ByteArray) : Prop :=
  ∃ (k : Nat) (all : List Rc) (s : Nat) (B : List Sec) (D : Nat → Pg), LaneP w X dg d g r k 1 all s B ∧ k ≤ 400000 ∧ (∀ m, m < 6 → DecP (pgB B m 4) r m (D m) 0 ∧ (D m).mark < lim 1 (all.take s)) ∧ (D p).ten = r ∧ (D p).s 0 = t
theorem left_open (h : LeftP d r k p t) (hm : Many w X [(dg, d)]) (hr : r < 64) (hk : k ≤ 300000) :
    Calls Try.prog 17 #[.pointer (some ⟨dg, 0, none⟩), .int .i64 (r : Int)] w fun e w' => ∃ g v, e = .returned (.tuple #[.pointer (some ⟨g, 0, none⟩), v, .int .i64 0]) ∧ (∃ d', OpenP w' X dg d' g r p t) ∧ Out X w w' := by
  obtain ⟨l, gr, all, s, D, h1, h2, h3, h4, h5, h6, h7, h8, h9⟩ := h
  subst h3
  have hsl : (all.take s).length = s := by rw [List.length_take]; have := h2.sle; omega
  have hc := h2.cr0
  rw [h5] at hc
  refine (open_lane (all := all.take s) (s := s) hm hr h1 (by omega) h4 h6 (fun c hc => h2.ok c (List.mem_of_mem_take hc)) (by omega) hc).mono ?_
  rintro e w' ⟨g, v, E, j, d2, rfl, hj1, hj2, _, hl, ho⟩
  obtain rfl : j = s := by omega
  refine ⟨g, v, rfl, ⟨d2, k + 700, _, _, _, D, hl, by omega, ?_, h8, h9⟩, ho⟩
  rw [List.take_take, Nat.min_self, List.take_take, Nat.min_self]
  exact h7
/-- A pool opened beside that. -/
def OpenQ (w : World) (X : Nat → Prop) (dg : Nat) (d : Ds) (g q r p : Nat) (t : ByteArray) : Prop :=
  ∃ (k : Nat) (all : List Rc) (s : Nat) (D : Nat → Pg), k ≤ 400000 ∧ PoolT w X dg d g q r k 1 all s (Po.new r) D none ∧ (D p).ten = r ∧ (D p).s 0 = t
theorem OpenQ.below (h : OpenQ w X dg d g q r p t) (hb : Below w.heap.size w w') : OpenQ w' X dg d g q r p t := by
  obtain ⟨k, all, s, D, h1, h2, h3⟩ := h
  exact ⟨k, all, s, D, h1, h2.below hb, h3⟩
theorem OpenP.below (h : OpenP w X dg d g r p t) (hb : Below w.heap.size w w') : OpenP w' X dg d g r p t := by
  obtain ⟨k, all, s, B, D, ⟨l, kv, gr, h1, h2⟩, h3⟩ := h
  exact ⟨k, all, s, B, D, ⟨l, kv, gr, h1.below hb, h2⟩, h3⟩
theorem open_pool (h : OpenP w X dg d g r p t) :
    Calls Try.prog 11 #[.pointer (some ⟨dg, 0, none⟩), .int .i64 (r : Int), .pointer (some ⟨g, 0, none⟩)] w fun e w' => ∃ q, e = .returned (.pointer (some ⟨q, 0, none⟩)) ∧ OpenQ w' X dg d g q r p t ∧ Below w.heap.size w w' := by
  obtain ⟨k, all, s, B, D, h1, h2, h3, h4⟩ := h
  refine (start_pool h1 h3).mono ?_
  rintro e w' ⟨q, rfl, hp, hb⟩
  exact ⟨q, rfl, ⟨k, all, s, D, h2, hp, h4⟩, hb⟩
theorem open_get (h : OpenQ w X dg d g q r p t) (hp : p < 6) :
    Calls Try.prog 12 #[.pointer (some ⟨q, 0, none⟩), .int .i64 (p : Int)] w fun e w' => ∃ b, e = .returned (.tuple #[.pointer (some ⟨b, 0, none⟩), .int .i64 0]) ∧ (∃ y, PgB w' b y ∧ y.ten = r ∧ y.s 0 = t) ∧ Out X w w' := by
  obtain ⟨k, all, s, D, h1, h2, h3, h4⟩ := h
  refine (po_get h2 (by omega) hp).mono ?_
  rintro e w' ⟨b, z, P', D', s', d', rfl, hz, hb, hn, hG, _, hT, ho⟩
  have hv : (P'.f z).pg.val = (D p).val := by
    rw [← hT.cont_at hz hb hn, hG.cont p hp]
    rfl
  obtain ⟨_, v2, _, v4⟩ := pg_of_val hv
  exact ⟨b, rfl, ⟨_, (hT.at_ hz hb).1, v2.trans h3, (v4 0 (by omega)).trans h4⟩, ho⟩
theorem left_open1 (h : LeftP d 1 k p t) (hm : Many w X [(dg, d)]) (hk : k ≤ 300000) :
    Calls Try.prog 17 #[.pointer (some ⟨dg, 0, none⟩), .int .i64 1] w fun e w' => ∃ g v, e = .returned (.tuple #[.pointer (some ⟨g, 0, none⟩), v, .int .i64 0]) ∧ (∃ d', OpenP w' X dg d' g 1 p t) ∧ Out X w w' := left_open (r := 1) h hm (by omega) hk
theorem open_pool1 (h : OpenP w X dg d g 1 p t) :
    Calls Try.prog 11 #[.pointer (some ⟨dg, 0, none⟩), .int .i64 1, .pointer (some ⟨g, 0, none⟩)] w fun e w' => ∃ v, e = .returned v ∧ (∃ q, v = .pointer (some ⟨q, 0, none⟩) ∧ OpenQ w' X dg d g q 1 p t) ∧ Below w.heap.size w w' := (open_pool (r := 1) h).mono (fun e w' ⟨q, h1, h2, h3⟩ => ⟨_, h1, ⟨q, rfl, h2⟩, h3⟩)
def Say.openq (X : Nat → Prop) (dg : Nat) (d : Ds) (g r p : Nat) (t : ByteArray) : Say := ⟨fun w v => ∃ q, v = .pointer (some ⟨q, 0, none⟩) ∧ OpenQ w X dg d g q r p t, fun _ _ _ ⟨q, e, h⟩ hb => ⟨q, e, h.below hb⟩⟩
end
/-- A part of a tuple. -/
def tupPart (v : Value) (n : Nat) : Value := match v with | .tuple a => a.getD n undef | _ => undef
theorem disk_new2 (w : World) : Calls Try.prog 9 #[.int .i64 2, .int .i64 538] w fun e w' => ∃ dg d, e = .returned (.pointer (some ⟨dg, 0, none⟩)) ∧ Many w' (fun k => k < w.heap.size) [(dg, d)] ∧ DIs d 0 (Rg.new 538) 0 ∧ DIs d 1 (Rg.new 538) 0 ∧ d.size = 538 ∧ Below w.heap.size w w' := by
  refine (new_many (X := fun k => k < w.heap.size) (Many.nil (fun k hk => hk)) 2 538 (by omega) (by omega) (by omega) (by omega)).mono ?_
  rintro e w' ⟨dg, rfl, hm, hb⟩
  exact ⟨dg, _, rfl, hm, ⟨rfl, by show 514 ≤ 538; omega, Rg.new_fit 538, Small.new 2 538⟩, ⟨rfl, by show 514 ≤ 538; omega, Rg.new_fit 538, Small.new 2 538⟩, rfl, hb⟩
/-- The variables that the closure shares, and its own row. -/
structure Cap (w : World) (X : Nat → Prop) (dg p bx bn br : Nat) (t : Int) (k u : ByteArray) : Prop where
  x : Blk w bx 25 #[.pointer (some ⟨dg, 0, none⟩)]
  n : Blk w bn 3 #[.int .i64 (p : Int)]
  r : Blk w br 34 #[.int .i64 t, .string k, .string u]
  xx : X bx
  xn : X bn
  xr : X br
section
variable {w w' : World} {X : Nat → Prop} {dg p bx bn br : Nat} {t : Int} {k u : ByteArray}
theorem Cap.out (h : Cap w X dg p bx bn br t k u) (ho : Out X w w') : Cap w' X dg p bx bn br t k u := ⟨ho.blk h.x h.xx, ho.blk h.n h.xn, ho.blk h.r h.xr, h.xx, h.xn, h.xr⟩
theorem Cap.cells (h : Cap w X dg p bx bn br t k u) : w.cell? ⟨bx, 0, none⟩ = some (.pointer (some ⟨dg, 0, none⟩)) ∧ w.cell? ⟨bn, 0, none⟩ = some (.int .i64 (p : Int)) ∧ w.cell? ⟨br, 0, none⟩ = some (.int .i64 t) ∧ w.cell? ⟨br, 1, none⟩ = some (.string k) ∧ w.cell? ⟨br, 2, none⟩ = some (.string u) :=
  ⟨h.x.cell 0 _ rfl, h.n.cell 0 _ rfl, h.r.three⟩
end
set_option maxHeartbeats 8000000 in
/-- The closure: lane, pool, a page's slot 0 filled, and flushed. -/
theorem closure_any {w : World} {X : Nat → Prop} {dg : Nat} {d : Ds} {r kk p bx bn : Nat} {t : Int} {k u : ByteArray} {L : List UInt8} (hm : Many w X [(dg, d)]) (hd : DIs d r (Rg.new 538) kk) (hdn : d.size = 538) (hr : r < 64) (hkk : kk ≤ 100000) (hp : p < 6)
    (cx : Blk w bx 25 #[.pointer (some ⟨dg, 0, none⟩)]) (xx : X bx) (cn : Blk w bn 3 #[.int .i64 (p : Int)]) (xn : X bn) (hrow : rowOkB t k u = true) (hL : rowL t k u = L) :
    Calls Try.prog 27 #[.int .i64 (r : Int), .agg #[.int .i64 t, .string k, .string u], .pointer (some ⟨bx, 0, none⟩), .pointer (some ⟨bn, 0, none⟩)] w fun e w' => e = .returned (.bool true) ∧ (∃ d', Many w' X [(dg, d')] ∧ ApartP d d' r ∧ LeftP d' r (kk + 1320) p ⟨L.toArray⟩) ∧ Out X w w' := by
  have hb0 := (Below.refl w.heap.size w).alloc (Nat.le_refl _) (.cells #[.int .i64 t, .string k, .string u] 34)
  have hm0 : Many (w.alloc (.cells #[.int .i64 t, .string k, .string u] 34)) (fun k => X k ∨ k = w.heap.size) [(dg, d)] := hm.more hb0 (by rintro k (h1 | rfl); exact .inl h1; exact .inr ⟨Nat.le_refl _, by simp⟩)
  have hc0 : Cap (w.alloc (.cells #[.int .i64 t, .string k, .string u] 34)) (fun k => X k ∨ k = w.heap.size) dg p bx bn w.heap.size t k u := ⟨cx.below hb0, cn.below hb0, Blk.new_ w #[.int .i64 t, .string k, .string u] 34 rfl, .inl xx, .inl xn, .inr rfl⟩
  have hln := start_lane hm0 hr hd hdn (by omega)
  have B0 := hide hb0
  have C0 := hide hc0
  have HP6 := hide hp
  have HR := hide hrow
  have HL := hide hL
  have HOK := hide (show okB ⟨L.toArray⟩ = true by rw [← hL]; exact rowL_ok hrow)
  obtain ⟨q1, q2, q3, q4, q5⟩ := C0.out.cells
  have hl0 := frs_check
  have HLM := hide (lim_lt (gen := 1) (all := [checkR]) (by omega) (by rw [hl0]; omega))
  clear hm0 hb0 hc0 hm hd hdn cx cn xx xn hrow hL hp
  go_enter Try.func27, Try.ntmps27
  go_wp2_with (first
    | (go_at_call 10; ((with_reducible refine hln.mono ?_); rintro e w2 ⟨g, d2, rfl, ha2, hv2, ho2⟩; have A2 := hide ha2; have O2 := hide ho2; have C2 := hide (C0.out.out ho2); have hpn := start_pool hv2 (fun m hm => zero_pages r m hm _ (lim_pos _ _)); clear hv2 ho2 ha2 hln; obtain ⟨q1, q2, q3, q4, q5⟩ := C2.out.cells))
    | (go_at_call 11; ((with_reducible refine hpn.mono ?_); rintro e w3 ⟨q, rfl, hp3, hb3⟩; have O3 := hide (O2.out.trans (Out.of_below hb3)); have C3 := hide (C2.out.out (Out.of_below hb3)); have hgt := po_get hp3 (by omega) HP6.out; clear hp3 hb3 hpn; obtain ⟨q1, q2, q3, q4, q5⟩ := C3.out.cells))
    | (go_at_call 12; ((with_reducible refine hgt.mono ?_); rintro e w4 ⟨bp, z, P4, D4, s4, d4, rfl, hz4, hb4, hn4, hG4, ha4, hp4, ho4⟩; have A4 := hide (A2.out.trans ha4); have O4 := hide (O3.out.trans ho4); have C4 := hide (C3.out.out ho4); have HB4 := hide hb4; have HN4 := hide hn4; have V4 := hide (got_new hG4 hp4 HP6.out hz4 hb4 hn4); have hap := po_upd hp4 HP6.out (by rw [hl0]; omega); clear hb4 hn4 hG4 hp4 ho4 ha4 hgt; obtain ⟨q1, q2, q3, q4, q5⟩ := C4.out.cells))
    | (go_at_call 13; ((with_reducible refine hap.mono ?_); rintro e w5 ⟨rfl, hp5, ho5⟩; have O5 := hide (O4.out.trans ho5); have C5 := hide (C4.out.out ho5); have T5 := hide hp5; have hen := row_str HR.out HL.out w5; clear hp5 ho5 hap; obtain ⟨q1, q2, q3, q4, q5⟩ := C5.out.cells))
    | (go_at_call 24; ((with_reducible refine hen.mono ?_); rintro e w6 ⟨A6, c6, rfl, hcv, hb6⟩; have O6 := hide (O5.out.trans (Out.of_below hb6)); have C6 := hide (C5.out.out (Out.of_below hb6)); have hst := po_set0 (T5.out.below hb6) hz4 HB4.out _ HOK.out; clear hb6 hen))
    | (go_at_call 23; ((with_reducible refine hst.mono ?_); rintro e w7 ⟨rfl, hp7, ho7⟩; have O7 := hide (O6.out.trans ho7); have C7 := hide (C6.out.out ho7); have htc := po_touched hp7 hz4 HB4.out HN4.out (lim_pos 1 [checkR]) (lim_app 1 [checkR] _) HLM.out; clear hp7 ho7 hst hcv; obtain ⟨q1, q2, q3, q4, q5⟩ := C7.out.cells))
    | (go_at_call 14; ((with_reducible refine htc.mono ?_); rintro e w8 ⟨rfl, ⟨P8, hp8, hb8, hn8, hg8, _⟩, ho8⟩; have O8 := hide (O7.out.trans ho8); have C8 := hide (C7.out.out ho8); have V8 := hide (show (cont P8 D4 p).val = (pgY (lim 1 [checkR]) r p 0 ⟨L.toArray⟩).val by rw [hp8.cont_at hz4 hb8 hn8, hg8]; exact val_one V4.out); have hfl := po_flush hp8 (by omega) HP6.out; clear hp8 hb8 hn8 hg8 ho8 htc; obtain ⟨q1, q2, q3, q4, q5⟩ := C8.out.cells))
    | (go_at_call 15; ((with_reducible refine hfl.mono ?_); rintro e w9 ⟨P9, D9, s9, d9, rfl, hF9, ha9, hp9, ho9⟩; have A9 := hide (A4.out.trans ha9); have O9 := hide (O8.out.trans ho9); have T9 := hide hp9; have hv9 := pg_of_val (hF9.disk.trans V8.out); have U9 := hide hv9.2.1; have S9 := hide (hv9.2.2.2 0 (by omega)); clear hF9 hp9 ho9 ha9 hv9 hfl)))
  go_ret
  exact ⟨rfl, ⟨d9, T9.out.many.more (Below.refl _ _) (fun k hk => .inl (.inl hk)), A9.out, T9.out.left U9.out S9.out⟩, (Out.of_below B0.out).trans (O9.out.less (fun k hk => .inl hk))⟩
theorem closure_zero {w : World} {X : Nat → Prop} {dg : Nat} {d : Ds} {kk p bx bn : Nat} {t : Int} {k u : ByteArray} {L : List UInt8} (hm : Many w X [(dg, d)]) (hd : DIs d 0 (Rg.new 538) kk) (hdn : d.size = 538) (hkk : kk ≤ 100000) (hp : p < 6)
    (cx : Blk w bx 25 #[.pointer (some ⟨dg, 0, none⟩)]) (xx : X bx) (cn : Blk w bn 3 #[.int .i64 (p : Int)]) (xn : X bn) (hrow : rowOkB t k u = true) (hL : rowL t k u = L) :
    Calls Try.prog 27 #[.int .i64 0, .agg #[.int .i64 t, .string k, .string u], .pointer (some ⟨bx, 0, none⟩), .pointer (some ⟨bn, 0, none⟩)] w fun e w' => e = .returned (.bool true) ∧ (∃ d', Many w' X [(dg, d')] ∧ ApartP d d' 0 ∧ LeftP d' 0 (kk + 1320) p ⟨L.toArray⟩) ∧ Out X w w' := closure_any (r := 0) hm hd hdn (by omega) hkk hp cx xx cn xn hrow hL
theorem closure_one {w : World} {X : Nat → Prop} {dg : Nat} {d : Ds} {kk p bx bn : Nat} {t : Int} {k u : ByteArray} {L : List UInt8} (hm : Many w X [(dg, d)]) (hd : DIs d 1 (Rg.new 538) kk) (hdn : d.size = 538) (hkk : kk ≤ 100000) (hp : p < 6)
    (cx : Blk w bx 25 #[.pointer (some ⟨dg, 0, none⟩)]) (xx : X bx) (cn : Blk w bn 3 #[.int .i64 (p : Int)]) (xn : X bn) (hrow : rowOkB t k u = true) (hL : rowL t k u = L) :
    Calls Try.prog 27 #[.int .i64 1, .agg #[.int .i64 t, .string k, .string u], .pointer (some ⟨bx, 0, none⟩), .pointer (some ⟨bn, 0, none⟩)] w fun e w' => e = .returned (.bool true) ∧ (∃ d', Many w' X [(dg, d')] ∧ ApartP d d' 1 ∧ LeftP d' 1 (kk + 1320) p ⟨L.toArray⟩) ∧ Out X w w' := closure_any (r := 1) hm hd hdn (by omega) hkk hp cx xx cn xn hrow hL
/-- The disk's other region, behind the first closure's call. -/
theorem second {d d' : Ds} {k k' p : Nat} {t : ByteArray} (h : DIs d 1 (Rg.new 538) k) (ha : ApartP d d' 0) (hl : LeftP d' 0 k' p t) : DIs d' 1 (Rg.new 538) k' :=
  ⟨(ha.2 1 (by omega)).trans h.at_, by rw [ha.1]; exact h.size, by rw [ha.1]; exact h.fit, hl.small⟩
end Go.Proofs.Ytkdcnddagebjpaa
