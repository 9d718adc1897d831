/-
  Seeds in a slice, boxed records, slices of two and of three records: for the walks of stage 7.
-/
import Derived.Test.YtlmoiepbnnfebaaSeq
import Derived.Test.YtlmoiepbnnfebaaGens
namespace Go.Proofs.Ytlmoiepbnnfebaa
open Go.RowKit
set_option maxRecDepth 20000
set_option linter.unusedSimpArgs false
set_option linter.unusedVariables false

theorem infoSeed : (Try.prog.info? 36).map (·.size) = some 8 := by kernel_rfl
theorem SeedRow.us {w : World} {B : Nat} {v : Value} {cs : List SeedD} (h : SeedRow w B v cs) : ∀ x ∈ cs, ∀ y ∈ x.ds, y < 18446744073709551616 := by
  obtain ⟨A, c, _, _, h2⟩ := h
  exact fun x hx => (h2 x hx).u
/-- What is to be known of seed k. -/
theorem seed_at {w wr : World} {B k : Nat} {v : Value} {cs : List SeedD} (hv : SeedRow w B v cs) (hb : Below B w wr) (hk : k < cs.length) : ∃ b o cap, v = .slice (some ⟨b, o, none⟩) cs.length cap ∧ ∃ A n c, cs[k].ds.length = n ∧
    wr.rangeAt b (o + k * 8) [.int .i64 cs[k].k, .int .i64 cs[k].t, .int .i64 cs[k].p, .int .i64 cs[k].s, .int .u8 (cs[k].b.toNat : Int), .int .u8 (cs[k].a.toNat : Int), .int .u8 (cs[k].i.toNat : Int), .slice A n c] ∧ Row wr B (.slice A n c) (u64s cs[k].ds) := by
  obtain ⟨A0, cap, rfl, hcells, hall⟩ := hv
  obtain ⟨b, o, rfl, hbB, hcell⟩ := hcells (by omega)
  have hf := hall cs[k] (List.getElem_mem hk)
  refine ⟨b, o, cap, rfl, ?_⟩
  have hc := hcell k cs[k] (List.getElem?_eq_getElem hk)
  obtain ⟨A, c, he, h1, h2⟩ := id hf.row
  refine ⟨A, _, c, rfl, fun j u hu => ?_, ?_⟩
  · refine (hb.cell (p := ⟨b, o + k * 8 + j, none⟩) hbB).trans (hc j u ?_)
    unfold SeedD.cells
    rw [he, u64s_length]
    exact hu
  · have := hf.row.below hb
    rw [he, u64s_length] at this
    exact this
theorem frs_le {l : List Rc} {n : Nat} (h : ∀ r ∈ l, r.Ok) (hn : l.length ≤ n) : (frsR l).length ≤ 395 * n := Nat.le_trans (frsR_length_le l h) (Nat.mul_le_mul_left _ hn)
theorem frs_two (r q : Rc) : (frsR [r, q]).length = r.frame.length + q.frame.length := by rw [frsR_cons, frsR_one, List.length_append]
theorem frs_three (r q s : Rc) : (frsR [r, q, s]).length = r.frame.length + q.frame.length + s.frame.length := by rw [frsR_cons, frsR_cons, frsR_one, List.length_append, List.length_append, Nat.add_assoc]
theorem lay_two (L c1 c2 : List Value) (n : Nat) (h1 : c1.length = n) (h2 : c2.length = n) (hL : L.length = 2 * n) : lay (lay L 0 c1) n c2 = c1 ++ c2 := by
  subst h1
  simp only [lay, List.take_zero, List.nil_append, Nat.zero_add, List.take_left]
  have : List.drop (c1.length + c2.length) (c1 ++ List.drop c1.length L) = [] := List.drop_eq_nil_of_le (by rw [List.length_append, List.length_drop]; omega)
  rw [this, List.append_nil]
theorem lay_three (L c1 c2 c3 : List Value) (n : Nat) (h1 : c1.length = n) (h2 : c2.length = n) (h3 : c3.length = n) (hL : L.length = 3 * n) : lay (lay (lay L 0 c1) n c2) (n * 2) c3 = c1 ++ (c2 ++ c3) := by
  subst h1
  have e1 : lay (lay L 0 c1) c1.length c2 = (c1 ++ c2) ++ L.drop (c1.length * 2) := by
    simp only [lay, List.take_zero, List.nil_append, Nat.zero_add, List.take_left]
    have : List.drop (c1.length + c2.length) (c1 ++ List.drop c1.length L) = List.drop (c1.length * 2) L := by
      rw [← List.drop_drop, List.drop_left, List.drop_drop]
      congr 1
      omega
    rw [this, List.append_assoc]
  rw [e1]
  have e2 : c1.length * 2 = (c1 ++ c2).length := by rw [List.length_append]; omega
  unfold lay
  rw [e2, List.take_left]
  have : List.drop ((c1 ++ c2).length + c3.length) (c1 ++ c2 ++ List.drop (c1 ++ c2).length L) = [] := List.drop_eq_nil_of_le (by simp only [List.length_append, List.length_drop]; omega)
  rw [this, List.append_nil, List.append_assoc]
/-- A slice of two elements, whole. -/
theorem run_slice_two {P : Program} (w : World) (t e : TypeId) (c1 c2 z : Array Value) (size bytes : Nat) (hu : P.underlying t = some (.slice e)) (hinfo : (P.info? e).map (fun i => (i.zero, i.size, i.bytes)) = some (some (.agg z), size, bytes))
    (hz : z.size = size) (h1 : c1.size = size) (h2 : c2.size = size) (hsmall : size ≤ 1000000) (hpos : 0 < size) :
    (Instr.buildSlice t 2 #[(0, .agg c1), (1, .agg c2)]).run P w = .ok (.slice (some ⟨w.heap.size, 0, none⟩) 2 2) (w.alloc (.cells (c1.toList ++ c2.toList).toArray e)) := by
  cases hq : P.info? e with
  | none => simp [hq] at hinfo
  | some i =>
    simp only [hq, Option.map_some, Option.some.injEq, Prod.mk.injEq] at hinfo
    obtain ⟨hzz, hs, _⟩ := hinfo
    refine run_buildSlice w t e 2 _ (c1.toList ++ c2.toList).toArray i (.agg z) hu hq hzz (by rw [hs]; omega) (by rw [hs]; omega) ?_
    show Instr.fill _ _ [(0, .agg c1), (1, .agg c2)] = _
    refine (fill_step (v := .agg c1) (off := 0) (size := size) (by simp [hs]) h1 (by simp [hs]; omega)).trans ?_
    refine (fill_step (v := .agg c2) (off := size) (size := size) (by simp [hs]) h2 (by simp [lay, hs]; omega)).trans ?_
    rw [fill_done]
    exact congrArg (fun l : List Value => some l.toArray) (lay_two _ c1.toList c2.toList size h1 h2 (by simp [hs]))
theorem run_slice_three {P : Program} (w : World) (t e : TypeId) (c1 c2 c3 z : Array Value) (size bytes : Nat) (hu : P.underlying t = some (.slice e)) (hinfo : (P.info? e).map (fun i => (i.zero, i.size, i.bytes)) = some (some (.agg z), size, bytes))
    (hz : z.size = size) (h1 : c1.size = size) (h2 : c2.size = size) (h3 : c3.size = size) (hsmall : size ≤ 1000000) (hpos : 0 < size) :
    (Instr.buildSlice t 3 #[(0, .agg c1), (1, .agg c2), (2, .agg c3)]).run P w = .ok (.slice (some ⟨w.heap.size, 0, none⟩) 3 3) (w.alloc (.cells (c1.toList ++ (c2.toList ++ c3.toList)).toArray e)) := by
  cases hq : P.info? e with
  | none => simp [hq] at hinfo
  | some i =>
    simp only [hq, Option.map_some, Option.some.injEq, Prod.mk.injEq] at hinfo
    obtain ⟨hzz, hs, _⟩ := hinfo
    refine run_buildSlice w t e 3 _ (c1.toList ++ (c2.toList ++ c3.toList)).toArray i (.agg z) hu hq hzz (by rw [hs]; omega) (by rw [hs]; omega) ?_
    show Instr.fill _ _ [(0, .agg c1), (1, .agg c2), (2, .agg c3)] = _
    refine (fill_step (v := .agg c1) (off := 0) (size := size) (by simp [hs]) h1 (by simp [hs]; omega)).trans ?_
    refine (fill_step (v := .agg c2) (off := size) (size := size) (by simp [hs]) h2 (by simp [lay, hs]; omega)).trans ?_
    refine (fill_step (v := .agg c3) (off := size * 2) (size := size) (by simp [hs]; omega) h3 (by simp [lay, hs]; omega)).trans ?_
    rw [fill_done]
    exact congrArg (fun l : List Value => some l.toArray) (lay_three _ c1.toList c2.toList c3.toList size h1 h2 h3 (by simp [hs]))
theorem rcv_length (r : Rc) (D : Value) : (rcv r D).length = 8 := rfl
/-- Records side by side in a new block. -/
theorem recs_two {w : World} {r q : Rc} {D E : Value} {cs : Array Value} (hc : cs.toList = rcv r D ++ rcv q E) (hD : RIn (w.alloc (.cells cs 33)) (fun _ => True) D (u64s r.ds)) (hE : RIn (w.alloc (.cells cs 33)) (fun _ => True) E (u64s q.ds)) :
    RecsAt (w.alloc (.cells cs 33)) (fun _ => True) (.slice (some ⟨w.heap.size, 0, none⟩) 2 2) [r, q] := by
  refine ⟨_, _, rfl, Nat.le_refl _, fun _ => ⟨_, _, rfl, by simp, trivial, fun j x hj => ?_⟩⟩
  match j, hj with
  | 0, hj =>
    obtain rfl : r = x := by simpa using hj
    refine ⟨D, fun i u hu => ?_, hD⟩
    refine (Blk.new_ w cs _ rfl).cell _ u ?_
    rw [← Array.getElem?_toList, hc, Nat.zero_mul, Nat.zero_add]
    have hi := (List.getElem?_eq_some_iff.1 hu).1
    rw [List.getElem?_append_left hi]
    exact hu
  | 1, hj =>
    obtain rfl : q = x := by simpa using hj
    refine ⟨E, fun i u hu => ?_, hE⟩
    refine (Blk.new_ w cs _ rfl).cell _ u ?_
    rw [← Array.getElem?_toList, hc, Nat.one_mul, Nat.zero_add, List.getElem?_append_right (by rw [rcv_length]; omega), rcv_length, Nat.add_sub_cancel_left]
    exact hu
  | j + 2, hj => simp at hj
theorem recs_three {w : World} {r q s : Rc} {D E F : Value} {cs : Array Value} (hc : cs.toList = rcv r D ++ (rcv q E ++ rcv s F)) (hD : RIn (w.alloc (.cells cs 33)) (fun _ => True) D (u64s r.ds)) (hE : RIn (w.alloc (.cells cs 33)) (fun _ => True) E (u64s q.ds)) (hF : RIn (w.alloc (.cells cs 33)) (fun _ => True) F (u64s s.ds)) :
    RecsAt (w.alloc (.cells cs 33)) (fun _ => True) (.slice (some ⟨w.heap.size, 0, none⟩) 3 3) [r, q, s] := by
  refine ⟨_, _, rfl, Nat.le_refl _, fun _ => ⟨_, _, rfl, by simp, trivial, fun j x hj => ?_⟩⟩
  match j, hj with
  | 0, hj =>
    obtain rfl : r = x := by simpa using hj
    refine ⟨D, fun i u hu => ?_, hD⟩
    refine (Blk.new_ w cs _ rfl).cell _ u ?_
    rw [← Array.getElem?_toList, hc, Nat.zero_mul, Nat.zero_add]
    have hi := (List.getElem?_eq_some_iff.1 hu).1
    rw [List.getElem?_append_left hi]
    exact hu
  | 1, hj =>
    obtain rfl : q = x := by simpa using hj
    refine ⟨E, fun i u hu => ?_, hE⟩
    refine (Blk.new_ w cs _ rfl).cell _ u ?_
    have hi := (List.getElem?_eq_some_iff.1 hu).1
    rw [← Array.getElem?_toList, hc, Nat.one_mul, Nat.zero_add, List.getElem?_append_right (by rw [rcv_length]; omega), rcv_length, Nat.add_sub_cancel_left, List.getElem?_append_left hi]
    exact hu
  | 2, hj =>
    obtain rfl : s = x := by simpa using hj
    refine ⟨F, fun i u hu => ?_, hF⟩
    refine (Blk.new_ w cs _ rfl).cell _ u ?_
    rw [← Array.getElem?_toList, hc, Nat.zero_add, List.getElem?_append_right (by rw [rcv_length]; omega), rcv_length, List.getElem?_append_right (by rw [rcv_length]; omega), rcv_length, show 2 * 8 + i - 8 - 8 = i by omega]
    exact hu
  | j + 3, hj => simp at hj
theorem below_new (w : World) (o : Obj) : Below w.heap.size w (w.alloc o) := (Below.refl _ _).alloc (Nat.le_refl _) o
/-- X and what came between two sizes. -/
def Ext (X : Nat → Prop) (lo hi : Nat) : Nat → Prop := fun k => X k ∨ (lo ≤ k ∧ k < hi)
/-- A boxed record, its block and its Dirty's in Y. -/
structure RBox (w : World) (Y : Nat → Prop) (g : Nat) (r : Rc) (A : Option Addr) (c : Nat) : Prop where
  blk : Blk w g 33 #[.int .i64 (r.k : Int), .int .i64 (r.t : Int), .int .i64 (r.p : Int), .int .i64 (r.s : Int), .string r.b, .string r.a, .string r.i, .slice A r.ds.length c]
  has : Y g
  ds : RIn w Y (.slice A r.ds.length c) (u64s r.ds)
section
variable {w w' : World} {Y : Nat → Prop} {g c : Nat} {r : Rc} {A : Option Addr}
theorem RBox.out (h : RBox w Y g r A c) (ho : Out Y w w') : RBox w' Y g r A c := ⟨ho.blk h.blk h.has, h.has, h.ds.keep (fun p hp hx => Kept.cell ho hp (fun hn => hn hx)) ho.size (fun _ _ h => h)⟩
theorem RBox.below (h : RBox w Y g r A c) (hb : Below w.heap.size w w') : RBox w' Y g r A c := h.out (Out.of_below hb)
theorem RBox.rng (h : RBox w Y g r A c) : w.rangeAt g 0 [.int .i64 (r.k : Int), .int .i64 (r.t : Int), .int .i64 (r.p : Int), .int .i64 (r.s : Int), .string r.b, .string r.a, .string r.i, .slice A r.ds.length c] := fun j u hu => by
  rw [Nat.zero_add]
  exact h.blk.cell j u (by simpa using hu)
theorem RBox.cells (h : RBox w Y g r A c) : w.cell? ⟨g, 0, none⟩ = some (.int .i64 (r.k : Int)) ∧ w.cell? ⟨g, 1, none⟩ = some (.int .i64 (r.t : Int)) ∧ w.cell? ⟨g, 2, none⟩ = some (.int .i64 (r.p : Int)) ∧ w.cell? ⟨g, 3, none⟩ = some (.int .i64 (r.s : Int)) ∧
    w.cell? ⟨g, 4, none⟩ = some (.string r.b) ∧ w.cell? ⟨g, 5, none⟩ = some (.string r.a) ∧ w.cell? ⟨g, 6, none⟩ = some (.string r.i) ∧ w.cell? ⟨g, 7, none⟩ = some (.slice A r.ds.length c) :=
  ⟨h.blk.cell 0 _ rfl, h.blk.cell 1 _ rfl, h.blk.cell 2 _ rfl, h.blk.cell 3 _ rfl, h.blk.cell 4 _ rfl, h.blk.cell 5 _ rfl, h.blk.cell 6 _ rfl, h.blk.cell 7 _ rfl⟩
theorem RBox.rd (h : RBox w Y g r A c) : Rd w (.slice A r.ds.length c) (u64s r.ds) := h.ds.rd
end
section
variable {wr w5 w6 : World} {X : Nat → Prop} {dg g rr n k gen s c : Nat} {up : Bool} {all : List Rc} {r : Rc} {A : Option Addr}
theorem RBox.new_ (h5 : wr.heap.size ≤ w5.heap.size) (h6 : w5.heap.size ≤ w6.heap.size) (h : RIn w6 (fun k => w5.heap.size ≤ k ∧ k < w6.heap.size) (.slice A r.ds.length c) (u64s r.ds)) : RBox (w6.alloc (.cells #[.int .i64 (r.k : Int), .int .i64 (r.t : Int), .int .i64 (r.p : Int), .int .i64 (r.s : Int), .string r.b, .string r.a, .string r.i, .slice A r.ds.length c] 33)) (Ext X wr.heap.size (w6.heap.size + 1)) w6.heap.size r A c := by
  have hb2 := (Below.refl _ w6).alloc (Nat.le_refl _) (.cells #[.int .i64 (r.k : Int), .int .i64 (r.t : Int), .int .i64 (r.p : Int), .int .i64 (r.s : Int), .string r.b, .string r.a, .string r.i, .slice A r.ds.length c] 33)
  refine ⟨Blk.new_ w6 _ _ rfl, .inr ⟨Nat.le_trans h5 h6, Nat.lt_succ_self _⟩, h.keep (fun p hp _ => hb2.cell hp) hb2.size (fun k _ hk => .inr ⟨Nat.le_trans h5 hk.1, Nat.lt_succ_of_lt hk.2⟩)⟩
theorem Live.box (h : Live wr X dg g rr n k gen up all s) (hb : Below wr.heap.size wr w6) (cr : Array Value) : Live (w6.alloc (.cells cr 33)) (Ext X wr.heap.size (w6.heap.size + 1)) dg g rr n k gen up all s :=
  h.more (hb.alloc hb.size _) (fun k hk => hk.imp id (fun h => ⟨h.1, by simpa using h.2⟩))
theorem Ext.out {lo hi : Nat} {a b : World} (h : Out (Ext X lo hi) a b) : Out X a b := h.less (fun _ hk => .inl hk)
end
section
variable {w w' : World} {X : Nat → Prop} {dg g r n k gen s : Nat} {all : List Rc}
/-- Flush, Anew of a lane whose disk is up. -/
theorem la_flush_up (h : Live w X dg g r n k gen true all s) (hk : k ≤ 400000) : Calls Try.prog 20 #[.pointer (some ⟨g, 0, none⟩)] w fun e w' => e = .returned (.int .i64 0) ∧ Live w' X dg g r n (k + 301) gen true all all.length ∧ Out X w w' := by
  refine (la_flush h hk).mono ?_
  rintro e w' ⟨ok, rfl, h1, h2, _, h3⟩
  have h4 := h1 rfl
  subst h4
  exact ⟨rfl, h2 rfl, h3⟩
theorem la_anew_up {v : Value} {rs : List Rc} {Z : Nat → Prop} (h : Live w X dg g r n k gen true all s) (hk : k ≤ 400000) (hg : gen + 1 ≤ 1000000) (hn : rs.length ≤ 1000) (hv : RecsAt w Z v rs) (hrs : ∀ q ∈ rs, q.Ok) (hl : (frsR rs).length ≤ 14336) :
    Calls Try.prog 21 #[.pointer (some ⟨g, 0, none⟩), v] w fun e w' => e = .returned (.int .i64 0) ∧ Live w' X dg g r n (k + 700) (gen + 1) true rs rs.length ∧ Out X w w' := by
  refine (la_anew h hk hg hn hv hrs hl).mono ?_
  rintro e w' ⟨ok, rfl, h1, h2, _, h3⟩
  have h4 := h1 rfl
  subst h4
  exact ⟨rfl, h2 rfl, h3⟩
/-- What is no record. -/
theorem la_zero {up : Bool} (h : Live w X dg g r n k gen up all s) : Calls Try.prog 17 #[.pointer (some ⟨g, 0, none⟩), .agg #[.int .i64 0, .int .i64 0, .int .i64 0, .int .i64 0, .string ⟨#[]⟩, .string ⟨#[]⟩, .string ⟨#[]⟩, .slice none 0 0]] w fun e w' => e = .returned (.tuple #[.int .u64 0, .int .i64 1]) ∧ Below w.heap.size w w' :=
  la_bad (q := ⟨0, 0, 0, 0, ⟨#[]⟩, ⟨#[]⟩, ⟨#[]⟩, []⟩) (A2 := none) (c2 := 0) h (by decide) (by simp) (Rd.nil_ _ _ _)
theorem la_nine (w : World) (g : Nat) : Calls Try.prog 21 #[.pointer (some ⟨g, 0, none⟩), .slice (some ⟨w.heap.size, 0, none⟩) 1 1] (w.alloc (.cells #[.int .i64 9, .int .i64 0, .int .i64 0, .int .i64 0, .string ⟨#[]⟩, .string ⟨#[]⟩, .string ⟨#[]⟩, .slice none 0 0] 33)) fun e w' => e = .returned (.int .i64 1) ∧ Below w.heap.size w w' := by
  have hrec : RecsAt (w.alloc (.cells #[.int .i64 9, .int .i64 0, .int .i64 0, .int .i64 0, .string ⟨#[]⟩, .string ⟨#[]⟩, .string ⟨#[]⟩, .slice none 0 0] 33)) (fun _ => True) (.slice (some ⟨w.heap.size, 0, none⟩) 1 1) [⟨9, 0, 0, 0, ⟨#[]⟩, ⟨#[]⟩, ⟨#[]⟩, []⟩] := recs_one rfl (rin_nil _ _ _ _)
  refine (la_anew_bad (g := g) (by simp) hrec (fun r hr x hx => by rw [List.mem_singleton] at hr; subst hr; cases hx) (List.mem_singleton.2 rfl) (by decide)).mono ?_
  rintro e w' ⟨h1, h2⟩
  exact ⟨h1, (below_new w _).trans (h2.mono (by simp))⟩
end
end Go.Proofs.Ytlmoiepbnnfebaa
