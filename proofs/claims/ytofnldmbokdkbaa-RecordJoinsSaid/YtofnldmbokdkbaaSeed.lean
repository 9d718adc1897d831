/-
  Contract of what the statements of stage 6 make of a seed: Record.
-/
import Derived.Test.YtofnldmbokdkbaaCell
import Derived.Test.YtofnldmbokdkbaaBoxes
import Derived.Test.YtofnldmbokdkbaaCDecode
namespace Go.Proofs.Ytofnldmbokdkbaa
open Go.RowKit

set_option linter.unusedSimpArgs false
set_option linter.unusedVariables false

theorem exec_alloc_rec {o : Oper} {ac : Act} (ho : o.op = .alloc 28) (w : World) :
    (execOp ac.eval o).run Try.prog w = .ok (.value (.pointer (some ⟨w.heap.size, 0, none⟩))) (w.alloc (.cells #[.int .i64 0, .int .i64 0, .int .i64 0, .int .i64 0, .string ⟨#[]⟩, .string ⟨#[]⟩, .string ⟨#[]⟩, .slice none 0 0] 28)) := by
  unfold execOp
  simp [ho, go_sem]
theorem set8_rec {w : World} {g : Nat} {x0 x1 x2 x3 x4 x5 x6 x7 : Value} (h : Blk w g 28 #[.int .i64 0, .int .i64 0, .int .i64 0, .int .i64 0, .string ⟨#[]⟩, .string ⟨#[]⟩, .string ⟨#[]⟩, .slice none 0 0]) :
    Blk ((((((((w.setCell ⟨g, 0, none⟩ x0).setCell ⟨g, 1, none⟩ x1).setCell ⟨g, 2, none⟩ x2).setCell ⟨g, 3, none⟩ x3).setCell ⟨g, 4, none⟩ x4).setCell ⟨g, 5, none⟩ x5).setCell ⟨g, 6, none⟩ x6).setCell ⟨g, 7, none⟩ x7) g 28 #[x0, x1, x2, x3, x4, x5, x6, x7] := by
  have a0 := h.set_ 0 x0
  have a1 := a0.set_ 1 x1
  have a2 := a1.set_ 2 x2
  have a3 := a2.set_ 3 x3
  have a4 := a3.set_ 4 x4
  have a5 := a4.set_ 5 x5
  have a6 := a5.set_ 6 x6
  have a7 := a6.set_ 7 x7
  have e : ((((((((#[.int .i64 0, .int .i64 0, .int .i64 0, .int .i64 0, .string ⟨#[]⟩, .string ⟨#[]⟩, .string ⟨#[]⟩, .slice none 0 0] : Array Value).setIfInBounds 0 x0).setIfInBounds 1 x1).setIfInBounds 2 x2).setIfInBounds 3 x3).setIfInBounds 4 x4).setIfInBounds 5 x5).setIfInBounds 6 x6).setIfInBounds 7 x7 = #[x0, x1, x2, x3, x4, x5, x6, x7] := by
    simp [List.setIfInBounds_toArray]
  rw [e] at a7
  exact a7
/-- The store as a region's own (gen/XBoxes). -/
theorem store_rec {Q : Exit → Act → World → Prop} {o : Oper} {ac : Act} {w : World} {g i j : Nat} {k t p s : Int} {sb sa si : ByteArray} {A : Option Addr} {n c : Nat} (ho : o.op = .store 28 (.tmp i) (.tmp j)) (hd : o.dst = none) (hp : ac.tmps.getD i undef = .pointer (some ⟨g, 0, none⟩))
    (hq : ac.tmps.getD j undef = .agg #[.int .i64 k, .int .i64 t, .int .i64 p, .int .i64 s, .string sb, .string sa, .string si, .slice A n c]) (hB : Blk w g 28 #[.int .i64 0, .int .i64 0, .int .i64 0, .int .i64 0, .string ⟨#[]⟩, .string ⟨#[]⟩, .string ⟨#[]⟩, .slice none 0 0]) :
    o.wp Try.prog ac w (fun a' w' => a' = ac.put o.dst undef ∧ Blk w' g 28 #[.int .i64 k, .int .i64 t, .int .i64 p, .int .i64 s, .string sb, .string sa, .string si, .slice A n c] ∧ Turns (· = g) w w') Q := by
  have hp2 : ac.tmps[i]?.getD undef = .pointer (some ⟨g, 0, none⟩) := (Array.getD_eq_getD_getElem? ..).symm.trans hp
  have hq2 : ac.tmps[j]?.getD undef = _ := (Array.getD_eq_getD_getElem? ..).symm.trans hq
  have c0 := hB.cell 0 _ rfl
  have c1 := hB.cell 1 _ rfl
  have c2 := hB.cell 2 _ rfl
  have c3 := hB.cell 3 _ rfl
  have c4 := hB.cell 4 _ rfl
  have c5 := hB.cell 5 _ rfl
  have c6 := hB.cell 6 _ rfl
  have c7 := hB.cell 7 _ rfl
  have hf := fun i => hB.frozen i
  have h : (execOp ac.eval o).run Try.prog w = .ok .skip ((((((((w.setCell ⟨g, 0, none⟩ (.int .i64 k)).setCell ⟨g, 1, none⟩ (.int .i64 t)).setCell ⟨g, 2, none⟩ (.int .i64 p)).setCell ⟨g, 3, none⟩ (.int .i64 s)).setCell ⟨g, 4, none⟩ (.string sb)).setCell ⟨g, 5, none⟩ (.string sa)).setCell ⟨g, 6, none⟩ (.string si)).setCell ⟨g, 7, none⟩ (.slice A n c)) := by
    unfold execOp
    simp [ho, hp2, hq2, go_sem, c0, c1, c2, c3, c4, c5, c6, c7, hf]
  unfold Oper.wp
  rw [h]
  refine ⟨by rw [hd], set8_rec hB, ?_⟩
  exact ((((((((Turns.refl _ _).trans (Turns.own _ g 0 _)).trans (Turns.own _ g 1 _)).trans (Turns.own _ g 2 _)).trans (Turns.own _ g 3 _)).trans (Turns.own _ g 4 _)).trans (Turns.own _ g 5 _)).trans (Turns.own _ g 6 _)).trans (Turns.own _ g 7 _)
/-- What a seed's numbers become. -/
def sK (z : Int) : Nat := (Int.tmod (Int.tmod z 7 + 7) 7 + 1).toNat
def sT (z : Int) : Nat := (BitVec.ofInt 64 z &&& BitVec.ofInt 64 255).toNat
def sP (z : Int) : Nat := (Int.tmod (Int.tmod z 6 + 6) 6).toNat
def sS (z : Int) : Nat := (Int.tmod (Int.tmod z 5 + 5) 5).toNat
theorem mod_ok (z m : Int) (h : 0 < m) (h1 : m ≤ 7) : -m < Int.tmod z m ∧ Int.tmod z m < m ∧ 0 ≤ Int.tmod (Int.tmod z m + m) m ∧ Int.tmod (Int.tmod z m + m) m < m := by
  have a1 : Int.tmod z m < m := Int.tmod_lt_of_pos z h
  have a2 : -m < Int.tmod z m := by
    rw [tmod_eq_if]
    have b1 := Int.emod_nonneg z (show m ≠ 0 by omega)
    have b2 := Int.emod_lt_of_pos (-z) h
    split <;> omega
  have a3 : 0 ≤ Int.tmod z m + m := by omega
  exact ⟨a2, a1, Int.tmod_nonneg _ a3, Int.tmod_lt_of_pos _ h⟩
theorem sK_ok (z : Int) : 1 ≤ sK z ∧ sK z ≤ 7 ∧ Int.tmod (Int.tmod z 7 + 7) 7 + 1 = (sK z : Int) ∧ -7 < Int.tmod z 7 ∧ Int.tmod z 7 < 7 := by
  obtain ⟨h1, h2, h3, h4⟩ := mod_ok z 7 (by omega) (by omega)
  unfold sK
  omega
theorem sP_ok (z : Int) : sP z ≤ 5 ∧ Int.tmod (Int.tmod z 6 + 6) 6 = (sP z : Int) ∧ -6 < Int.tmod z 6 ∧ Int.tmod z 6 < 6 := by
  obtain ⟨h1, h2, h3, h4⟩ := mod_ok z 6 (by omega) (by omega)
  unfold sP
  omega
theorem sS_ok (z : Int) : sS z ≤ 4 ∧ Int.tmod (Int.tmod z 5 + 5) 5 = (sS z : Int) ∧ -5 < Int.tmod z 5 ∧ Int.tmod z 5 < 5 := by
  obtain ⟨h1, h2, h3, h4⟩ := mod_ok z 5 (by omega) (by omega)
  unfold sS
  omega
theorem sT_ok (z : Int) : sT z ≤ 255 ∧ bits .and .i64 z 255 = (sT z : Int) := by
  have h1 : bits .and .i64 z 255 = IntKind.i64.wrap (((BitVec.ofInt 64 z &&& BitVec.ofInt 64 255).toNat : Int)) := rfl
  have h2 : (BitVec.ofInt 64 z &&& BitVec.ofInt 64 255).toNat < 256 := by
    rw [BitVec.toNat_and]
    have : (BitVec.ofInt 64 255).toNat = 255 := by decide
    rw [this]
    exact Nat.lt_of_le_of_lt Nat.and_le_right (by omega)
  unfold sT
  refine ⟨by omega, ?_⟩
  rw [h1, IntKind.wrap_i64]
  omega
/-- The record of a seed. -/
def seedR (x : SeedD) : Rc := ⟨sK x.k, sT x.t, sP x.p, sS x.s, cellB x.b, cellB x.a, imgB x.i, if sK x.k = 7 ∧ 0 < x.ds.length then (x.ds ++ List.replicate 6 0).take 6 else []⟩
/-- On the way: the seed's box, the result's block, the record's block, and all that was there. -/
structure Sdd (w0 w : World) (cs : Array Value) (g : Nat) (rc : Array Value) : Prop where
  bel : Below w0.heap.size w0 w
  box : Blk w w0.heap.size 24 cs
  res : Blk w (w0.heap.size + 1) 28 #[.int .i64 0, .int .i64 0, .int .i64 0, .int .i64 0, .string ⟨#[]⟩, .string ⟨#[]⟩, .string ⟨#[]⟩, .slice none 0 0]
  rcd : Blk w g 28 rc
  lt : w0.heap.size + 1 < g
section
variable {w0 w w' : World} {cs rc : Array Value} {g : Nat}
theorem Sdd.alloc (h : Sdd w0 w cs g rc) (o : Obj) : Sdd w0 (w.alloc o) cs g rc := ⟨h.bel.alloc h.bel.size o, h.box.alloc o, h.res.alloc o, h.rcd.alloc o, h.lt⟩
theorem Sdd.turns {X : Nat → Prop} (h : Sdd w0 w cs g rc) (ht : Turns X w w') (hx : ∀ k, X k → g < k) : Sdd w0 w' cs g rc := by
  have h1 := h.lt
  exact ⟨h.bel.trans (ht.below h.bel.size (fun k hk => by have := hx k hk; omega)), ht.blk h.box (fun e => by have := hx _ e; omega), ht.blk h.res (fun e => by have := hx _ e; omega), ht.blk h.rcd (fun e => by have := hx _ e; omega), h1⟩
theorem Sdd.set (h : Sdd w0 w cs g rc) (i : Nat) (u : Value) : Sdd w0 (w.setCell ⟨g, i, none⟩ u) cs g (rc.setIfInBounds i u) := by
  have h1 := h.lt
  exact ⟨h.bel.setCell (p := ⟨g, i, none⟩) (by show w0.heap.size ≤ g; omega) u, h.box.far (p := ⟨g, i, none⟩) (by show w0.heap.size ≠ g; omega) u, h.res.far (p := ⟨g, i, none⟩) (by show w0.heap.size + 1 ≠ g; omega) u, h.rcd.set_ i u, h1⟩
theorem Sdd.cells {x0 x1 x2 x3 x4 x5 x6 x7 : Value} (h : Sdd w0 w cs g #[x0, x1, x2, x3, x4, x5, x6, x7]) : w.cell? ⟨g, 0, none⟩ = some x0 ∧ w.cell? ⟨g, 1, none⟩ = some x1 ∧ w.cell? ⟨g, 2, none⟩ = some x2 ∧ w.cell? ⟨g, 3, none⟩ = some x3 ∧
    w.cell? ⟨g, 4, none⟩ = some x4 ∧ w.cell? ⟨g, 5, none⟩ = some x5 ∧ w.cell? ⟨g, 6, none⟩ = some x6 ∧ w.cell? ⟨g, 7, none⟩ = some x7 :=
  ⟨h.rcd.cell 0 _ rfl, h.rcd.cell 1 _ rfl, h.rcd.cell 2 _ rfl, h.rcd.cell 3 _ rfl, h.rcd.cell 4 _ rfl, h.rcd.cell 5 _ rfl, h.rcd.cell 6 _ rfl, h.rcd.cell 7 _ rfl⟩
theorem Sdd.rcells (h : Sdd w0 w cs g rc) : w.cell? ⟨w0.heap.size + 1, 0, none⟩ = some (.int .i64 0) ∧ w.cell? ⟨w0.heap.size + 1, 1, none⟩ = some (.int .i64 0) ∧ w.cell? ⟨w0.heap.size + 1, 2, none⟩ = some (.int .i64 0) ∧ w.cell? ⟨w0.heap.size + 1, 3, none⟩ = some (.int .i64 0) ∧
    w.cell? ⟨w0.heap.size + 1, 4, none⟩ = some (.string ⟨#[]⟩) ∧ w.cell? ⟨w0.heap.size + 1, 5, none⟩ = some (.string ⟨#[]⟩) ∧ w.cell? ⟨w0.heap.size + 1, 6, none⟩ = some (.string ⟨#[]⟩) ∧ w.cell? ⟨w0.heap.size + 1, 7, none⟩ = some (.slice none 0 0) :=
  ⟨h.res.cell 0 _ rfl, h.res.cell 1 _ rfl, h.res.cell 2 _ rfl, h.res.cell 3 _ rfl, h.res.cell 4 _ rfl, h.res.cell 5 _ rfl, h.res.cell 6 _ rfl, h.res.cell 7 _ rfl⟩
theorem Sdd.rfz (h : Sdd w0 w cs g rc) : w.frozen? ⟨w0.heap.size + 1, 0, none⟩ = false ∧ w.frozen? ⟨w0.heap.size + 1, 1, none⟩ = false ∧ w.frozen? ⟨w0.heap.size + 1, 2, none⟩ = false ∧ w.frozen? ⟨w0.heap.size + 1, 3, none⟩ = false ∧ w.frozen? ⟨w0.heap.size + 1, 4, none⟩ = false ∧ w.frozen? ⟨w0.heap.size + 1, 5, none⟩ = false ∧ w.frozen? ⟨w0.heap.size + 1, 6, none⟩ = false ∧ w.frozen? ⟨w0.heap.size + 1, 7, none⟩ = false :=
  ⟨h.res.frozen 0, h.res.frozen 1, h.res.frozen 2, h.res.frozen 3, h.res.frozen 4, h.res.frozen 5, h.res.frozen 6, h.res.frozen 7⟩
end
theorem seed8_far {w : World} {g k : Nat} {t : TypeId} {cs : Array Value} {x0 x1 x2 x3 x4 x5 x6 x7 : Value} (h : Blk w k t cs) (hk : k ≠ g) : Blk ((((((((w.setCell ⟨g, 0, none⟩ x0).setCell ⟨g, 1, none⟩ x1).setCell ⟨g, 2, none⟩ x2).setCell ⟨g, 3, none⟩ x3).setCell ⟨g, 4, none⟩ x4).setCell ⟨g, 5, none⟩ x5).setCell ⟨g, 6, none⟩ x6).setCell ⟨g, 7, none⟩ x7) k t cs :=
  (((((((h.far (p := ⟨g, 0, none⟩) hk x0).far (p := ⟨g, 1, none⟩) hk x1).far (p := ⟨g, 2, none⟩) hk x2).far (p := ⟨g, 3, none⟩) hk x3).far (p := ⟨g, 4, none⟩) hk x4).far (p := ⟨g, 5, none⟩) hk x5).far (p := ⟨g, 6, none⟩) hk x6).far (p := ⟨g, 7, none⟩) hk x7
theorem blk_btw {w : World} {k lo : Nat} {t : TypeId} {xs : List Value} (h : Blk w k t xs.toArray) (hl : lo ≤ k) : Btw w lo w.heap.size (.slice (some ⟨k, 0, none⟩) xs.length xs.length) xs :=
  ⟨_, xs.length, rfl, Nat.le_refl _, fun _ => ⟨k, 0, rfl, hl, h.lt, fun j u hu => by rw [Nat.zero_add]; exact h.cell j u (by simpa using hu)⟩⟩
theorem seed8_btw {w : World} {g k lo : Nat} {l : List Nat} {x0 x1 x2 x3 x4 x5 x6 x7 : Value} (h : Blk w k 44 (u64s l).toArray) (hk : k ≠ g) (hl : l.length = 6) (hlo : lo ≤ k) : Btw ((((((((w.setCell ⟨g, 0, none⟩ x0).setCell ⟨g, 1, none⟩ x1).setCell ⟨g, 2, none⟩ x2).setCell ⟨g, 3, none⟩ x3).setCell ⟨g, 4, none⟩ x4).setCell ⟨g, 5, none⟩ x5).setCell ⟨g, 6, none⟩ x6).setCell ⟨g, 7, none⟩ x7) lo ((((((((w.setCell ⟨g, 0, none⟩ x0).setCell ⟨g, 1, none⟩ x1).setCell ⟨g, 2, none⟩ x2).setCell ⟨g, 3, none⟩ x3).setCell ⟨g, 4, none⟩ x4).setCell ⟨g, 5, none⟩ x5).setCell ⟨g, 6, none⟩ x6).setCell ⟨g, 7, none⟩ x7).heap.size (.slice (some ⟨k, 0, none⟩) 6 6) (u64s l) := by
  have h8 := blk_btw (seed8_far (x0 := x0) (x1 := x1) (x2 := x2) (x3 := x3) (x4 := x4) (x5 := x5) (x6 := x6) (x7 := x7) h hk) hlo
  rw [u64s_length, hl] at h8
  exact h8
theorem lt_of2 {a g : Nat} (h : a + 1 + 1 ≤ g) : a + 1 < g := h
theorem filled_img (x : UInt8) : filled [(7, 3, .int .u8 (x.toNat : Int)), (9, 200, .int .u8 (x.toNat : Int))] (fun _ => true) (blk8 z256) = blk8 (imgL x) := by
  unfold filled imgL
  generalize z256 = z
  rw [← blk8_set, ← blk8_set]
  rfl
set_option maxHeartbeats 16000000 in
theorem seed_any (x : SeedD) (A : Option Addr) (n c : Nat) (w : World) (hn : x.ds.length = n) (hv : Rd w (.slice A n c) (u64s x.ds)) :
    Calls Try.prog 11 #[.agg #[.int .i64 x.k, .int .i64 x.t, .int .i64 x.p, .int .i64 x.s, .int .u8 (x.b.toNat : Int), .int .u8 (x.a.toNat : Int), .int .u8 (x.i.toNat : Int), .slice A n c]] w fun e w' => ∃ A c, e = .returned (.agg #[.int .i64 ((seedR x).k : Int), .int .i64 ((seedR x).t : Int), .int .i64 ((seedR x).p : Int), .int .i64 ((seedR x).s : Int), .string (seedR x).b, .string (seedR x).a, .string (seedR x).i, .slice A (seedR x).ds.length c]) ∧ Btw w' w.heap.size w'.heap.size (.slice A (seedR x).ds.length c) (u64s (seedR x).ds) ∧ Below w.heap.size w w' := by
  have B0 : Blk (w.alloc (.cells #[.int .i64 x.k, .int .i64 x.t, .int .i64 x.p, .int .i64 x.s, .int .u8 (x.b.toNat : Int), .int .u8 (x.a.toNat : Int), .int .u8 (x.i.toNat : Int), .slice A n c] 24)) w.heap.size 24 #[.int .i64 x.k, .int .i64 x.t, .int .i64 x.p, .int .i64 x.s, .int .u8 (x.b.toNat : Int), .int .u8 (x.a.toNat : Int), .int .u8 (x.i.toNat : Int), .slice A n c] := heap_new w _
  have B1 := B0.alloc (.cells #[.int .i64 0, .int .i64 0, .int .i64 0, .int .i64 0, .string ⟨#[]⟩, .string ⟨#[]⟩, .string ⟨#[]⟩, .slice none 0 0] 28)
  have R1 : Blk ((w.alloc (.cells #[.int .i64 x.k, .int .i64 x.t, .int .i64 x.p, .int .i64 x.s, .int .u8 (x.b.toNat : Int), .int .u8 (x.a.toNat : Int), .int .u8 (x.i.toNat : Int), .slice A n c] 24)).alloc (.cells #[.int .i64 0, .int .i64 0, .int .i64 0, .int .i64 0, .string ⟨#[]⟩, .string ⟨#[]⟩, .string ⟨#[]⟩, .slice none 0 0] 28)) (w.heap.size + 1) 28 #[.int .i64 0, .int .i64 0, .int .i64 0, .int .i64 0, .string ⟨#[]⟩, .string ⟨#[]⟩, .string ⟨#[]⟩, .slice none 0 0] := heap_at _ _ (by simp)
  have hlt := hide B1.lt
  have HW1 := hide (((Below.refl w.heap.size w).alloc (Nat.le_refl _) (.cells #[.int .i64 x.k, .int .i64 x.t, .int .i64 x.p, .int .i64 x.s, .int .u8 (x.b.toNat : Int), .int .u8 (x.a.toNat : Int), .int .u8 (x.i.toNat : Int), .slice A n c] 24)).alloc (by simp) (.cells #[.int .i64 0, .int .i64 0, .int .i64 0, .int .i64 0, .string ⟨#[]⟩, .string ⟨#[]⟩, .string ⟨#[]⟩, .slice none 0 0] 28))
  have p0 := B1.cell 0 _ rfl
  have p1 := B1.cell 1 _ rfl
  have p2 := B1.cell 2 _ rfl
  have p3 := B1.cell 3 _ rfl
  have p4 := B1.cell 4 _ rfl
  have p5 := B1.cell 5 _ rfl
  have HK := hide (sK_ok x.k)
  have HT := hide (sT_ok x.t)
  have HP := hide (sP_ok x.p)
  have HS := hide (sS_ok x.s)
  go_enter Try.func11, Try.ntmps11
  go_wp2
  refine region_boxes [some (.pointer (some ⟨w.heap.size, 0, none⟩)), some (.int .i64 x.k), some (.int .i64 (Int.tmod x.k 7)), some (.int .i64 (Int.tmod x.k 7 + 7)), some (.int .i64 (Int.tmod (Int.tmod x.k 7 + 7) 7)), some (.int .i64 (sK x.k : Int)), some (.pointer (some ⟨w.heap.size, 1, none⟩)), some (.int .i64 x.t), some (.int .i64 (sT x.t : Int)), some (.pointer (some ⟨w.heap.size, 2, none⟩)), some (.int .i64 x.p), some (.int .i64 (Int.tmod x.p 6)), some (.int .i64 (Int.tmod x.p 6 + 6)), some (.int .i64 (sP x.p : Int)), some (.pointer (some ⟨w.heap.size, 3, none⟩)), some (.int .i64 x.s), some (.int .i64 (Int.tmod x.s 5)), some (.int .i64 (Int.tmod x.s 5 + 5)), some (.int .i64 (sS x.s : Int)), some (.pointer (some ⟨w.heap.size, 4, none⟩)), some (.int .u8 (x.b.toNat : Int)), some (.string (cellB x.b)), some (.pointer (some ⟨w.heap.size, 5, none⟩)), some (.int .u8 (x.a.toNat : Int)), some (.string (cellB x.a)), some (.agg #[.int .i64 (sK x.k : Int), .int .i64 (sT x.t : Int), .int .i64 (sP x.p : Int), .int .i64 (sS x.s : Int), .string (cellB x.b), .string (cellB x.a), .string ⟨#[]⟩, .slice none 0 0]), none, none] 26 27 3 28 (#[.int .i64 0, .int .i64 0, .int .i64 0, .int .i64 0, .string ⟨#[]⟩, .string ⟨#[]⟩, .string ⟨#[]⟩, .slice none 0 0]) (#[.int .i64 (sK x.k : Int), .int .i64 (sT x.t : Int), .int .i64 (sP x.p : Int), .int .i64 (sS x.s : Int), .string (cellB x.b), .string (cellB x.a), .string ⟨#[]⟩, .slice none 0 0]) _ _ rfl rfl rfl rfl rfl rfl (by kernel_rfl) (by kernel_rfl) (by decide) (by kernel_rfl) (by kernel_rfl) (by kernel_rfl) (by kernel_rfl) (fun a w2 => exec_alloc_rec rfl w2) ?_ ?_ ?_
  · intro a w2 g hb hsz dep hda hB
    have dv : a.tmps.getD 30 undef = .agg #[.int .i64 (sK x.k : Int), .int .i64 (sT x.t : Int), .int .i64 (sP x.p : Int), .int .i64 (sS x.s : Int), .string (cellB x.b), .string (cellB x.a), .string ⟨#[]⟩, .slice none 0 0] := dep 25 _ _ (by kernel_rfl) rfl rfl (by decide) _ rfl
    exact store_rec (i := 3) (j := 30) rfl rfl hda dv hB
  · intro i o hoo hna hns a w2 hb hsz old dep
    match i, hoo with
    | 0, hoo =>
      obtain rfl := Option.some.inj hoo
      have o1 : a.tmps.getD 1 undef = _ := old 1 (by kernel_rfl)
      rw [if_pos (wanted_none rfl)]
      refine box_same (.pointer (some ⟨w.heap.size, 0, none⟩)) rfl ?_
      clear old dep hoo hsz hb hna hns
      go_simp
    | 1, hoo =>
      obtain rfl := Option.some.inj hoo
      have d0 : a.tmps.getD 5 undef = .pointer (some ⟨w.heap.size, 0, none⟩) := dep 0 _ _ (by kernel_rfl) rfl rfl (by decide) _ rfl
      have e0 : a.tmps[5]?.getD undef = _ := (Array.getD_eq_getD_getElem? ..).symm.trans d0
      rw [if_pos (wanted_none rfl)]
      have hc := (hb.cell (p := ⟨w.heap.size, 0, none⟩) hlt.out).trans p0
      refine box_same (.int .i64 x.k) rfl ?_
      clear old dep hoo hsz hb hna hns
      go_simp
    | 2, hoo =>
      obtain rfl := Option.some.inj hoo
      have d1 : a.tmps.getD 6 undef = .int .i64 x.k := dep 1 _ _ (by kernel_rfl) rfl rfl (by decide) _ rfl
      have e1 : a.tmps[6]?.getD undef = _ := (Array.getD_eq_getD_getElem? ..).symm.trans d1
      rw [if_pos (wanted_none rfl)]
      have hw := HK.out
      refine box_same (.int .i64 (Int.tmod x.k 7)) rfl ?_
      clear old dep hoo hsz hb hna hns
      go_simp
    | 3, hoo =>
      obtain rfl := Option.some.inj hoo
      have d2 : a.tmps.getD 7 undef = .int .i64 (Int.tmod x.k 7) := dep 2 _ _ (by kernel_rfl) rfl rfl (by decide) _ rfl
      have e2 : a.tmps[7]?.getD undef = _ := (Array.getD_eq_getD_getElem? ..).symm.trans d2
      rw [if_pos (wanted_none rfl)]
      have hw := HK.out
      refine box_same (.int .i64 (Int.tmod x.k 7 + 7)) rfl ?_
      clear old dep hoo hsz hb hna hns
      go_simp
      rw [IntKind.wrap_i64]; omega
    | 4, hoo =>
      obtain rfl := Option.some.inj hoo
      have d3 : a.tmps.getD 8 undef = .int .i64 (Int.tmod x.k 7 + 7) := dep 3 _ _ (by kernel_rfl) rfl rfl (by decide) _ rfl
      have e3 : a.tmps[8]?.getD undef = _ := (Array.getD_eq_getD_getElem? ..).symm.trans d3
      rw [if_pos (wanted_none rfl)]
      have hw := HK.out
      refine box_same (.int .i64 (Int.tmod (Int.tmod x.k 7 + 7) 7)) rfl ?_
      clear old dep hoo hsz hb hna hns
      go_simp
    | 5, hoo =>
      obtain rfl := Option.some.inj hoo
      have d4 : a.tmps.getD 9 undef = .int .i64 (Int.tmod (Int.tmod x.k 7 + 7) 7) := dep 4 _ _ (by kernel_rfl) rfl rfl (by decide) _ rfl
      have e4 : a.tmps[9]?.getD undef = _ := (Array.getD_eq_getD_getElem? ..).symm.trans d4
      rw [if_pos (wanted_none rfl)]
      have hw := HK.out
      refine box_same (.int .i64 (sK x.k : Int)) rfl ?_
      clear old dep hoo hsz hb hna hns
      go_simp
      rw [IntKind.wrap_i64]; omega
    | 6, hoo =>
      obtain rfl := Option.some.inj hoo
      have o1 : a.tmps.getD 1 undef = _ := old 1 (by kernel_rfl)
      rw [if_pos (wanted_none rfl)]
      refine box_same (.pointer (some ⟨w.heap.size, 1, none⟩)) rfl ?_
      clear old dep hoo hsz hb hna hns
      go_simp
    | 7, hoo =>
      obtain rfl := Option.some.inj hoo
      have d6 : a.tmps.getD 11 undef = .pointer (some ⟨w.heap.size, 1, none⟩) := dep 6 _ _ (by kernel_rfl) rfl rfl (by decide) _ rfl
      have e6 : a.tmps[11]?.getD undef = _ := (Array.getD_eq_getD_getElem? ..).symm.trans d6
      rw [if_pos (wanted_none rfl)]
      have hc := (hb.cell (p := ⟨w.heap.size, 1, none⟩) hlt.out).trans p1
      refine box_same (.int .i64 x.t) rfl ?_
      clear old dep hoo hsz hb hna hns
      go_simp
    | 8, hoo =>
      obtain rfl := Option.some.inj hoo
      have d7 : a.tmps.getD 12 undef = .int .i64 x.t := dep 7 _ _ (by kernel_rfl) rfl rfl (by decide) _ rfl
      have e7 : a.tmps[12]?.getD undef = _ := (Array.getD_eq_getD_getElem? ..).symm.trans d7
      rw [if_pos (wanted_none rfl)]
      have hw := HT.out
      refine box_same (.int .i64 (sT x.t : Int)) rfl ?_
      clear old dep hoo hsz hb hna hns
      go_simp
    | 9, hoo =>
      obtain rfl := Option.some.inj hoo
      have o1 : a.tmps.getD 1 undef = _ := old 1 (by kernel_rfl)
      rw [if_pos (wanted_none rfl)]
      refine box_same (.pointer (some ⟨w.heap.size, 2, none⟩)) rfl ?_
      clear old dep hoo hsz hb hna hns
      go_simp
    | 10, hoo =>
      obtain rfl := Option.some.inj hoo
      have d9 : a.tmps.getD 14 undef = .pointer (some ⟨w.heap.size, 2, none⟩) := dep 9 _ _ (by kernel_rfl) rfl rfl (by decide) _ rfl
      have e9 : a.tmps[14]?.getD undef = _ := (Array.getD_eq_getD_getElem? ..).symm.trans d9
      rw [if_pos (wanted_none rfl)]
      have hc := (hb.cell (p := ⟨w.heap.size, 2, none⟩) hlt.out).trans p2
      refine box_same (.int .i64 x.p) rfl ?_
      clear old dep hoo hsz hb hna hns
      go_simp
    | 11, hoo =>
      obtain rfl := Option.some.inj hoo
      have d10 : a.tmps.getD 15 undef = .int .i64 x.p := dep 10 _ _ (by kernel_rfl) rfl rfl (by decide) _ rfl
      have e10 : a.tmps[15]?.getD undef = _ := (Array.getD_eq_getD_getElem? ..).symm.trans d10
      rw [if_pos (wanted_none rfl)]
      have hw := HP.out
      refine box_same (.int .i64 (Int.tmod x.p 6)) rfl ?_
      clear old dep hoo hsz hb hna hns
      go_simp
    | 12, hoo =>
      obtain rfl := Option.some.inj hoo
      have d11 : a.tmps.getD 16 undef = .int .i64 (Int.tmod x.p 6) := dep 11 _ _ (by kernel_rfl) rfl rfl (by decide) _ rfl
      have e11 : a.tmps[16]?.getD undef = _ := (Array.getD_eq_getD_getElem? ..).symm.trans d11
      rw [if_pos (wanted_none rfl)]
      have hw := HP.out
      refine box_same (.int .i64 (Int.tmod x.p 6 + 6)) rfl ?_
      clear old dep hoo hsz hb hna hns
      go_simp
      rw [IntKind.wrap_i64]; omega
    | 13, hoo =>
      obtain rfl := Option.some.inj hoo
      have d12 : a.tmps.getD 17 undef = .int .i64 (Int.tmod x.p 6 + 6) := dep 12 _ _ (by kernel_rfl) rfl rfl (by decide) _ rfl
      have e12 : a.tmps[17]?.getD undef = _ := (Array.getD_eq_getD_getElem? ..).symm.trans d12
      rw [if_pos (wanted_none rfl)]
      have hw := HP.out
      refine box_same (.int .i64 (sP x.p : Int)) rfl ?_
      clear old dep hoo hsz hb hna hns
      go_simp
    | 14, hoo =>
      obtain rfl := Option.some.inj hoo
      have o1 : a.tmps.getD 1 undef = _ := old 1 (by kernel_rfl)
      rw [if_pos (wanted_none rfl)]
      refine box_same (.pointer (some ⟨w.heap.size, 3, none⟩)) rfl ?_
      clear old dep hoo hsz hb hna hns
      go_simp
    | 15, hoo =>
      obtain rfl := Option.some.inj hoo
      have d14 : a.tmps.getD 19 undef = .pointer (some ⟨w.heap.size, 3, none⟩) := dep 14 _ _ (by kernel_rfl) rfl rfl (by decide) _ rfl
      have e14 : a.tmps[19]?.getD undef = _ := (Array.getD_eq_getD_getElem? ..).symm.trans d14
      rw [if_pos (wanted_none rfl)]
      have hc := (hb.cell (p := ⟨w.heap.size, 3, none⟩) hlt.out).trans p3
      refine box_same (.int .i64 x.s) rfl ?_
      clear old dep hoo hsz hb hna hns
      go_simp
    | 16, hoo =>
      obtain rfl := Option.some.inj hoo
      have d15 : a.tmps.getD 20 undef = .int .i64 x.s := dep 15 _ _ (by kernel_rfl) rfl rfl (by decide) _ rfl
      have e15 : a.tmps[20]?.getD undef = _ := (Array.getD_eq_getD_getElem? ..).symm.trans d15
      rw [if_pos (wanted_none rfl)]
      have hw := HS.out
      refine box_same (.int .i64 (Int.tmod x.s 5)) rfl ?_
      clear old dep hoo hsz hb hna hns
      go_simp
    | 17, hoo =>
      obtain rfl := Option.some.inj hoo
      have d16 : a.tmps.getD 21 undef = .int .i64 (Int.tmod x.s 5) := dep 16 _ _ (by kernel_rfl) rfl rfl (by decide) _ rfl
      have e16 : a.tmps[21]?.getD undef = _ := (Array.getD_eq_getD_getElem? ..).symm.trans d16
      rw [if_pos (wanted_none rfl)]
      have hw := HS.out
      refine box_same (.int .i64 (Int.tmod x.s 5 + 5)) rfl ?_
      clear old dep hoo hsz hb hna hns
      go_simp
      rw [IntKind.wrap_i64]; omega
    | 18, hoo =>
      obtain rfl := Option.some.inj hoo
      have d17 : a.tmps.getD 22 undef = .int .i64 (Int.tmod x.s 5 + 5) := dep 17 _ _ (by kernel_rfl) rfl rfl (by decide) _ rfl
      have e17 : a.tmps[22]?.getD undef = _ := (Array.getD_eq_getD_getElem? ..).symm.trans d17
      rw [if_pos (wanted_none rfl)]
      have hw := HS.out
      refine box_same (.int .i64 (sS x.s : Int)) rfl ?_
      clear old dep hoo hsz hb hna hns
      go_simp
    | 19, hoo =>
      obtain rfl := Option.some.inj hoo
      have o1 : a.tmps.getD 1 undef = _ := old 1 (by kernel_rfl)
      rw [if_pos (wanted_none rfl)]
      refine box_same (.pointer (some ⟨w.heap.size, 4, none⟩)) rfl ?_
      clear old dep hoo hsz hb hna hns
      go_simp
    | 20, hoo =>
      obtain rfl := Option.some.inj hoo
      have d19 : a.tmps.getD 24 undef = .pointer (some ⟨w.heap.size, 4, none⟩) := dep 19 _ _ (by kernel_rfl) rfl rfl (by decide) _ rfl
      have e19 : a.tmps[24]?.getD undef = _ := (Array.getD_eq_getD_getElem? ..).symm.trans d19
      rw [if_pos (wanted_none rfl)]
      have hc := (hb.cell (p := ⟨w.heap.size, 4, none⟩) hlt.out).trans p4
      refine box_same (.int .u8 (x.b.toNat : Int)) rfl ?_
      clear old dep hoo hsz hb hna hns
      go_simp
    | 21, hoo =>
      obtain rfl := Option.some.inj hoo
      have d20 : a.tmps.getD 25 undef = .int .u8 (x.b.toNat : Int) := dep 20 _ _ (by kernel_rfl) rfl rfl (by decide) _ rfl
      have e20 : a.tmps[25]?.getD undef = _ := (Array.getD_eq_getD_getElem? ..).symm.trans d20
      rw [if_pos (wanted_none rfl)]
      refine box_enters (f := 19) (args := #[.int .u8 (x.b.toNat : Int)]) (.string (cellB x.b)) rfl ?_ (cell_any x.b _)
      clear old dep hoo hsz hb hna hns
      go_simp
    | 22, hoo =>
      obtain rfl := Option.some.inj hoo
      have o1 : a.tmps.getD 1 undef = _ := old 1 (by kernel_rfl)
      rw [if_pos (wanted_none rfl)]
      refine box_same (.pointer (some ⟨w.heap.size, 5, none⟩)) rfl ?_
      clear old dep hoo hsz hb hna hns
      go_simp
    | 23, hoo =>
      obtain rfl := Option.some.inj hoo
      have d22 : a.tmps.getD 27 undef = .pointer (some ⟨w.heap.size, 5, none⟩) := dep 22 _ _ (by kernel_rfl) rfl rfl (by decide) _ rfl
      have e22 : a.tmps[27]?.getD undef = _ := (Array.getD_eq_getD_getElem? ..).symm.trans d22
      rw [if_pos (wanted_none rfl)]
      have hc := (hb.cell (p := ⟨w.heap.size, 5, none⟩) hlt.out).trans p5
      refine box_same (.int .u8 (x.a.toNat : Int)) rfl ?_
      clear old dep hoo hsz hb hna hns
      go_simp
    | 24, hoo =>
      obtain rfl := Option.some.inj hoo
      have d23 : a.tmps.getD 28 undef = .int .u8 (x.a.toNat : Int) := dep 23 _ _ (by kernel_rfl) rfl rfl (by decide) _ rfl
      have e23 : a.tmps[28]?.getD undef = _ := (Array.getD_eq_getD_getElem? ..).symm.trans d23
      rw [if_pos (wanted_none rfl)]
      refine box_enters (f := 19) (args := #[.int .u8 (x.a.toNat : Int)]) (.string (cellB x.a)) rfl ?_ (cell_any x.a _)
      clear old dep hoo hsz hb hna hns
      go_simp
    | 25, hoo =>
      obtain rfl := Option.some.inj hoo
      have d5 : a.tmps.getD 10 undef = .int .i64 (sK x.k : Int) := dep 5 _ _ (by kernel_rfl) rfl rfl (by decide) _ rfl
      have e5 : a.tmps[10]?.getD undef = _ := (Array.getD_eq_getD_getElem? ..).symm.trans d5
      have d8 : a.tmps.getD 13 undef = .int .i64 (sT x.t : Int) := dep 8 _ _ (by kernel_rfl) rfl rfl (by decide) _ rfl
      have e8 : a.tmps[13]?.getD undef = _ := (Array.getD_eq_getD_getElem? ..).symm.trans d8
      have d13 : a.tmps.getD 18 undef = .int .i64 (sP x.p : Int) := dep 13 _ _ (by kernel_rfl) rfl rfl (by decide) _ rfl
      have e13 : a.tmps[18]?.getD undef = _ := (Array.getD_eq_getD_getElem? ..).symm.trans d13
      have d18 : a.tmps.getD 23 undef = .int .i64 (sS x.s : Int) := dep 18 _ _ (by kernel_rfl) rfl rfl (by decide) _ rfl
      have e18 : a.tmps[23]?.getD undef = _ := (Array.getD_eq_getD_getElem? ..).symm.trans d18
      have d21 : a.tmps.getD 26 undef = .string (cellB x.b) := dep 21 _ _ (by kernel_rfl) rfl rfl (by decide) _ rfl
      have e21 : a.tmps[26]?.getD undef = _ := (Array.getD_eq_getD_getElem? ..).symm.trans d21
      have d24 : a.tmps.getD 29 undef = .string (cellB x.a) := dep 24 _ _ (by kernel_rfl) rfl rfl (by decide) _ rfl
      have e24 : a.tmps[29]?.getD undef = _ := (Array.getD_eq_getD_getElem? ..).symm.trans d24
      rw [if_pos (wanted_none rfl)]
      refine box_same (.agg #[.int .i64 (sK x.k : Int), .int .i64 (sT x.t : Int), .int .i64 (sP x.p : Int), .int .i64 (sS x.s : Int), .string (cellB x.b), .string (cellB x.a), .string ⟨#[]⟩, .slice none 0 0]) rfl ?_
      clear old dep hoo hsz hb hna hns
      go_simp
    | 26, hoo =>
      exact absurd rfl hna
    | 27, hoo =>
      exact absurd rfl hns
    | i + 28, hoo => exact absurd hoo (by simp)
  · intro a w3 g hb hgl hB hda hsz hdf fin keep
    obtain ⟨tm, df⟩ := a
    have hx := frame_of [5, 6, 7, 8, 9, 10, 11, 12, 13, 14, 15, 16, 17, 18, 19, 20, 21, 22, 23, 24, 25, 26, 27, 28, 29, 30, 3] (by kernel_rfl) hsz keep
    dsimp only at hdf hx hda
    simp only [List.foldl_cons, List.foldl_nil] at hx
    subst hdf
    clear hsz keep
    have kn : tm.getD 5 undef = .pointer (some ⟨w.heap.size, 0, none⟩) := fin 0 _ _ rfl rfl (by decide) _ rfl
    rw [kn] at hx
    clear kn
    have kn : tm.getD 6 undef = .int .i64 x.k := fin 1 _ _ rfl rfl (by decide) _ rfl
    rw [kn] at hx
    clear kn
    have kn : tm.getD 7 undef = .int .i64 (Int.tmod x.k 7) := fin 2 _ _ rfl rfl (by decide) _ rfl
    rw [kn] at hx
    clear kn
    have kn : tm.getD 8 undef = .int .i64 (Int.tmod x.k 7 + 7) := fin 3 _ _ rfl rfl (by decide) _ rfl
    rw [kn] at hx
    clear kn
    have kn : tm.getD 9 undef = .int .i64 (Int.tmod (Int.tmod x.k 7 + 7) 7) := fin 4 _ _ rfl rfl (by decide) _ rfl
    rw [kn] at hx
    clear kn
    have kn : tm.getD 10 undef = .int .i64 (sK x.k : Int) := fin 5 _ _ rfl rfl (by decide) _ rfl
    rw [kn] at hx
    clear kn
    have kn : tm.getD 11 undef = .pointer (some ⟨w.heap.size, 1, none⟩) := fin 6 _ _ rfl rfl (by decide) _ rfl
    rw [kn] at hx
    clear kn
    have kn : tm.getD 12 undef = .int .i64 x.t := fin 7 _ _ rfl rfl (by decide) _ rfl
    rw [kn] at hx
    clear kn
    have kn : tm.getD 13 undef = .int .i64 (sT x.t : Int) := fin 8 _ _ rfl rfl (by decide) _ rfl
    rw [kn] at hx
    clear kn
    have kn : tm.getD 14 undef = .pointer (some ⟨w.heap.size, 2, none⟩) := fin 9 _ _ rfl rfl (by decide) _ rfl
    rw [kn] at hx
    clear kn
    have kn : tm.getD 15 undef = .int .i64 x.p := fin 10 _ _ rfl rfl (by decide) _ rfl
    rw [kn] at hx
    clear kn
    have kn : tm.getD 16 undef = .int .i64 (Int.tmod x.p 6) := fin 11 _ _ rfl rfl (by decide) _ rfl
    rw [kn] at hx
    clear kn
    have kn : tm.getD 17 undef = .int .i64 (Int.tmod x.p 6 + 6) := fin 12 _ _ rfl rfl (by decide) _ rfl
    rw [kn] at hx
    clear kn
    have kn : tm.getD 18 undef = .int .i64 (sP x.p : Int) := fin 13 _ _ rfl rfl (by decide) _ rfl
    rw [kn] at hx
    clear kn
    have kn : tm.getD 19 undef = .pointer (some ⟨w.heap.size, 3, none⟩) := fin 14 _ _ rfl rfl (by decide) _ rfl
    rw [kn] at hx
    clear kn
    have kn : tm.getD 20 undef = .int .i64 x.s := fin 15 _ _ rfl rfl (by decide) _ rfl
    rw [kn] at hx
    clear kn
    have kn : tm.getD 21 undef = .int .i64 (Int.tmod x.s 5) := fin 16 _ _ rfl rfl (by decide) _ rfl
    rw [kn] at hx
    clear kn
    have kn : tm.getD 22 undef = .int .i64 (Int.tmod x.s 5 + 5) := fin 17 _ _ rfl rfl (by decide) _ rfl
    rw [kn] at hx
    clear kn
    have kn : tm.getD 23 undef = .int .i64 (sS x.s : Int) := fin 18 _ _ rfl rfl (by decide) _ rfl
    rw [kn] at hx
    clear kn
    have kn : tm.getD 24 undef = .pointer (some ⟨w.heap.size, 4, none⟩) := fin 19 _ _ rfl rfl (by decide) _ rfl
    rw [kn] at hx
    clear kn
    have kn : tm.getD 25 undef = .int .u8 (x.b.toNat : Int) := fin 20 _ _ rfl rfl (by decide) _ rfl
    rw [kn] at hx
    clear kn
    have kn : tm.getD 26 undef = .string (cellB x.b) := fin 21 _ _ rfl rfl (by decide) _ rfl
    rw [kn] at hx
    clear kn
    have kn : tm.getD 27 undef = .pointer (some ⟨w.heap.size, 5, none⟩) := fin 22 _ _ rfl rfl (by decide) _ rfl
    rw [kn] at hx
    clear kn
    have kn : tm.getD 28 undef = .int .u8 (x.a.toNat : Int) := fin 23 _ _ rfl rfl (by decide) _ rfl
    rw [kn] at hx
    clear kn
    have kn : tm.getD 29 undef = .string (cellB x.a) := fin 24 _ _ rfl rfl (by decide) _ rfl
    rw [kn] at hx
    clear kn
    have kn : tm.getD 30 undef = .agg #[.int .i64 (sK x.k : Int), .int .i64 (sT x.t : Int), .int .i64 (sP x.p : Int), .int .i64 (sS x.s : Int), .string (cellB x.b), .string (cellB x.a), .string ⟨#[]⟩, .slice none 0 0] := fin 25 _ _ rfl rfl (by decide) _ rfl
    rw [kn] at hx
    clear kn
    rw [hda] at hx
    clear fin hda
    simp only [List.setIfInBounds_toArray, List.set_cons_succ, List.set_cons_zero] at hx
    subst hx
    have S3 : Sdd w w3 #[.int .i64 x.k, .int .i64 x.t, .int .i64 x.p, .int .i64 x.s, .int .u8 (x.b.toNat : Int), .int .u8 (x.a.toNat : Int), .int .u8 (x.i.toNat : Int), .slice A n c] g #[.int .i64 (sK x.k : Int), .int .i64 (sT x.t : Int), .int .i64 (sP x.p : Int), .int .i64 (sS x.s : Int), .string (cellB x.b), .string (cellB x.a), .string ⟨#[]⟩, .slice none 0 0] := ⟨HW1.out.trans (hb.mono HW1.out.size), B1.below hb, R1.below hb, hB, lt_of2 (by simpa using hgl)⟩
    clear hb hgl hB B1 R1 HW1 p0 p1 p2 p3 p4 p5 hlt HK HT HP HS B0
    by_cases hx0 : x.i = 0
    · have s6 : w3.cell? ⟨w.heap.size, 6, none⟩ = some (.int .u8 0) := by
        have := S3.box.cell 6 _ rfl
        rw [hx0] at this
        exact this
      have HI := hide (show imgB x.i = ⟨#[]⟩ from if_pos hx0)
      clear hx0
      obtain ⟨u0, u1, u2, u3, u4, u5, u6, u7⟩ := S3.cells
      have v7 := S3.box.cell 7 _ rfl
      have hgl : g < w3.heap.size := by simpa [World.setCell] using S3.rcd.lt
      have hfr := S3.rcd.frozen 7
      by_cases hk : sK x.k = 7
      · have hk7 : ((sK x.k : Int) == 7) = true := by rw [beq_iff_eq]; omega
        by_cases hn0 : 0 < n
        · have hn1 : decide ((n : Int) > 0) = true := decide_eq_true (by omega)
          have hmk := run_make6
          have HD := hide (show (seedR x).ds = (x.ds ++ z6).take 6 by unfold seedR; exact if_pos ⟨hk, by omega⟩)
          have hl6 := hide (show ((x.ds ++ z6).take 6).length = 6 by rw [List.length_take, List.length_append, z6_length]; omega)
          have S7 := (S3.set 7 (.slice (some ⟨w3.heap.size, 0, none⟩) 6 6)).alloc (.cells (u64s z6).toArray 44)
          have R7 : Blk ((w3.setCell ⟨g, 7, none⟩ (.slice (some ⟨w3.heap.size, 0, none⟩) 6 6)).alloc (.cells (u64s z6).toArray 44)) w3.heap.size 44 (u64s z6).toArray := heap_at _ _ (by simp [World.setCell])
          have D7 := hv.below (S7.bel)
          obtain ⟨w8, hcp, B8, T8⟩ := run_copy64 R7 z6_length D7 hn
          have S8 := S7.turns T8 (fun k hk => by rw [hk]; exact hgl)
          have x7 := S7.box.cell 7 _ rfl
          have y7 := S7.rcd.cell 7 _ rfl
          have e6 : x.ds.take 6 ++ z6.drop (min n 6) = (x.ds ++ z6).take 6 := by
            rw [← hn, List.take_append]
            congr 1
            unfold z6
            rw [List.take_replicate, List.drop_replicate]
            congr 1
            omega
          rw [e6] at B8
          have HB8 := hide B8
          have HS8 := hide S8
          obtain ⟨q0, q1, q2, q3, q4, q5, q6, q7⟩ := S8.cells
          obtain ⟨t0, t1, t2, t3, t4, t5, t6, t7⟩ := S8.rcells
          obtain ⟨f0, f1, f2, f3, f4, f5, f6, f7⟩ := S8.rfz
          clear B8 S8 T8 R7 S7 D7
          go_wp2
          refine bodyPost_ret (v := .agg #[.int .i64 7, .int .i64 (sT x.t : Int), .int .i64 (sP x.p : Int), .int .i64 (sS x.s : Int), .string (cellB x.b), .string (cellB x.a), .string ⟨#[]⟩, .slice (some ⟨w3.heap.size, 0, none⟩) 6 6]) (by simp [results, Try.results11, go_sem, t0, t1, t2, t3, t4, t5, t6, t7]) rfl ⟨some ⟨w3.heap.size, 0, none⟩, 6, ?_, ?_, set8_below HS8.out.bel (by omega)⟩
          · rw [HD.out, hl6.out]
            show _ = Ending.returned (.agg #[.int .i64 (sK x.k : Int), .int .i64 (sT x.t : Int), .int .i64 (sP x.p : Int), .int .i64 (sS x.s : Int), .string (cellB x.b), .string (cellB x.a), .string (imgB x.i), .slice (some ⟨w3.heap.size, 0, none⟩) 6 6])
            rw [hk, HI.out]
            rfl
          · rw [HD.out, hl6.out]
            have hlt' := HS8.out.lt
            exact seed8_btw HB8.out (by omega) hl6.out (by omega)
        · have hnz : n = 0 := by omega
          have HD := hide (show (seedR x).ds = [] by unfold seedR; exact if_neg (fun h => by omega))
          have HS8 := hide S3
          obtain ⟨t0, t1, t2, t3, t4, t5, t6, t7⟩ := S3.rcells
          obtain ⟨f0, f1, f2, f3, f4, f5, f6, f7⟩ := S3.rfz
          go_wp2
          refine bodyPost_ret (v := .agg #[.int .i64 7, .int .i64 (sT x.t : Int), .int .i64 (sP x.p : Int), .int .i64 (sS x.s : Int), .string (cellB x.b), .string (cellB x.a), .string ⟨#[]⟩, .slice none 0 0]) (by simp [results, Try.results11, go_sem, t0, t1, t2, t3, t4, t5, t6, t7]) rfl ⟨none, 0, ?_, ?_, set8_below HS8.out.bel (by omega)⟩
          · rw [HD.out]
            show _ = Ending.returned (.agg #[.int .i64 (sK x.k : Int), .int .i64 (sT x.t : Int), .int .i64 (sP x.p : Int), .int .i64 (sS x.s : Int), .string (cellB x.b), .string (cellB x.a), .string (imgB x.i), .slice none 0 0])
            rw [hk, HI.out]
            rfl
          · rw [HD.out]
            exact ⟨none, 0, rfl, Nat.le_refl _, fun h => absurd h (by simp [u64s])⟩
      · have hk7 : ((sK x.k : Int) == 7) = false := by rw [beq_eq_false_iff_ne]; omega
        have HD := hide (show (seedR x).ds = [] by unfold seedR; exact if_neg (fun h => by omega))
        have HS8 := hide S3
        obtain ⟨t0, t1, t2, t3, t4, t5, t6, t7⟩ := S3.rcells
        obtain ⟨f0, f1, f2, f3, f4, f5, f6, f7⟩ := S3.rfz
        go_wp2
        refine bodyPost_ret (v := .agg #[.int .i64 (sK x.k : Int), .int .i64 (sT x.t : Int), .int .i64 (sP x.p : Int), .int .i64 (sS x.s : Int), .string (cellB x.b), .string (cellB x.a), .string ⟨#[]⟩, .slice none 0 0]) (by simp [results, Try.results11, go_sem, t0, t1, t2, t3, t4, t5, t6, t7]) rfl ⟨none, 0, ?_, ?_, set8_below HS8.out.bel (by omega)⟩
        · rw [HD.out]
          show _ = Ending.returned (.agg #[.int .i64 (sK x.k : Int), .int .i64 (sT x.t : Int), .int .i64 (sP x.p : Int), .int .i64 (sS x.s : Int), .string (cellB x.b), .string (cellB x.a), .string (imgB x.i), .slice none 0 0])
          rw [HI.out]
        · rw [HD.out]
          exact ⟨none, 0, rfl, Nat.le_refl _, fun h => absurd h (by simp [u64s])⟩
    · obtain ⟨h1, h2⟩ := zero_byte hx0
      have s6 := S3.box.cell 6 _ rfl
      have h0 : (0 : Int) < (x.i.toNat : Int) := by omega
      have HI := hide (show imgB x.i = ⟨(imgL x.i).toArray⟩ from if_neg hx0)
      clear hx0 h1 h2
      have hmk := run_make256
      have hl3 := hide (show w.heap.size < w3.heap.size by have := S3.lt; have := S3.rcd.lt; omega)
      have hl4 := hide (show w.heap.size < (w3.alloc (.cells (blk8 z256) 5)).heap.size by simp; have := S3.lt; have := S3.rcd.lt; omega)
      have hg3 := hide S3.rcd.lt
      have S4 := S3.alloc (.cells (blk8 z256) 5)
      have s6' := S4.box.cell 6 _ rfl
      go_wp2
      refine region_turns (G := Turns (· = w3.heap.size)) [Word.is _ (.slice (some ⟨w3.heap.size, 0, none⟩) 256 256), Word.is _ (.slice (some ⟨w3.heap.size, 0, none⟩) 256 256), Word.is _ (.pointer (some ⟨w.heap.size, 6, none⟩)), Word.is _ (.int .u8 (x.i.toNat : Int)), Word.is _ (.pointer (some ⟨w.heap.size, 6, none⟩)), Word.is _ (.int .u8 (x.i.toNat : Int)), Word.is _ (.pointer (some ⟨w3.heap.size, 3, none⟩)), Word.any _, Word.is _ (.pointer (some ⟨w3.heap.size, 200, none⟩)), Word.any _] (Stored w3.heap.size 5 [(7, 3, .int .u8 (x.i.toNat : Int)), (9, 200, .int .u8 (x.i.toNat : Int))] (blk8 z256)) (Turns.refl _) Turns.trans (Turns.drew _) (by kernel_rfl) (by kernel_rfl) (by kernel_rfl) (by kernel_rfl) (fun L L' w h hS => Stored.ext (by kernel_rfl) h hS) (Stored.start _ (heap_new w3 _)) ?_ ?_
      · intro i o ho L a w2 hb hS hLi hnot hyes hsz old dep
        match i, ho with
        | 0, ho =>
          obtain rfl := Option.some.inj ho
          have o4 : a.tmps.getD 4 undef = _ := old 4 (by kernel_rfl)
          rw [if_pos (wanted_none rfl)]
          refine turn_same (Turns.refl _) (v := .slice (some ⟨w3.heap.size, 0, none⟩) 256 256) ?_ rfl (hS.other (by rfl))
          clear old dep ho hsz hb hS hLi hnot hyes
          go_simp
        | 1, ho =>
          obtain rfl := Option.some.inj ho
          have o4 : a.tmps.getD 4 undef = _ := old 4 (by kernel_rfl)
          rw [if_pos (wanted_none rfl)]
          refine turn_same (Turns.refl _) (v := .slice (some ⟨w3.heap.size, 0, none⟩) 256 256) ?_ rfl (hS.other (by rfl))
          clear old dep ho hsz hb hS hLi hnot hyes
          go_simp
        | 2, ho =>
          obtain rfl := Option.some.inj ho
          have o1 : a.tmps.getD 1 undef = _ := old 1 (by kernel_rfl)
          rw [if_pos (wanted_none rfl)]
          refine turn_same (Turns.refl _) (v := .pointer (some ⟨w.heap.size, 6, none⟩)) ?_ rfl (hS.other (by rfl))
          clear old dep ho hsz hb hS hLi hnot hyes
          go_simp
        | 3, ho =>
          obtain rfl := Option.some.inj ho
          have d2 : a.tmps.getD 37 undef = .pointer (some ⟨w.heap.size, 6, none⟩) := dep 2 _ _ (by kernel_rfl) rfl rfl
          have e2 : a.tmps[37]?.getD undef = _ := (Array.getD_eq_getD_getElem? ..).symm.trans d2
          rw [if_pos (wanted_none rfl)]
          have hc := (hb.cell (q := ⟨w.heap.size, 6, none⟩) hl4.out (Nat.ne_of_lt hl3.out)).trans s6'
          refine turn_same (Turns.refl _) (v := .int .u8 (x.i.toNat : Int)) ?_ rfl (hS.other (by rfl))
          clear old dep ho hsz hb hS hLi hnot hyes
          go_simp
        | 4, ho =>
          obtain rfl := Option.some.inj ho
          have o1 : a.tmps.getD 1 undef = _ := old 1 (by kernel_rfl)
          rw [if_pos (wanted_none rfl)]
          refine turn_same (Turns.refl _) (v := .pointer (some ⟨w.heap.size, 6, none⟩)) ?_ rfl (hS.other (by rfl))
          clear old dep ho hsz hb hS hLi hnot hyes
          go_simp
        | 5, ho =>
          obtain rfl := Option.some.inj ho
          have d4 : a.tmps.getD 39 undef = .pointer (some ⟨w.heap.size, 6, none⟩) := dep 4 _ _ (by kernel_rfl) rfl rfl
          have e4 : a.tmps[39]?.getD undef = _ := (Array.getD_eq_getD_getElem? ..).symm.trans d4
          rw [if_pos (wanted_none rfl)]
          have hc := (hb.cell (q := ⟨w.heap.size, 6, none⟩) hl4.out (Nat.ne_of_lt hl3.out)).trans s6'
          refine turn_same (Turns.refl _) (v := .int .u8 (x.i.toNat : Int)) ?_ rfl (hS.other (by rfl))
          clear old dep ho hsz hb hS hLi hnot hyes
          go_simp
        | 6, ho =>
          obtain rfl := Option.some.inj ho
          have d0 : a.tmps.getD 35 undef = .slice (some ⟨w3.heap.size, 0, none⟩) 256 256 := dep 0 _ _ (by kernel_rfl) rfl rfl
          have e0 : a.tmps[35]?.getD undef = _ := (Array.getD_eq_getD_getElem? ..).symm.trans d0
          rw [if_pos (wanted_none rfl)]
          refine turn_same (Turns.refl _) (v := .pointer (some ⟨w3.heap.size, 3, none⟩)) ?_ rfl (hS.other (by rfl))
          clear old dep ho hsz hb hS hLi hnot hyes
          go_simp
        | 7, ho =>
          obtain rfl := Option.some.inj ho
          have d3 : a.tmps.getD 38 undef = .int .u8 (x.i.toNat : Int) := dep 3 _ _ (by kernel_rfl) rfl rfl
          have e3 : a.tmps[38]?.getD undef = _ := (Array.getD_eq_getD_getElem? ..).symm.trans d3
          have d6 : a.tmps.getD 41 undef = .pointer (some ⟨w3.heap.size, 3, none⟩) := dep 6 _ _ (by kernel_rfl) rfl rfl
          have e6 : a.tmps[41]?.getD undef = _ := (Array.getD_eq_getD_getElem? ..).symm.trans d6
          rw [if_pos (wanted_none rfl)]
          obtain ⟨⟨u0, hu0⟩, hf0⟩ := hS.cell 3 (by rw [blk8_size, z256_length]; omega)
          refine turn_skips (w' := w2.setCell ⟨w3.heap.size, 3, none⟩ (.int .u8 (x.i.toNat : Int))) ?_ trivial (hS.at_ 0 rfl rfl hLi) (Turns.own w2 _ _ _)
          clear old dep ho hsz hb hS hLi hnot hyes
          go_simp
        | 8, ho =>
          obtain rfl := Option.some.inj ho
          have d1 : a.tmps.getD 36 undef = .slice (some ⟨w3.heap.size, 0, none⟩) 256 256 := dep 1 _ _ (by kernel_rfl) rfl rfl
          have e1 : a.tmps[36]?.getD undef = _ := (Array.getD_eq_getD_getElem? ..).symm.trans d1
          rw [if_pos (wanted_none rfl)]
          refine turn_same (Turns.refl _) (v := .pointer (some ⟨w3.heap.size, 200, none⟩)) ?_ rfl (hS.other (by rfl))
          clear old dep ho hsz hb hS hLi hnot hyes
          go_simp
        | 9, ho =>
          obtain rfl := Option.some.inj ho
          have d5 : a.tmps.getD 40 undef = .int .u8 (x.i.toNat : Int) := dep 5 _ _ (by kernel_rfl) rfl rfl
          have e5 : a.tmps[40]?.getD undef = _ := (Array.getD_eq_getD_getElem? ..).symm.trans d5
          have d8 : a.tmps.getD 42 undef = .pointer (some ⟨w3.heap.size, 200, none⟩) := dep 8 _ _ (by kernel_rfl) rfl rfl
          have e8 : a.tmps[42]?.getD undef = _ := (Array.getD_eq_getD_getElem? ..).symm.trans d8
          rw [if_pos (wanted_none rfl)]
          obtain ⟨⟨u0, hu0⟩, hf0⟩ := hS.cell 200 (by rw [blk8_size, z256_length]; omega)
          refine turn_skips (w' := w2.setCell ⟨w3.heap.size, 200, none⟩ (.int .u8 (x.i.toNat : Int))) ?_ trivial (hS.at_ 1 rfl rfl hLi) (Turns.own w2 _ _ _)
          clear old dep ho hsz hb hS hLi hnot hyes
          go_simp
        | i + 10, ho => exact absurd ho (by simp)
      · intro a w5 hb hS hsz hdf fin keep
        obtain ⟨tm, df⟩ := a
        have hx := frame_of [35, 36, 37, 38, 39, 40, 41, 42] (by kernel_rfl) hsz keep
        dsimp only at hdf hx
        simp only [List.foldl_cons, List.foldl_nil] at hx
        subst hdf
        clear hsz keep
        have kn : tm.getD 35 undef = .slice (some ⟨w3.heap.size, 0, none⟩) 256 256 := fin 0 _ _ rfl rfl
        rw [kn] at hx
        clear kn
        have kn : tm.getD 36 undef = .slice (some ⟨w3.heap.size, 0, none⟩) 256 256 := fin 1 _ _ rfl rfl
        rw [kn] at hx
        clear kn
        have kn : tm.getD 37 undef = .pointer (some ⟨w.heap.size, 6, none⟩) := fin 2 _ _ rfl rfl
        rw [kn] at hx
        clear kn
        have kn : tm.getD 38 undef = .int .u8 (x.i.toNat : Int) := fin 3 _ _ rfl rfl
        rw [kn] at hx
        clear kn
        have kn : tm.getD 39 undef = .pointer (some ⟨w.heap.size, 6, none⟩) := fin 4 _ _ rfl rfl
        rw [kn] at hx
        clear kn
        have kn : tm.getD 40 undef = .int .u8 (x.i.toNat : Int) := fin 5 _ _ rfl rfl
        rw [kn] at hx
        clear kn
        have kn : tm.getD 41 undef = .pointer (some ⟨w3.heap.size, 3, none⟩) := fin 6 _ _ rfl rfl
        rw [kn] at hx
        clear kn
        have kn : tm.getD 42 undef = .pointer (some ⟨w3.heap.size, 200, none⟩) := fin 8 _ _ rfl rfl
        rw [kn] at hx
        clear kn
        clear fin
        simp only [List.setIfInBounds_toArray, List.set_cons_succ, List.set_cons_zero] at hx
        subst hx
        have B5 : Blk w5 w3.heap.size 5 (blk8 (imgL x.i)) := (filled_img x.i) ▸ hS
        have S5 := S4.turns hb (fun k hk => by rw [hk]; exact hg3.out)
        have hcv := conv_blk 256 (imgL_length x.i) B5
        have S6 : Sdd w (w5.setCell ⟨g, 6, none⟩ (.string ⟨(imgL x.i).toArray⟩)) #[.int .i64 x.k, .int .i64 x.t, .int .i64 x.p, .int .i64 x.s, .int .u8 (x.b.toNat : Int), .int .u8 (x.a.toNat : Int), .int .u8 (x.i.toNat : Int), .slice A n c] g #[.int .i64 (sK x.k : Int), .int .i64 (sT x.t : Int), .int .i64 (sP x.p : Int), .int .i64 (sS x.s : Int), .string (cellB x.b), .string (cellB x.a), .string ⟨(imgL x.i).toArray⟩, .slice none 0 0] := S5.set 6 _
        have e6 := S5.rcd.cell 6 _ rfl
        have f6 := S5.rcd.frozen 6
        clear S3 S4 S5 B5 hb hS
        obtain ⟨u0, u1, u2, u3, u4, u5, u6, u7⟩ := S6.cells
        have v7 := S6.box.cell 7 _ rfl
        have hgl : g < w5.heap.size := by simpa [World.setCell] using S6.rcd.lt
        have hfr := S6.rcd.frozen 7
        by_cases hk : sK x.k = 7
        · have hk7 : ((sK x.k : Int) == 7) = true := by rw [beq_iff_eq]; omega
          by_cases hn0 : 0 < n
          · have hn1 : decide ((n : Int) > 0) = true := decide_eq_true (by omega)
            have hmk := run_make6
            have HD := hide (show (seedR x).ds = (x.ds ++ z6).take 6 by unfold seedR; exact if_pos ⟨hk, by omega⟩)
            have hl6 := hide (show ((x.ds ++ z6).take 6).length = 6 by rw [List.length_take, List.length_append, z6_length]; omega)
            have S7 := (S6.set 7 (.slice (some ⟨w5.heap.size, 0, none⟩) 6 6)).alloc (.cells (u64s z6).toArray 44)
            have R7 : Blk (((w5.setCell ⟨g, 6, none⟩ (.string ⟨(imgL x.i).toArray⟩)).setCell ⟨g, 7, none⟩ (.slice (some ⟨w5.heap.size, 0, none⟩) 6 6)).alloc (.cells (u64s z6).toArray 44)) w5.heap.size 44 (u64s z6).toArray := heap_at _ _ (by simp [World.setCell])
            have D7 := hv.below (S7.bel)
            obtain ⟨w8, hcp, B8, T8⟩ := run_copy64 R7 z6_length D7 hn
            have S8 := S7.turns T8 (fun k hk => by rw [hk]; exact hgl)
            have x7 := S7.box.cell 7 _ rfl
            have y7 := S7.rcd.cell 7 _ rfl
            have e6 : x.ds.take 6 ++ z6.drop (min n 6) = (x.ds ++ z6).take 6 := by
              rw [← hn, List.take_append]
              congr 1
              unfold z6
              rw [List.take_replicate, List.drop_replicate]
              congr 1
              omega
            rw [e6] at B8
            have HB8 := hide B8
            have HS8 := hide S8
            obtain ⟨q0, q1, q2, q3, q4, q5, q6, q7⟩ := S8.cells
            obtain ⟨t0, t1, t2, t3, t4, t5, t6, t7⟩ := S8.rcells
            obtain ⟨f0, f1, f2, f3, f4, f5, f6, f7⟩ := S8.rfz
            clear B8 S8 T8 R7 S7 D7
            go_wp2
            refine bodyPost_ret (v := .agg #[.int .i64 7, .int .i64 (sT x.t : Int), .int .i64 (sP x.p : Int), .int .i64 (sS x.s : Int), .string (cellB x.b), .string (cellB x.a), .string ⟨(imgL x.i).toArray⟩, .slice (some ⟨w5.heap.size, 0, none⟩) 6 6]) (by simp [results, Try.results11, go_sem, t0, t1, t2, t3, t4, t5, t6, t7]) rfl ⟨some ⟨w5.heap.size, 0, none⟩, 6, ?_, ?_, set8_below HS8.out.bel (by omega)⟩
            · rw [HD.out, hl6.out]
              show _ = Ending.returned (.agg #[.int .i64 (sK x.k : Int), .int .i64 (sT x.t : Int), .int .i64 (sP x.p : Int), .int .i64 (sS x.s : Int), .string (cellB x.b), .string (cellB x.a), .string (imgB x.i), .slice (some ⟨w5.heap.size, 0, none⟩) 6 6])
              rw [hk, HI.out]
              rfl
            · rw [HD.out, hl6.out]
              have hlt' := HS8.out.lt
              exact seed8_btw HB8.out (by omega) hl6.out (by omega)
          · have hnz : n = 0 := by omega
            have HD := hide (show (seedR x).ds = [] by unfold seedR; exact if_neg (fun h => by omega))
            have HS8 := hide S6
            obtain ⟨t0, t1, t2, t3, t4, t5, t6, t7⟩ := S6.rcells
            obtain ⟨f0, f1, f2, f3, f4, f5, f6, f7⟩ := S6.rfz
            go_wp2
            refine bodyPost_ret (v := .agg #[.int .i64 7, .int .i64 (sT x.t : Int), .int .i64 (sP x.p : Int), .int .i64 (sS x.s : Int), .string (cellB x.b), .string (cellB x.a), .string ⟨(imgL x.i).toArray⟩, .slice none 0 0]) (by simp [results, Try.results11, go_sem, t0, t1, t2, t3, t4, t5, t6, t7]) rfl ⟨none, 0, ?_, ?_, set8_below HS8.out.bel (by omega)⟩
            · rw [HD.out]
              show _ = Ending.returned (.agg #[.int .i64 (sK x.k : Int), .int .i64 (sT x.t : Int), .int .i64 (sP x.p : Int), .int .i64 (sS x.s : Int), .string (cellB x.b), .string (cellB x.a), .string (imgB x.i), .slice none 0 0])
              rw [hk, HI.out]
              rfl
            · rw [HD.out]
              exact ⟨none, 0, rfl, Nat.le_refl _, fun h => absurd h (by simp [u64s])⟩
        · have hk7 : ((sK x.k : Int) == 7) = false := by rw [beq_eq_false_iff_ne]; omega
          have HD := hide (show (seedR x).ds = [] by unfold seedR; exact if_neg (fun h => by omega))
          have HS8 := hide S6
          obtain ⟨t0, t1, t2, t3, t4, t5, t6, t7⟩ := S6.rcells
          obtain ⟨f0, f1, f2, f3, f4, f5, f6, f7⟩ := S6.rfz
          go_wp2
          refine bodyPost_ret (v := .agg #[.int .i64 (sK x.k : Int), .int .i64 (sT x.t : Int), .int .i64 (sP x.p : Int), .int .i64 (sS x.s : Int), .string (cellB x.b), .string (cellB x.a), .string ⟨(imgL x.i).toArray⟩, .slice none 0 0]) (by simp [results, Try.results11, go_sem, t0, t1, t2, t3, t4, t5, t6, t7]) rfl ⟨none, 0, ?_, ?_, set8_below HS8.out.bel (by omega)⟩
          · rw [HD.out]
            show _ = Ending.returned (.agg #[.int .i64 (sK x.k : Int), .int .i64 (sT x.t : Int), .int .i64 (sP x.p : Int), .int .i64 (sS x.s : Int), .string (cellB x.b), .string (cellB x.a), .string (imgB x.i), .slice none 0 0])
            rw [HI.out]
          · rw [HD.out]
            exact ⟨none, 0, rfl, Nat.le_refl _, fun h => absurd h (by simp [u64s])⟩
end Go.Proofs.Ytofnldmbokdkbaa
