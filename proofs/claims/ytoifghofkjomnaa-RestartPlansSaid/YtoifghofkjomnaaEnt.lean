/-
  Entries of a log as data, in rows of a call's own: a record, its place; the numbers of each lie in blocks beside.
-/
import Derived.Test.YtoifghofkjomnaaTx
import Derived.Test.YtoifghofkjomnaaB5
namespace Go.Proofs.Ytoifghofkjomnaa
open Go.RowKit Go.Lib
set_option maxRecDepth 20000
set_option linter.unusedSimpArgs false
set_option linter.unusedVariables false

/-- An entry: its record, its place, where its numbers lie. -/
structure Ei where
  r : Rc
  pl : Nat
  A : Option Addr
  c : Nat
def Ei.dv (x : Ei) : Value := .slice x.A x.r.ds.length x.c
def Ei.cells (x : Ei) : List Value := [.int .i64 (x.r.k : Int), .int .i64 (x.r.t : Int), .int .i64 (x.r.p : Int), .int .i64 (x.r.s : Int), .string x.r.b, .string x.r.a, .string x.r.i, .slice x.A x.r.ds.length x.c, .int .u64 (x.pl : Int)]
def Ei.vc (x : Ei) : Array Value := #[.int .i64 (x.r.k : Int), .int .i64 (x.r.t : Int), .int .i64 (x.r.p : Int), .int .i64 (x.r.s : Int), .string x.r.b, .string x.r.a, .string x.r.i, .slice x.A x.r.ds.length x.c, .int .u64 (x.pl : Int)]
def eiZ : Value := .agg #[.int .i64 0, .int .i64 0, .int .i64 0, .int .i64 0, .string ⟨#[]⟩, .string ⟨#[]⟩, .string ⟨#[]⟩, .slice none 0 0, .int .u64 0]
def eiK : Kd Ei where
  T := 40
  TS := 25
  m := 9
  cells := Ei.cells
  z := eiZ
  zs := [.int .i64 0, .int .i64 0, .int .i64 0, .int .i64 0, .string ⟨#[]⟩, .string ⟨#[]⟩, .string ⟨#[]⟩, .slice none 0 0, .int .u64 0]
  bytes := 112
  hT := Try.underlying25
  info := by kernel_rfl
  hz := rfl
  zero := fun w => by kernel_rfl
  hzs := by kernel_rfl
  zlen := rfl
  zone := fun u hu => by simp at hu; rcases hu with rfl | rfl | rfl | rfl | rfl <;> rfl
  size := fun w => by kernel_rfl
  hby := by decide
  hm := by decide
  len := fun x => rfl
  one := fun x u hu => by simp [Ei.cells] at hu; rcases hu with rfl | rfl | rfl | rfl | rfl | rfl | rfl | rfl | rfl <;> rfl
/-- The numbers of an entry can be read, and are few. -/
def DOk (W : World) (x : Ei) : Prop := Rd W x.dv (u64s x.r.ds) ∧ x.r.ds.length ≤ 6
theorem DOk.none {W : World} {x : Ei} (h : x.r.ds = []) : DOk W x := ⟨by unfold Ei.dv; rw [h]; exact Rd.nil_ _ _ _, by rw [h]; exact Nat.zero_le _⟩
/-- The numbers of entries, in blocks of a call's own. -/
def Res.dirt (es : List Ei) : Res where
  At := fun W S => ∀ x ∈ es, RIn W S x.dv (u64s x.r.ds) ∧ x.r.ds.length ≤ 6
  keep := fun h hk hd x hx => ⟨(h x hx).1.keep (fun p hp hs => World.cell?_of_block (hk.block p.block hp (hd _ hs))) hk.size (fun _ _ hs => hs), (h x hx).2⟩
  mono := fun h hs x hx => ⟨(h x hx).1.keep (fun _ _ _ => rfl) (Nat.le_refl _) (fun k hk hS => hs k hS hk), (h x hx).2⟩
section
variable {A0 W W' : World} {F0 : Nat → Prop} {L : List Res} {i : Nat} {es : List Ei}
theorem Ow.dirt (h : Ow A0 F0 W L) (hi : L[i]? = some (Res.dirt es)) : ∀ x ∈ es, DOk W x := by
  obtain ⟨S, h⟩ := h.get hi
  exact fun x hx => ⟨(h x hx).1.rd, (h x hx).2⟩
/-- An entry more, whose numbers are new. -/
theorem Ow.dirty {x : Ei} (h : Ow A0 F0 W L) (hi : L[i]? = some (Res.dirt es)) (hb : Below W.heap.size W W') (hx : RIn W' (fun k => W.heap.size ≤ k) x.dv (u64s x.r.ds)) (h6 : x.r.ds.length ≤ 6) : Ow A0 F0 W' (L.set i (Res.dirt (es ++ [x]))) := by
  obtain ⟨S, h1, h2⟩ := h.split hi
  refine h2 W' _ (Kept.of_below hb) (fun y hy => ?_)
  rcases List.mem_append.1 hy with hy | hy
  · exact ⟨(h1 y hy).1.keep (fun p hp hs => World.cell?_of_block (hb.block p.block hp)) hb.size (fun _ _ hs => .inl hs), (h1 y hy).2⟩
  · obtain rfl : y = x := by simpa using hy
    exact ⟨hx.keep (fun _ _ _ => rfl) (Nat.le_refl _) (fun k _ hs => .inr hs), h6⟩
theorem Ow.nildirt (h : Ow A0 F0 W L) : Ow A0 F0 W (L ++ [Res.dirt []]) := h.push (Below.refl _ _) (fun x hx => by cases hx)
end
/-! Rows among other things (as tr/XRowO has them). -/
section
variable {α : Type} {K : Kd α} {A0 W W' : World} {F0 : Nat → Prop} {L : List Res} {i : Nat} {v v' : Value} {es es' : List α}
theorem Ow.krow (h : Ow A0 F0 W L) (hi : L[i]? = some (Res.row K v es)) : K.Row W v es := let ⟨S, h⟩ := h.get hi; h.1
theorem Ow.newrow (K : Kd α) (h : Ow A0 F0 W L) : Ow A0 F0 W (L ++ [Res.row K (.slice none 0 0) []]) := h.push (Below.refl _ _) ⟨Kd.Row.nil _ _, fun k e => by cases e⟩
/-- A row that another call handed out. -/
theorem Ow.gotrow (h : Ow A0 F0 W L) (hb : Below W.heap.size W W') (hr : K.Row W' v es) (hn : ∀ k, v.ownBlock = some k → W.heap.size ≤ k) : Ow A0 F0 W' (L ++ [Res.row K v es]) := h.push hb ⟨hr, hn⟩
theorem Ow.appended (h : Ow A0 F0 W L) (hi : L[i]? = some (Res.row K v es)) (h1 : K.Row W' v' es') (h2 : W.grownBy W' v.ownBlock) (h3 : v'.ownBlock = v.ownBlock ∨ v'.ownBlock = some W.heap.size) : Ow A0 F0 W' (L.set i (Res.row K v' es')) := by
  obtain ⟨S, ⟨h4, h5⟩, h6⟩ := h.split hi
  refine h6 _ _ ((Kept.of_grown h2).mono (fun k e => .inl (h5 k e))) ⟨h1, fun k e => ?_⟩
  rcases h3 with h3 | h3
  · exact .inl (h5 k (h3 ▸ e))
  · rw [h3] at e
    exact .inr (by have := Option.some.inj e; omega)
/-- A row turned in place. -/
theorem Ow.rowset (h : Ow A0 F0 W L) (hi : L[i]? = some (Res.row K v es)) (h1 : K.Row W' v' es') (h2 : Kept (fun k => v.ownBlock = some k) W W') (h3 : ∀ k, v'.ownBlock = some k → v.ownBlock = some k) : Ow A0 F0 W' (L.set i (Res.row K v' es')) := by
  obtain ⟨S, ⟨h4, h5⟩, h6⟩ := h.split hi
  exact h6 _ _ (h2.mono (fun k e => .inl (h5 k e))) ⟨h1, fun k e => .inl (h5 k (h3 k e))⟩
end
/-! What came in: seeds. -/
theorem infoSeed12 : (Try.prog.info? 51).map (·.size) = some 8 := by kernel_rfl
theorem seed_cells {w wr : World} {B k n0 c0 : Nat} {A0 : Option Addr} {cs : List SeedD} {x : SeedD} (hv : SeedRow w B (.slice A0 n0 c0) cs) (hb : Below B w wr) (hk : cs[k]? = some x) : ∃ b o, A0 = some ⟨b, o, none⟩ ∧ ∃ A n c, x.ds.length = n ∧
    (wr.cell? ⟨b, o + k * 8, none⟩ = some (.int .i64 x.k) ∧ wr.cell? ⟨b, o + k * 8 + 1, none⟩ = some (.int .i64 x.t) ∧ wr.cell? ⟨b, o + k * 8 + 2, none⟩ = some (.int .i64 x.p) ∧ wr.cell? ⟨b, o + k * 8 + 3, none⟩ = some (.int .i64 x.s) ∧
    wr.cell? ⟨b, o + k * 8 + 4, none⟩ = some (.int .u8 (x.b.toNat : Int)) ∧ wr.cell? ⟨b, o + k * 8 + 5, none⟩ = some (.int .u8 (x.a.toNat : Int)) ∧ wr.cell? ⟨b, o + k * 8 + 6, none⟩ = some (.int .u8 (x.i.toNat : Int)) ∧ wr.cell? ⟨b, o + k * 8 + 7, none⟩ = some (.slice A n c)) ∧ Row wr B (.slice A n c) (u64s x.ds) := by
  obtain ⟨A1, cap, e, hcells, hall⟩ := hv
  obtain ⟨rfl, rfl, rfl⟩ : A0 = A1 ∧ n0 = cs.length ∧ c0 = cap := by injection e with e1 e2 e3; exact ⟨e1, e2, e3⟩
  have hkl := (List.getElem?_eq_some_iff.1 hk).1
  obtain ⟨b, o, rfl, hbB, hcell⟩ := hcells (by omega)
  have hf := hall x (List.mem_of_getElem? hk)
  refine ⟨b, o, rfl, ?_⟩
  have hc := hcell k x hk
  obtain ⟨A, c, he, h1, h2⟩ := id hf.row
  have hr := hf.row.below hb
  unfold SeedD.cells at hc
  rw [he, u64s_length] at hc hr
  have g : ∀ (j : Nat) (u : Value), ([.int .i64 x.k, .int .i64 x.t, .int .i64 x.p, .int .i64 x.s, .int .u8 (x.b.toNat : Int), .int .u8 (x.a.toNat : Int), .int .u8 (x.i.toNat : Int), .slice A x.ds.length c] : List Value)[j]? = some u → wr.cell? ⟨b, o + k * 8 + j, none⟩ = some u :=
    fun j u hu => (hb.cell (p := ⟨b, o + k * 8 + j, none⟩) hbB).trans (hc j u hu)
  exact ⟨A, x.ds.length, c, rfl, ⟨g 0 _ rfl, g 1 _ rfl, g 2 _ rfl, g 3 _ rfl, g 4 _ rfl, g 5 _ rfl, g 6 _ rfl, g 7 _ rfl⟩, hr⟩
theorem Blk.eight {w : World} {g : Nat} {t : TypeId} {x0 x1 x2 x3 x4 x5 x6 x7 : Value} (h : Blk w g t #[x0, x1, x2, x3, x4, x5, x6, x7]) : w.cell? ⟨g, 0, none⟩ = some x0 ∧ w.cell? ⟨g, 1, none⟩ = some x1 ∧ w.cell? ⟨g, 2, none⟩ = some x2 ∧ w.cell? ⟨g, 3, none⟩ = some x3 ∧
    w.cell? ⟨g, 4, none⟩ = some x4 ∧ w.cell? ⟨g, 5, none⟩ = some x5 ∧ w.cell? ⟨g, 6, none⟩ = some x6 ∧ w.cell? ⟨g, 7, none⟩ = some x7 :=
  ⟨h.cell 0 _ rfl, h.cell 1 _ rfl, h.cell 2 _ rfl, h.cell 3 _ rfl, h.cell 4 _ rfl, h.cell 5 _ rfl, h.cell 6 _ rfl, h.cell 7 _ rfl⟩
theorem Blk.nine {w : World} {g : Nat} {t : TypeId} {x0 x1 x2 x3 x4 x5 x6 x7 x8 : Value} (h : Blk w g t #[x0, x1, x2, x3, x4, x5, x6, x7, x8]) : w.cell? ⟨g, 0, none⟩ = some x0 ∧ w.cell? ⟨g, 1, none⟩ = some x1 ∧ w.cell? ⟨g, 2, none⟩ = some x2 ∧ w.cell? ⟨g, 3, none⟩ = some x3 ∧
    w.cell? ⟨g, 4, none⟩ = some x4 ∧ w.cell? ⟨g, 5, none⟩ = some x5 ∧ w.cell? ⟨g, 6, none⟩ = some x6 ∧ w.cell? ⟨g, 7, none⟩ = some x7 ∧ w.cell? ⟨g, 8, none⟩ = some x8 :=
  ⟨h.cell 0 _ rfl, h.cell 1 _ rfl, h.cell 2 _ rfl, h.cell 3 _ rfl, h.cell 4 _ rfl, h.cell 5 _ rfl, h.cell 6 _ rfl, h.cell 7 _ rfl, h.cell 8 _ rfl⟩
end Go.Proofs.Ytoifghofkjomnaa
