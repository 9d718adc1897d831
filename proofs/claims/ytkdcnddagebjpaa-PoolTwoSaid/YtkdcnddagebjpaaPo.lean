/-
  A pool in memory: its frames, their pages; the lane and the disk beside it.
-/
import Derived.Test.YtkdcnddagebjpaaC1
namespace Go.Proofs.Ytkdcnddagebjpaa
open Go.RowKit
set_option maxRecDepth 20000
set_option linter.unusedSimpArgs false
set_option linter.unusedVariables false

/-- A pointer to a block, or nil. -/
def pv : Option Nat → Value
  | none => .pointer none
  | some b => .pointer (some ⟨b, 0, none⟩)
/-- A frame: the block of its page, if it has one, and what lies there. -/
structure Fm where
  pb : Option Nat
  num : Nat
  req : Bool
  dirty : Bool
  since : Nat
  pg : Pg
def fZ : Fm := ⟨none, 0, false, false, 0, pZ⟩
/-- A pool, as data. -/
structure Po where
  r : Nat
  f : Nat → Fm
  hand : Nat
def Po.cells (P : Po) (dg g : Nat) : Array Value := #[ptr dg, .int .i64 (P.r : Int), ptr g,
  pv (P.f 0).pb, .int .i64 ((P.f 0).num : Int), .bool (P.f 0).req, .bool (P.f 0).dirty, .int .u64 ((P.f 0).since : Int),
  pv (P.f 1).pb, .int .i64 ((P.f 1).num : Int), .bool (P.f 1).req, .bool (P.f 1).dirty, .int .u64 ((P.f 1).since : Int),
  pv (P.f 2).pb, .int .i64 ((P.f 2).num : Int), .bool (P.f 2).req, .bool (P.f 2).dirty, .int .u64 ((P.f 2).since : Int), .int .i64 (P.hand : Int)]
def Po.set (P : Po) (i : Nat) (x : Fm) : Po := ⟨P.r, fun j => if j = i then x else P.f j, P.hand⟩
def Po.setHand (P : Po) (h : Nat) : Po := ⟨P.r, P.f, h⟩
theorem Po.set_same (P : Po) (i : Nat) (x : Fm) : (P.set i x).f i = x := if_pos rfl
theorem Po.set_other (P : Po) {i j : Nat} (x : Fm) (h : j ≠ i) : (P.set i x).f j = P.f j := if_neg h
theorem Po.set_r (P : Po) (i : Nat) (x : Fm) : (P.set i x).r = P.r := rfl
theorem Po.set_set (P : Po) (i : Nat) (x y : Fm) : (P.set i x).set i y = P.set i y := by
  unfold Po.set
  congr 1
  funext j
  dsimp only
  split <;> rfl
/-- Frames' own cells. -/
def Fm.cells (x : Fm) : List Value := [pv x.pb, .int .i64 (x.num : Int), .bool x.req, .bool x.dirty, .int .u64 (x.since : Int)]
theorem Po.get (P : Po) (dg g : Nat) {i c : Nat} (hi : i < 3) (hc : c < 5) : (P.cells dg g)[3 + i * 5 + c]? = (P.f i).cells[c]? := by
  match i, hi, c, hc with
  | 0, _, 0, _ => rfl
  | 0, _, 1, _ => rfl
  | 0, _, 2, _ => rfl
  | 0, _, 3, _ => rfl
  | 0, _, 4, _ => rfl
  | 1, _, 0, _ => rfl
  | 1, _, 1, _ => rfl
  | 1, _, 2, _ => rfl
  | 1, _, 3, _ => rfl
  | 1, _, 4, _ => rfl
  | 2, _, 0, _ => rfl
  | 2, _, 1, _ => rfl
  | 2, _, 2, _ => rfl
  | 2, _, 3, _ => rfl
  | 2, _, 4, _ => rfl
theorem Po.put_cell (P : Po) (dg g : Nat) {i c : Nat} (hi : i < 3) (hc : c < 5) {x : Fm} {v : Value} (hx : x.cells = (P.f i).cells.set c v) : (P.cells dg g).setIfInBounds (3 + i * 5 + c) v = (P.set i x).cells dg g := by
  unfold Fm.cells at hx
  match i, hi, c, hc with
  | 0, _, 0, _ => simp at hx; simp [Po.cells, Po.set, hx]
  | 0, _, 1, _ => simp at hx; simp [Po.cells, Po.set, hx]
  | 0, _, 2, _ => simp at hx; simp [Po.cells, Po.set, hx]
  | 0, _, 3, _ => simp at hx; simp [Po.cells, Po.set, hx]
  | 0, _, 4, _ => simp at hx; simp [Po.cells, Po.set, hx]
  | 1, _, 0, _ => simp at hx; simp [Po.cells, Po.set, hx]
  | 1, _, 1, _ => simp at hx; simp [Po.cells, Po.set, hx]
  | 1, _, 2, _ => simp at hx; simp [Po.cells, Po.set, hx]
  | 1, _, 3, _ => simp at hx; simp [Po.cells, Po.set, hx]
  | 1, _, 4, _ => simp at hx; simp [Po.cells, Po.set, hx]
  | 2, _, 0, _ => simp at hx; simp [Po.cells, Po.set, hx]
  | 2, _, 1, _ => simp at hx; simp [Po.cells, Po.set, hx]
  | 2, _, 2, _ => simp at hx; simp [Po.cells, Po.set, hx]
  | 2, _, 3, _ => simp at hx; simp [Po.cells, Po.set, hx]
  | 2, _, 4, _ => simp at hx; simp [Po.cells, Po.set, hx]
/-- The blocks that no call of the lane's turns. -/
def PX (X : Nat → Prop) (q : Nat) (P : Po) : Nat → Prop := fun k => X k ∨ k = q ∨ ∃ i, i < 3 ∧ (P.f i).pb = some k
structure PAt (w : World) (X : Nat → Prop) (dg : Nat) (d : Ds) (g : Nat) (l : Ln) (kv : Value) (q : Nat) (P : Po) : Prop where
  ln : LnAt w (PX X q P) dg d g l kv
  xq : ¬ X q
  blk : Blk w q 92 (P.cells dg g)
  pg : ∀ i b, i < 3 → (P.f i).pb = some b → PgB w b (P.f i).pg ∧ ¬ X b ∧ b ≠ q
  apart : ∀ i j b, i < 3 → j < 3 → (P.f i).pb = some b → (P.f j).pb = some b → i = j
section
variable {w w' : World} {X Y : Nat → Prop} {dg : Nat} {d d' : Ds} {g : Nat} {l l' : Ln} {kv kv' : Value} {q : Nat} {P P' : Po}
theorem PAt.below (h : PAt w X dg d g l kv q P) (hb : Below w.heap.size w w') : PAt w' X dg d g l kv q P :=
  ⟨h.ln.below hb, h.xq, h.blk.below hb, fun i b hi e => ⟨(h.pg i b hi e).1.below hb, (h.pg i b hi e).2⟩, h.apart⟩
/-- Behind a call of the lane's, or the disk's. -/
theorem PAt.laned (h : PAt w X dg d g l kv q P) (hl : LnAt w' (PX X q P) dg d' g l' kv') (ho : Out (PX X q P) w w') : PAt w' X dg d' g l' kv' q P :=
  ⟨hl, h.xq, ho.blk h.blk (.inr (.inl rfl)), fun i b hi e => ⟨Out.blk ho (h.pg i b hi e).1 (.inr (.inr ⟨i, hi, e⟩)), (h.pg i b hi e).2⟩, h.apart⟩
theorem PAt.outX (ho : Out (PX X q P) w w') : Out X w w' := ho.less (fun _ hk => .inl hk)
/-- Behind a store into the pool's own block: pages and their blocks are as they were. -/
theorem PAt.stored (h : PAt w X dg d g l kv q P) (hk : Kept (fun k => k = q) w w') (hb : Blk w' q 92 (P'.cells dg g)) (hp : ∀ i, i < 3 → (P'.f i).pb = (P.f i).pb ∧ ((P.f i).pb.isSome = true → (P'.f i).pg = (P.f i).pg)) : PAt w' X dg d g l kv q P' := by
  refine ⟨(h.ln.foreign hk (fun k e => .inr (.inl e))).sub ?_, h.xq, hb, ?_, ?_⟩
  · rintro k (hk | hk | ⟨i, hi, e⟩)
    · exact .inl hk
    · exact .inr (.inl hk)
    · exact .inr (.inr ⟨i, hi, by rw [← (hp i hi).1]; exact e⟩)
  · intro i b hi e
    rw [(hp i hi).1] at e
    rw [(hp i hi).2 (by rw [e]; rfl)]
    obtain ⟨h1, h2, h3⟩ := h.pg i b hi e
    exact ⟨hk.blk h1 h3, h2, h3⟩
  · intro i j b hi hj e1 e2
    rw [(hp i hi).1] at e1
    rw [(hp j hj).1] at e2
    exact h.apart i j b hi hj e1 e2
theorem PAt.outQ (h : PAt w X dg d g l kv q P) (hk : Kept (fun k => k = q) w w') : Out X w w' := hk.mono (fun k e => .inl (by rw [e]; exact h.xq))
theorem kept_cell (w : World) (g i : Nat) (u : Value) : Kept (fun k => k = g) w (w.setCell ⟨g, i, none⟩ u) := Kept.setCell w ⟨g, i, none⟩ u
/-- A cell of frame i stored. -/
theorem PAt.cellF (h : PAt w X dg d g l kv q P) {i c : Nat} (hi : i < 3) (hc : c < 5) {x : Fm} {v : Value} (hx : x.cells = (P.f i).cells.set c v) (h1 : x.pb = (P.f i).pb) (h2 : x.pg = (P.f i).pg) : PAt (w.setCell ⟨q, 3 + i * 5 + c, none⟩ v) X dg d g l kv q (P.set i x) := by
  refine h.stored (kept_cell _ _ _ _) ?_ ?_
  · rw [← P.put_cell dg g hi hc hx]
    exact h.blk.set_ _ _
  · intro j _
    by_cases e : j = i
    · subst e
      rw [P.set_same]
      exact ⟨h1, fun _ => h2⟩
    · rw [P.set_other x e]
      exact ⟨rfl, fun _ => rfl⟩
theorem PAt.setHand (h : PAt w X dg d g l kv q P) (n : Nat) : PAt (w.setCell ⟨q, 18, none⟩ (.int .i64 (n : Int))) X dg d g l kv q (P.setHand n) :=
  h.stored (P' := P.setHand n) (kept_cell _ _ _ _) (by
    have := h.blk.set_ 18 (.int .i64 (n : Int))
    exact this) (fun i _ => ⟨rfl, fun _ => rfl⟩)
/-- The page of frame i turns. -/
theorem PAt.paged (h : PAt w X dg d g l kv q P) {i b : Nat} (hi : i < 3) (e : (P.f i).pb = some b) (hk : Kept (fun k => k = b) w w') {x : Fm} (hx : x.cells = (P.f i).cells) (hpb : x.pb = (P.f i).pb) (hp : PgB w' b x.pg) : PAt w' X dg d g l kv q (P.set i x) := by
  have hpx : ∀ k, PX X q (P.set i x) k → PX X q P k := by
    rintro k (hk | hk | ⟨j, hj, ej⟩)
    · exact .inl hk
    · exact .inr (.inl hk)
    · by_cases hji : j = i
      · subst hji
        rw [P.set_same, hpb] at ej
        exact .inr (.inr ⟨j, hj, ej⟩)
      · rw [P.set_other x hji] at ej
        exact .inr (.inr ⟨j, hj, ej⟩)
  have hb := h.pg i b hi e
  refine ⟨(h.ln.foreign hk (fun k ek => .inr (.inr ⟨i, hi, by rw [ek]; exact e⟩))).sub hpx, h.xq, ?_, ?_, ?_⟩
  · have e0 : (P.set i x).cells dg g = P.cells dg g := by
      have := P.put_cell dg g hi (c := 0) (by omega) (x := x) (v := pv (P.f i).pb) (by rw [hx]; rfl)
      rw [← this]
      apply Array.ext_getElem?
      intro j
      rw [Array.getElem?_setIfInBounds]
      split
      · rename_i ej
        subst ej
        rw [P.get dg g hi (by omega)]
        have hs : (P.cells dg g).size = 19 := rfl
        rw [if_pos (by rw [hs]; omega)]
        rfl
      · rfl
    rw [e0]
    exact hk.blk h.blk (fun e => hb.2.2 e.symm)
  · intro j c hj ej
    by_cases hji : j = i
    · subst hji
      rw [P.set_same] at ej ⊢
      rw [hpb, e] at ej
      obtain rfl := Option.some.inj ej
      exact ⟨hp, hb.2⟩
    · rw [P.set_other x hji] at ej ⊢
      obtain ⟨h1, h2⟩ := h.pg j c hj ej
      refine ⟨hk.blk h1 (fun ec => ?_), h2⟩
      rw [ec] at ej
      exact hji (h.apart j i b hj hi ej e)
  · intro j m c hj hm e1 e2
    have f : ∀ n, ((P.set i x).f n).pb = (P.f n).pb := by
      intro n
      by_cases hn : n = i
      · subst hn; rw [P.set_same, hpb]
      · rw [P.set_other x hn]
    rw [f] at e1 e2
    exact h.apart j m c hj hm e1 e2
/-- A frame's cells. -/
theorem PAt.cell (h : PAt w X dg d g l kv q P) {i : Nat} (hi : i < 3) : w.cell? ⟨q, 3 + i * 5, none⟩ = some (pv (P.f i).pb) ∧ w.cell? ⟨q, 3 + i * 5 + 1, none⟩ = some (.int .i64 ((P.f i).num : Int)) ∧ w.cell? ⟨q, 3 + i * 5 + 2, none⟩ = some (.bool (P.f i).req) ∧ w.cell? ⟨q, 3 + i * 5 + 3, none⟩ = some (.bool (P.f i).dirty) ∧ w.cell? ⟨q, 3 + i * 5 + 4, none⟩ = some (.int .u64 ((P.f i).since : Int)) :=
  ⟨h.blk.cell _ _ ((P.get dg g hi (c := 0) (by omega)).trans rfl), h.blk.cell _ _ ((P.get dg g hi (c := 1) (by omega)).trans rfl), h.blk.cell _ _ ((P.get dg g hi (c := 2) (by omega)).trans rfl), h.blk.cell _ _ ((P.get dg g hi (c := 3) (by omega)).trans rfl), h.blk.cell _ _ ((P.get dg g hi (c := 4) (by omega)).trans rfl)⟩
theorem PAt.head (h : PAt w X dg d g l kv q P) : w.cell? ⟨q, 0, none⟩ = some (ptr dg) ∧ w.cell? ⟨q, 1, none⟩ = some (.int .i64 (P.r : Int)) ∧ w.cell? ⟨q, 2, none⟩ = some (ptr g) ∧ w.cell? ⟨q, 18, none⟩ = some (.int .i64 (P.hand : Int)) :=
  ⟨h.blk.cell 0 _ rfl, h.blk.cell 1 _ rfl, h.blk.cell 2 _ rfl, h.blk.cell 18 _ rfl⟩
theorem PAt.frozen (h : PAt w X dg d g l kv q P) (i : Nat) : w.frozen? ⟨q, i, none⟩ = false := h.blk.frozen i
/-- A frame's page is dropped, or given. -/
theorem PAt.given (h : PAt w X dg d g l kv q P) {i b : Nat} (hi : i < 3) (hb : Below w.heap.size w w') (hnew : w.heap.size ≤ b) (hlt : b < w'.heap.size) {w2 : World} (hk : Kept (fun k => k = q) w' w2) {x : Fm} (hx : x.pb = some b) (hp : PgB w2 b x.pg) (hbl : Blk w2 q 92 ((P.set i x).cells dg g)) : PAt w2 X dg d g l kv q (P.set i x) := by
  have h' := h.below hb
  have hq := h.blk.lt
  have hXb : ¬ X b := fun hx => by
    have := h.ln.many.1 b (.inl (.inl hx))
    omega
  have hpx : ∀ k, PX X q (P.set i x) k → PX X q P k ∨ (w.heap.size ≤ k ∧ k < w'.heap.size) := by
    rintro k (hk | hk | ⟨j, hj, ej⟩)
    · exact .inl (.inl hk)
    · exact .inl (.inr (.inl hk))
    · by_cases hji : j = i
      · subst hji
        rw [P.set_same, hx] at ej
        obtain rfl := Option.some.inj ej
        exact .inr ⟨hnew, hlt⟩
      · rw [P.set_other x hji] at ej
        exact .inl (.inr (.inr ⟨j, hj, ej⟩))
  have hq2 : ∀ {c : Nat}, (P.f i).pb = some c → c ≠ b := fun {c} ec e => by
    have := (h.pg i c hi ec).1.lt
    omega
  refine ⟨(h.ln.more hb hpx).foreign hk (fun k ek => .inr (.inl ek)), h.xq, hbl, ?_, ?_⟩
  · intro j c hj ej
    by_cases hji : j = i
    · subst hji
      rw [P.set_same] at ej ⊢
      rw [hx] at ej
      obtain rfl := Option.some.inj ej
      exact ⟨hp, hXb, fun e => by omega⟩
    · rw [P.set_other x hji] at ej ⊢
      obtain ⟨h1, h2⟩ := h'.pg j c hj ej
      exact ⟨hk.blk h1 h2.2, h2⟩
  · intro j m c hj hm e1 e2
    by_cases hji : j = i
    · subst hji
      rw [P.set_same, hx] at e1
      obtain rfl := Option.some.inj e1
      by_cases hmi : m = j
      · exact hmi.symm
      · rw [P.set_other x hmi] at e2
        have := (h.pg m b hm e2).1.lt
        omega
    · rw [P.set_other x hji] at e1
      by_cases hmi : m = i
      · subst hmi
        rw [P.set_same, hx] at e2
        obtain rfl := Option.some.inj e2
        have := (h.pg j b hj e1).1.lt
        omega
      · rw [P.set_other x hmi] at e2
        exact h.apart j m c hj hm e1 e2
/-- A frame's page is dropped. -/
theorem PAt.dropped (h : PAt w X dg d g l kv q P) {i : Nat} {x : Fm} (hk : Kept (fun k => k = q) w w') (hx : x.pb = none) (hbl : Blk w' q 92 ((P.set i x).cells dg g)) : PAt w' X dg d g l kv q (P.set i x) := by
  have f : ∀ n c, ((P.set i x).f n).pb = some c → n ≠ i ∧ (P.set i x).f n = P.f n := by
    intro n c e
    by_cases hn : n = i
    · subst hn; rw [P.set_same, hx] at e; cases e
    · exact ⟨hn, P.set_other x hn⟩
  refine ⟨(h.ln.foreign hk (fun k e => .inr (.inl e))).sub ?_, h.xq, hbl, ?_, ?_⟩
  · rintro k (hk | hk | ⟨j, hj, e⟩)
    · exact .inl hk
    · exact .inr (.inl hk)
    · obtain ⟨_, e2⟩ := f j k e
      rw [e2] at e
      exact .inr (.inr ⟨j, hj, e⟩)
  · intro j b hj e
    obtain ⟨_, e2⟩ := f j b e
    rw [e2] at e ⊢
    obtain ⟨h1, h2, h3⟩ := h.pg j b hj e
    exact ⟨hk.blk h1 h3, h2, h3⟩
  · intro j m b hj hm e1 e2
    obtain ⟨_, e3⟩ := f j b e1
    obtain ⟨_, e4⟩ := f m b e2
    rw [e3] at e1
    rw [e4] at e2
    exact h.apart j m b hj hm e1 e2
/-- Other blocks of the caller's. -/
theorem PAt.more (h : PAt w X dg d g l kv q P) (hb : Below w.heap.size w w') (hY : ∀ k, Y k → X k ∨ (w.heap.size ≤ k ∧ k < w'.heap.size)) : PAt w' Y dg d g l kv q P := by
  have h' := h.below hb
  refine ⟨h.ln.more hb ?_, ?_, h'.blk, ?_, h.apart⟩
  · rintro k (hk | hk | hk)
    · exact (hY k hk).imp (fun h => .inl h) id
    · exact .inl (.inr (.inl hk))
    · exact .inl (.inr (.inr hk))
  · intro hq
    rcases hY q hq with h1 | h1
    · exact h.xq h1
    · have := h.blk.lt
      omega
  · intro i b hi e
    refine ⟨(h'.pg i b hi e).1, fun hx => ?_, (h'.pg i b hi e).2.2⟩
    rcases hY b hx with h1 | h1
    · exact (h.pg i b hi e).2.1 h1
    · have := (h.pg i b hi e).1.lt
      omega
end
end Go.Proofs.Ytkdcnddagebjpaa
