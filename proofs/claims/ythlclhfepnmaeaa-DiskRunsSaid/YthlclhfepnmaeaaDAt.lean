/-
  A disk in memory: which blocks it owns, what they hold; what a call may turn.
-/
import Derived.Test.YthlclhfepnmaeaaDsk
import Derived.Test.YthlclhfepnmaeaaApp
import Derived.Test.YthlclhfepnmaeaaOwn
import Derived.Laws.IdiomCopy
import Derived.Deep.MidRow
import Derived.Deep.Upon
namespace Go.Proofs.Ythlclhfepnmaeaa
open Go.RowKit

/-- Of the blocks that were there only those of S may have turned. -/
structure Kept (S : Nat → Prop) (w w' : World) : Prop where
  os : w'.os = w.os
  tape : w'.tape = w.tape
  output : w'.output = w.output
  size : w.heap.size ≤ w'.heap.size
  block : ∀ k, k < w.heap.size → ¬ S k → w'.heap[k]? = w.heap[k]?
theorem Kept.refl (S : Nat → Prop) (w : World) : Kept S w w := ⟨rfl, rfl, rfl, Nat.le_refl _, fun _ _ _ => rfl⟩
theorem Kept.trans {S S' : Nat → Prop} {a b c : World} (h : Kept S a b) (k : Kept S' b c) (hs : ∀ i, S' i → S i ∨ a.heap.size ≤ i) : Kept S a c :=
  ⟨k.os.trans h.os, k.tape.trans h.tape, k.output.trans h.output, Nat.le_trans h.size k.size, fun i hi hn => (k.block i (Nat.lt_of_lt_of_le hi h.size) (fun hc => by rcases hs i hc with h1 | h1; exact hn h1; omega)).trans (h.block i hi hn)⟩
theorem Kept.trans_same {S : Nat → Prop} {a b c : World} (h : Kept S a b) (k : Kept S b c) : Kept S a c := h.trans k (fun _ h => .inl h)
theorem Kept.mono {S S' : Nat → Prop} {a b : World} (h : Kept S a b) (hs : ∀ i, S i → S' i ∨ a.heap.size ≤ i) : Kept S' a b :=
  ⟨h.os, h.tape, h.output, h.size, fun i hi hn => h.block i hi (fun hc => by rcases hs i hc with h1 | h1; exact hn h1; omega)⟩
theorem Kept.of_below {S : Nat → Prop} {a b : World} (h : Below a.heap.size a b) : Kept S a b := ⟨h.os, h.tape, h.output, h.size, fun i hi _ => h.block i hi⟩
theorem Kept.of_grown {a b : World} {row : Option Nat} (h : a.grownBy b row) : Kept (fun k => row = some k) a b := ⟨h.os, h.tape, h.output, h.size, fun i hi hn => h.block i hi (fun e => hn e.symm)⟩
theorem Kept.alloc (S : Nat → Prop) (w : World) (o : Obj) : Kept S w (w.alloc o) := .of_below ((Below.refl _ w).alloc (Nat.le_refl _) o)
theorem Kept.drew {S : Nat → Prop} {a b : World} (h : Kept S a b) : Kept S a b.drew := ⟨h.os, h.tape, h.output, h.size, h.block⟩
theorem Kept.setCell (w : World) (p : Addr) (u : Value) : Kept (fun k => k = p.block) w (w.setCell p u) :=
  ⟨rfl, rfl, rfl, by simp [World.setCell], fun k _ hn => Below.heap_setCell _ _ _ _ hn⟩
theorem Kept.below {S : Nat → Prop} {a b : World} {B : Nat} (h : Kept S a b) (hB : B ≤ a.heap.size) (hs : ∀ k, S k → B ≤ k) : Below B a b :=
  ⟨h.os, h.tape, h.output, h.size, fun k hk => h.block k (by omega) (fun hc => by have := hs k hc; omega)⟩
theorem Kept.blk {S : Nat → Prop} {a b : World} (h : Kept S a b) {g : Nat} {t : TypeId} {cs : Array Value} (hb : Blk a g t cs) (hn : ¬ S g) : Blk b g t cs := (h.block g hb.lt hn).trans hb
theorem Kept.cell {S : Nat → Prop} {a b : World} (h : Kept S a b) {p : Addr} (hlt : p.block < a.heap.size) (hn : ¬ S p.block) : b.cell? p = a.cell? p := World.cell?_of_block (h.block _ hlt hn)
theorem Kept.own {S : Nat → Prop} {a b : World} (h : Kept S a b) {base : Nat} {e : TypeId} {size : Nat} {v : Value} {n : Nat} {xs : List Value} (ho : a.ownsRow base e size v n xs) (hn : ∀ k, v.ownBlock = some k → ¬ S k) : b.ownsRow base e size v n xs := by
  obtain ⟨h1, h2⟩ := ho
  refine ⟨h1, ?_⟩
  rcases h2 with h2 | ⟨g, cap, cur, rfl, hb, hh, hr⟩
  · exact .inl h2
  · exact .inr ⟨g, cap, cur, rfl, hb, (h.block g (Blk.lt hh) (hn g rfl)).trans hh, hr⟩
/-- A row whose array S doesn't hold. -/
theorem Kept.row {S : Nat → Prop} {a b : World} (h : Kept S a b) {B : Nat} {v : Value} {xs : List Value} (hr : Row a B v xs) (hB : B ≤ a.heap.size) (hn : ∀ k, k < B → ¬ S k) : Row b B v xs :=
  hr.keep fun p hp => h.cell (by omega) (hn _ hp)

theorem setCells_tape (g : Nat) : ∀ (vs : List Value) (o : Nat) (w : World), (w.setCells g o vs).tape = w.tape
  | [], _, _ => rfl
  | _ :: r, o, _ => by rw [World.setCells, setCells_tape g r (o + 1)]; rfl
theorem setCells_size (g : Nat) : ∀ (vs : List Value) (o : Nat) (w : World), (w.setCells g o vs).heap.size = w.heap.size
  | [], _, _ => rfl
  | _ :: r, o, _ => by rw [World.setCells, setCells_size g r (o + 1)]; simp [World.setCell]
theorem Kept.setCells (w : World) (g o : Nat) (vs : List Value) : Kept (fun k => k = g) w (w.setCells g o vs) :=
  ⟨World.os_setCells w g o vs, setCells_tape g vs o w, World.output_setCells w g o vs, Nat.le_of_eq (setCells_size g vs o w).symm, fun _ hk hn => World.heap_setCells_other w g o vs hk hn⟩
theorem Blk.setCells {g : Nat} {t : TypeId} : ∀ (vs : List Value) (o : Nat) (w : World) (cur : Array Value), Blk w g t cur → o + vs.length ≤ cur.size → Blk (w.setCells g o vs) g t (cur.toList.take o ++ (vs ++ cur.toList.drop (o + vs.length))).toArray
  | [], o, w, cur, h, _ => by simpa [World.setCells] using h
  | v :: r, o, w, cur, h, hle => by
    simp only [List.length_cons] at hle
    have h1 := Blk.setCells r (o + 1) (w.setCell ⟨g, o, none⟩ v) (cur.setIfInBounds o v) (h.set_ o v) (by simp; omega)
    have hlt : o < cur.toList.length := by simpa using (by omega : o < cur.size)
    have e1 : (cur.setIfInBounds o v).toList.take (o + 1) = cur.toList.take o ++ [v] := by
      rw [Array.toList_setIfInBounds, List.take_succ_eq_append_getElem (by simpa using hlt), List.take_set_of_le (Nat.le_refl _)]
      simp
    have e2 : (cur.setIfInBounds o v).toList.drop (o + 1 + r.length) = cur.toList.drop (o + (r.length + 1)) := by
      rw [Array.toList_setIfInBounds, List.drop_set_of_lt (by omega)]
      congr 1; omega
    rw [e1, e2] at h1
    rw [World.setCells]
    simpa using h1

/-- Region i of the row of regions cs. -/
def RgAt (w : World) (lab : Nat → Nat) (cs : Array Value) (i n : Nat) (r : Rg) : Prop :=
  ∃ (sb : Nat) (pv : Value), cs[i * 4]? = some (.slice (some ⟨sb, 0, none⟩) n n) ∧ cs[i * 4 + 1]? = some pv ∧ cs[i * 4 + 2]? = some (.bool r.armed) ∧ cs[i * 4 + 3]? = some (.int .i64 (r.left : Int)) ∧
    lab sb = 3 + i * 2 ∧ Blk w sb 60 (blk8 r.secs.flatten) ∧ w.ownsRow 0 64 129 pv r.ws.length (pcells r.pend) ∧ (∀ k, pv.ownBlock = some k → lab k = 4 + i * 2) ∧ r.Fit n
structure Ds where
  size : Nat
  regs : List Rg
  writes : Nat
/-- Block g is a disk; its blocks are those that are labelled. -/
def DkAt (w : World) (lab : Nat → Nat) (g : Nat) (d : Ds) : Prop :=
  (∀ k, lab k ≠ 0 → k < w.heap.size) ∧ lab g = 1 ∧ (1 ≤ d.size ∧ d.size ≤ 65536 ∧ 1 ≤ d.regs.length ∧ d.regs.length ≤ 64) ∧
  ∃ (g2 : Nat) (cs : Array Value), lab g2 = 2 ∧ Blk w g 52 #[.slice (some ⟨g2, 0, none⟩) d.regs.length d.regs.length, .int .i64 (d.writes : Int)] ∧ Blk w g2 56 cs ∧ cs.size = d.regs.length * 4 ∧
    ∀ i r, d.regs[i]? = some r → RgAt w lab cs i d.size r
/-- The pointer to block g. -/
def ptr (g : Nat) : Value := .pointer (some ⟨g, 0, none⟩)
theorem RgAt.keep {w w' : World} {lab : Nat → Nat} {cs : Array Value} {i n : Nat} {r : Rg} {S : Nat → Prop} (h : RgAt w lab cs i n r) (hk : Kept S w w') (hs : ∀ k, S k → lab k ≠ 3 + i * 2 ∧ lab k ≠ 4 + i * 2) : RgAt w' lab cs i n r := by
  obtain ⟨sb, pv, h0, h1, h2, h3, hl, hb, ho, hp, hf⟩ := h
  exact ⟨sb, pv, h0, h1, h2, h3, hl, hk.blk hb (fun hc => (hs _ hc).1 hl), hk.own ho (fun k hk' hc => (hs _ hc).2 (hp k hk')), hp, hf⟩
/-- Nothing of it has turned. -/
theorem DkAt.keep {w w' : World} {lab : Nat → Nat} {g : Nat} {d : Ds} {S : Nat → Prop} (h : DkAt w lab g d) (hk : Kept S w w') (hs : ∀ k, S k → lab k = 0) : DkAt w' lab g d := by
  obtain ⟨hl, hg, hz, g2, cs, hg2, hb, hb2, hcs, hr⟩ := h
  refine ⟨fun k hk' => Nat.lt_of_lt_of_le (hl k hk') hk.size, hg, hz, g2, cs, hg2, hk.blk hb (fun hc => by rw [hs _ hc] at hg; cases hg), hk.blk hb2 (fun hc => by rw [hs _ hc] at hg2; cases hg2), hcs, fun i r hi => (hr i r hi).keep hk (fun k hc => ?_)⟩
  rw [hs k hc]; omega
theorem DkAt.below {w w' : World} {lab : Nat → Nat} {g : Nat} {d : Ds} (h : DkAt w lab g d) (hb : Below w.heap.size w w') : DkAt w' lab g d := h.keep (Kept.of_below (S := fun _ => False) hb) (fun _ hc => hc.elim)
theorem DkAt.lt {w : World} {lab : Nat → Nat} {g : Nat} {d : Ds} (h : DkAt w lab g d) : g < w.heap.size := h.1 g (by rw [h.2.1]; decide)
end Go.Proofs.Ythlclhfepnmaeaa
