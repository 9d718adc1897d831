/-
  Transactions in memory: changes, how many there ever were, savepoints; a table of them by pointers. Two layouts: the code's and the model's.
-/
import Derived.Test.YtkegfedbffhnfaaRowK
namespace Go.Proofs.Ytkegfedbffhnfaa
open Go.RowKit Go.Lib
set_option maxRecDepth 20000
set_option linter.unusedSimpArgs false
set_option linter.unusedVariables false

/-- A change. -/
structure Ch where
  page : Int
  slot : Int
  before : ByteArray
instance : Inhabited Ch := ⟨⟨0, 0, ⟨#[]⟩⟩⟩
def Ch.cells (x : Ch) : List Value := [.int .i64 x.page, .int .i64 x.slot, .string x.before]
def Ch.vc (x : Ch) : Array Value := #[.int .i64 x.page, .int .i64 x.slot, .string x.before]
structure Ch.Ok (x : Ch) : Prop where
  page : (Lit.int .i64 x.page).wf = true
  slot : (Lit.int .i64 x.slot).wf = true
def chZ : Value := .agg #[.int .i64 0, .int .i64 0, .string ⟨#[]⟩]
def chK : Kd Ch where
  T := 31
  TS := 35
  m := 3
  cells := Ch.cells
  z := chZ
  zs := [.int .i64 0, .int .i64 0, .string ⟨#[]⟩]
  bytes := 32
  hT := Try.underlying35
  info := by kernel_rfl
  hz := rfl
  zero := fun w => by kernel_rfl
  hzs := by kernel_rfl
  zlen := rfl
  zone := fun u hu => by simp at hu; rcases hu with rfl | rfl | rfl <;> rfl
  size := fun w => by kernel_rfl
  hby := by decide
  hm := by decide
  len := fun x => rfl
  one := fun x u hu => by simp [Ch.cells] at hu; rcases hu with rfl | rfl | rfl <;> rfl
def numK : Kd Nat where
  T := 3
  TS := 36
  m := 1
  cells := fun n => [.int .i64 (n : Int)]
  z := .int .i64 0
  zs := [.int .i64 0]
  bytes := 8
  hT := Try.underlying36
  info := by kernel_rfl
  hz := rfl
  zero := fun w => by kernel_rfl
  hzs := by kernel_rfl
  zlen := rfl
  zone := fun u hu => by simp at hu; subst hu; rfl
  size := fun w => by kernel_rfl
  hby := by decide
  hm := by decide
  len := fun x => rfl
  one := fun x u hu => by simp at hu; subst hu; rfl
/-- A transaction. -/
structure Tx where
  l : List Ch
  ops : Nat
  sv : List Nat
/-- Where its parts lie. -/
structure Lay where
  ty : TypeId
  cs : Value → Nat → Value → Array Value
  iA : Nat
  iS : Nat
  getL : ∀ A n B, (cs A n B)[0]? = some A
  getA : ∀ A n B, (cs A n B)[iA]? = some (.int .i64 (n : Int))
  getS : ∀ A n B, (cs A n B)[iS]? = some B
  setL : ∀ A n B u, (cs A n B).setIfInBounds 0 u = cs u n B
  setA : ∀ A n B m, (cs A n B).setIfInBounds iA (.int .i64 (m : Nat)) = cs A m B
  setS : ∀ A n B u, (cs A n B).setIfInBounds iS u = cs A n u
def layT : Lay := ⟨62, fun A n B => #[A, .int .i64 (n : Int), B], 1, 2, fun _ _ _ => rfl, fun _ _ _ => rfl, fun _ _ _ => rfl, fun _ _ _ _ => rfl, fun _ _ _ _ => rfl, fun _ _ _ _ => rfl⟩
def layM : Lay := ⟨38, fun A n B => #[A, B, .int .i64 (n : Int)], 2, 1, fun _ _ _ => rfl, fun _ _ _ => rfl, fun _ _ _ => rfl, fun _ _ _ _ => rfl, fun _ _ _ _ => rfl, fun _ _ _ _ => rfl⟩
/-- Block x is a transaction, its changes in A's block, its savepoints in B's. -/
structure TxP (y : Lay) (w : World) (x : Nat) (A B : Value) (t : Tx) : Prop where
  blk : Blk w x y.ty (y.cs A t.ops B)
  l : chK.Row w A t.l
  s : numK.Row w B t.sv
  ax : ∀ k, A.ownBlock = some k → k ≠ x
  bx : ∀ k, B.ownBlock = some k → k ≠ x
  ab : ∀ k, A.ownBlock = some k → B.ownBlock ≠ some k
/-- The blocks of it. -/
def txB (x : Nat) (A B : Value) (k : Nat) : Prop := k = x ∨ A.ownBlock = some k ∨ B.ownBlock = some k
section
variable {y : Lay} {w w' : World} {x : Nat} {A B A' B' : Value} {t : Tx} {S : Nat → Prop}
theorem TxP.lt (h : TxP y w x A B t) : ∀ k, txB x A B k → k < w.heap.size := by
  rintro k (rfl | hk | hk)
  · exact h.blk.lt
  · exact h.l.lt k hk
  · exact h.s.lt k hk
theorem TxP.keep (h : TxP y w x A B t) (hk : Kept S w w') (hn : ∀ k, txB x A B k → ¬ S k) : TxP y w' x A B t :=
  ⟨hk.blk h.blk (hn x (.inl rfl)), h.l.keep hk (fun k e => hn k (.inr (.inl e))), h.s.keep hk (fun k e => hn k (.inr (.inr e))), h.ax, h.bx, h.ab⟩
theorem TxP.below (h : TxP y w x A B t) (hb : Below w.heap.size w w') : TxP y w' x A B t := h.keep (Kept.of_below (S := fun _ => False) hb) (fun _ _ h => h)
theorem TxP.cells (h : TxP y w x A B t) : w.cell? ⟨x, 0, none⟩ = some A ∧ w.cell? ⟨x, y.iA, none⟩ = some (.int .i64 (t.ops : Int)) ∧ w.cell? ⟨x, y.iS, none⟩ = some B :=
  ⟨h.blk.cell 0 _ (y.getL ..), h.blk.cell y.iA _ (y.getA ..), h.blk.cell y.iS _ (y.getS ..)⟩
/-- How many changes there ever were, set. -/
theorem TxP.opsSet (h : TxP y w x A B t) (m : Nat) : TxP y (w.setCell ⟨x, y.iA, none⟩ (.int .i64 (m : Int))) x A B ⟨t.l, m, t.sv⟩ := by
  refine ⟨?_, h.l.keep (Kept.setCell w ⟨x, y.iA, none⟩ _) (fun k hk e => h.ax k hk e), h.s.keep (Kept.setCell w ⟨x, y.iA, none⟩ _) (fun k hk e => h.bx k hk e), h.ax, h.bx, h.ab⟩
  have := h.blk.set_ y.iA (.int .i64 (m : Int))
  rw [y.setA] at this
  exact this
/-- Its changes in another row, or the same one turned. -/
theorem TxP.lSet {l' : List Ch} (h : TxP y w x A B t) (hk : Kept (fun k => A.ownBlock = some k) w w') (hr : chK.Row w' A' l') (hA : ∀ k, A'.ownBlock = some k → A.ownBlock = some k ∨ w.heap.size ≤ k) :
    TxP y (w'.setCell ⟨x, 0, none⟩ A') x A' B ⟨l', t.ops, t.sv⟩ ∧ Kept (txB x A B) w (w'.setCell ⟨x, 0, none⟩ A') ∧ ∀ k, txB x A' B k → txB x A B k ∨ w.heap.size ≤ k := by
  have n1 : ∀ k, A'.ownBlock = some k → k ≠ x := fun k e ex => by
    rcases hA k e with h1 | h1
    · exact h.ax k h1 ex
    · have := h.blk.lt
      omega
  have b1 := hk.blk h.blk (fun e => h.ax x e rfl)
  have s1 := h.s.keep hk (fun k e1 e2 => h.ab k e2 e1)
  refine ⟨⟨?_, hr.keep (Kept.setCell w' ⟨x, 0, none⟩ _) (fun k hk e => n1 k hk e), s1.keep (Kept.setCell w' ⟨x, 0, none⟩ _) (fun k hk e => h.bx k hk e), n1, h.bx, fun k e1 e2 => ?_⟩, (hk.mono (fun k e => .inl (.inr (.inl e)))).trans (Kept.setCell w' ⟨x, 0, none⟩ _) (fun k e => .inl (.inl e)), fun k hk => ?_⟩
  · have := b1.set_ 0 A'
    rw [y.setL] at this
    exact this
  · rcases hA k e1 with h1 | h1
    · exact h.ab k h1 e2
    · have := h.s.lt k e2
      omega
  · rcases hk with rfl | e | e
    · exact .inl (.inl rfl)
    · rcases hA k e with h1 | h1
      · exact .inl (.inr (.inl h1))
      · exact .inr h1
    · exact .inl (.inr (.inr e))
/-- Its savepoints in another row, or the same one turned. -/
theorem TxP.sSet {l' : List Nat} (h : TxP y w x A B t) (hk : Kept (fun k => B.ownBlock = some k) w w') (hr : numK.Row w' B' l') (hB : ∀ k, B'.ownBlock = some k → B.ownBlock = some k ∨ w.heap.size ≤ k) :
    TxP y (w'.setCell ⟨x, y.iS, none⟩ B') x A B' ⟨t.l, t.ops, l'⟩ ∧ Kept (txB x A B) w (w'.setCell ⟨x, y.iS, none⟩ B') ∧ ∀ k, txB x A B' k → txB x A B k ∨ w.heap.size ≤ k := by
  have n1 : ∀ k, B'.ownBlock = some k → k ≠ x := fun k e ex => by
    rcases hB k e with h1 | h1
    · exact h.bx k h1 ex
    · have := h.blk.lt
      omega
  have b1 := hk.blk h.blk (fun e => h.bx x e rfl)
  have s1 := h.l.keep hk (fun k e1 e2 => h.ab k e1 e2)
  refine ⟨⟨?_, s1.keep (Kept.setCell w' ⟨x, y.iS, none⟩ _) (fun k hk e => h.ax k hk e), hr.keep (Kept.setCell w' ⟨x, y.iS, none⟩ _) (fun k hk e => n1 k hk e), h.ax, n1, fun k e1 e2 => ?_⟩, (hk.mono (fun k e => .inl (.inr (.inr e)))).trans (Kept.setCell w' ⟨x, y.iS, none⟩ _) (fun k e => .inl (.inl e)), fun k hk => ?_⟩
  · have := b1.set_ y.iS B'
    rw [y.setS] at this
    exact this
  · rcases hB k e2 with h1 | h1
    · exact h.ab k e1 h1
    · have := h.l.lt k e1
      omega
  · rcases hk with rfl | e | e
    · exact .inl (.inl rfl)
    · exact .inl (.inr (.inl e))
    · rcases hB k e with h1 | h1
      · exact .inl (.inr (.inr h1))
      · exact .inr h1
/-- A new one. -/
theorem TxP.new_ (hl : chK.Row w A t.l) (hs : numK.Row w B t.sv) (hab : ∀ k, A.ownBlock = some k → B.ownBlock ≠ some k) : TxP y (w.alloc (.cells (y.cs A t.ops B) y.ty)) w.heap.size A B t :=
  ⟨heap_new w _, hl.keep (Kept.alloc (fun _ => False) w _) (fun _ _ h => h), hs.keep (Kept.alloc (fun _ => False) w _) (fun _ _ h => h), fun k e h => by have := hl.lt k e; omega, fun k e h => by have := hs.lt k e; omega, hab⟩
end
/-- A transaction in blocks of O. -/
def TxIn (y : Lay) (w : World) (x : Nat) (t : Tx) (O : Nat → Prop) : Prop := ∃ A B, TxP y w x A B t ∧ ∀ k, txB x A B k → O k
section
variable {y : Lay} {w w' : World} {x : Nat} {t t' : Tx} {O O' S : Nat → Prop}
theorem TxIn.keep (h : TxIn y w x t O) (hk : Kept S w w') (hn : ∀ k, O k → ¬ S k) : TxIn y w' x t O := by
  obtain ⟨A, B, h1, h2⟩ := h
  exact ⟨A, B, h1.keep hk (fun k e => hn k (h2 k e)), h2⟩
theorem TxIn.mono (h : TxIn y w x t O) (hs : ∀ k, O k → k < w.heap.size → O' k) : TxIn y w x t O' := by
  obtain ⟨A, B, h1, h2⟩ := h
  exact ⟨A, B, h1, fun k e => hs k (h2 k e) (h1.lt k e)⟩
end
/-- The pointer to one, or nil. -/
def pv : Option (Nat × Tx) → Value
  | none => .pointer none
  | some (x, _) => .pointer (some ⟨x, 0, none⟩)
abbrev Tb := Nat → Option (Nat × Tx)
def cellsT (T : Tb) : Array Value := #[pv (T 0), pv (T 1), pv (T 2), pv (T 3)]
def updT (T : Tb) (i : Nat) (o : Option (Nat × Tx)) : Tb := fun j => if j = i then o else T j
theorem updT_at {T : Tb} {i : Nat} {o : Option (Nat × Tx)} : updT T i o i = o := if_pos rfl
theorem updT_ne {T : Tb} {i j : Nat} {o : Option (Nat × Tx)} (h : j ≠ i) : updT T i o j = T j := if_neg h
theorem cellsT_upd (T : Tb) (i : Nat) (o : Option (Nat × Tx)) : (cellsT T).setIfInBounds i (pv o) = cellsT (updT T i o) := by
  match i with
  | 0 => rfl
  | 1 => rfl
  | 2 => rfl
  | 3 => rfl
  | i + 4 => simp [cellsT, updT]
theorem cellsT_at (T : Tb) {i : Nat} (h : i < 4) : (cellsT T)[i]? = some (pv (T i)) := by
  match i, h with
  | 0, _ => rfl
  | 1, _ => rfl
  | 2, _ => rfl
  | 3, _ => rfl
theorem cellsT_congr {T T' : Tb} (h : ∀ i, pv (T i) = pv (T' i)) : cellsT T = cellsT T' := by
  unfold cellsT
  rw [h, h, h, h]
theorem cellsT_same {T : Tb} {i x : Nat} {t t' : Tx} (h : T i = some (x, t)) : cellsT (updT T i (some (x, t'))) = cellsT T := cellsT_congr (fun j => by
  by_cases e : j = i
  · subst e; rw [updT_at, h]; rfl
  · rw [updT_ne e])
/-- Transactions side by side, in blocks of O. -/
def TabAt (y : Lay) (w : World) (T : Tb) (O : Nat → Prop) : Prop := ∃ lab : Nat → Nat → Prop, (∀ i k, lab i k → O k) ∧ (∀ i j k, lab i k → lab j k → i = j) ∧ ∀ i x t, T i = some (x, t) → TxIn y w x t (lab i)
/-- Block g is a table of them. -/
structure Tab (y : Lay) (ty : TypeId) (w : World) (g : Nat) (T : Tb) (O : Nat → Prop) : Prop where
  og : O g
  blk : Blk w g ty (cellsT T)
  zero : T 0 = none
  top : ∀ i, 4 ≤ i → T i = none
  at_ : TabAt y w T (fun k => O k ∧ k ≠ g)
section
variable {y : Lay} {ty : TypeId} {w w' : World} {g i x : Nat} {T : Tb} {t : Tx} {O O' S : Nat → Prop}
theorem TabAt.keep (h : TabAt y w T O) (hk : Kept S w w') (hn : ∀ k, O k → ¬ S k) : TabAt y w' T O := by
  obtain ⟨lab, h1, h2, h3⟩ := h
  exact ⟨lab, h1, h2, fun i x t e => (h3 i x t e).keep hk (fun k hl => hn k (h1 i k hl))⟩
theorem TabAt.mono (h : TabAt y w T O) (hs : ∀ k, O k → k < w.heap.size → O' k) : TabAt y w T O' := by
  obtain ⟨lab, h1, h2, h3⟩ := h
  exact ⟨fun i k => lab i k ∧ k < w.heap.size, fun i k e => hs k (h1 i k e.1) e.2, fun i j k e1 e2 => h2 i j k e1.1 e2.1, fun i x t e => (h3 i x t e).mono (fun k hl hlt => ⟨hl, hlt⟩)⟩
theorem Tab.keep (h : Tab y ty w g T O) (hk : Kept S w w') (hn : ∀ k, O k → ¬ S k) : Tab y ty w' g T O :=
  ⟨h.og, hk.blk h.blk (hn g h.og), h.zero, h.top, h.at_.keep hk (fun k e => hn k e.1)⟩
theorem Tab.mono (h : Tab y ty w g T O) (hs : ∀ k, O k → k < w.heap.size → O' k) : Tab y ty w g T O' :=
  ⟨hs g h.og h.blk.lt, h.blk, h.zero, h.top, h.at_.mono (fun k e hlt => ⟨hs k e.1 hlt, e.2⟩)⟩
theorem Tab.below (h : Tab y ty w g T O) (hb : Below w.heap.size w w') : Tab y ty w' g T O := h.keep (Kept.of_below (S := fun _ => False) hb) (fun _ _ h => h)
/-- What a call on one of them is given, and owes. -/
theorem Tab.turn (h : Tab y ty w g T O) (ht : T i = some (x, t)) : ∃ S, TxIn y w x t S ∧ (∀ k, S k → O k) ∧ ∀ w' t', Kept S w w' → TxIn y w' x t' (fun k => S k ∨ w.heap.size ≤ k) → Tab y ty w' g (updT T i (some (x, t'))) (fun k => O k ∨ w.heap.size ≤ k) := by
  obtain ⟨lab, h1, h2, h3⟩ := h.at_
  refine ⟨lab i, h3 i x t ht, fun k hk => (h1 i k hk).1, fun w' t' hk hx => ?_⟩
  have hgl := h.blk.lt
  have hi0 : i ≠ 0 := fun e => by subst e; rw [h.zero] at ht; cases ht
  have hi4 : i < 4 := by
    rcases Nat.lt_or_ge i 4 with h5 | h5
    · exact h5
    · rw [h.top i h5] at ht; cases ht
  refine ⟨.inl h.og, ?_, ?_, fun j hj => ?_, fun j k => if j = i then lab i k ∨ w.heap.size ≤ k else lab j k ∧ k < w.heap.size, fun j k e => ?_, fun j1 j2 k e1 e2 => ?_, fun j z u e => ?_⟩
  · rw [cellsT_same ht]
    exact hk.blk h.blk (fun e => (h1 i g e).2 rfl)
  · rw [updT_ne (fun e => hi0 e.symm)]
    exact h.zero
  · rw [updT_ne (by omega)]
    exact h.top j hj
  · dsimp only at e
    split at e
    · rcases e with e | e
      · exact ⟨.inl (h1 i k e).1, (h1 i k e).2⟩
      · exact ⟨.inr e, by omega⟩
    · exact ⟨.inl (h1 j k e.1).1, (h1 j k e.1).2⟩
  · dsimp only at e1 e2
    by_cases q1 : j1 = i
    · by_cases q2 : j2 = i
      · rw [q1, q2]
      · rw [if_pos q1] at e1
        rw [if_neg q2] at e2
        rcases e1 with e1 | e1
        · exact absurd (h2 _ _ k e1 e2.1).symm q2
        · omega
    · by_cases q2 : j2 = i
      · rw [if_neg q1] at e1
        rw [if_pos q2] at e2
        rcases e2 with e2 | e2
        · exact absurd (h2 _ _ k e1.1 e2) q1
        · omega
      · rw [if_neg q1] at e1
        rw [if_neg q2] at e2
        exact h2 _ _ k e1.1 e2.1
  · by_cases q : j = i
    · subst q
      rw [updT_at] at e
      injection e with e
      injection e with e1 e2
      subst e1 e2
      refine hx.mono (fun k hs _ => ?_)
      show if j = j then _ else _
      rw [if_pos rfl]
      exact hs
    · rw [updT_ne q] at e
      refine (((h3 j z u e).mono (O' := fun k => lab j k ∧ k < w.heap.size) (fun k hl hlt => ⟨hl, hlt⟩)).keep hk (fun k e1 e2 => q (h2 j i k e1.1 e2))).mono (fun k hs _ => ?_)
      show if j = i then _ else _
      rw [if_neg q]
      exact hs
end
end Go.Proofs.Ytkegfedbffhnfaa
