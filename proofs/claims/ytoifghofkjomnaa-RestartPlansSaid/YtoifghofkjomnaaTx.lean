/-
  Transactions in memory: changes, how many there ever were, savepoints; a table of them by pointers. Two layouts: the code's and the model's.
-/
import Derived.Test.YtoifghofkjomnaaRowK
namespace Go.Proofs.Ytoifghofkjomnaa
open Go.RowKit Go.Lib
set_option maxRecDepth 20000
set_option linter.unusedSimpArgs false
set_option linter.unusedVariables false

/-- A change. -/
structure Ch where
  page : Int
  slot : Int
  before : ByteArray
instance : Inhabited Ch := ⟨⟨0, 0, ⟨#[]⟩⟩⟩
def Ch.cells (x : Ch) : List Value := [.int .i64 x.page, .int .i64 x.slot, .string x.before]
def Ch.vc (x : Ch) : Array Value := #[.int .i64 x.page, .int .i64 x.slot, .string x.before]
structure Ch.Ok (x : Ch) : Prop where
  page : (Lit.int .i64 x.page).wf = true
  slot : (Lit.int .i64 x.slot).wf = true
def chZ : Value := .agg #[.int .i64 0, .int .i64 0, .string ⟨#[]⟩]
def chK : Kd Ch where
  T := 42
  TS := 28
  m := 3
  cells := Ch.cells
  z := chZ
  zs := [.int .i64 0, .int .i64 0, .string ⟨#[]⟩]
  bytes := 32
  hT := Try.underlying28
  info := by kernel_rfl
  hz := rfl
  zero := fun w => by kernel_rfl
  hzs := by kernel_rfl
  zlen := rfl
  zone := fun u hu => by simp at hu; rcases hu with rfl | rfl | rfl <;> rfl
  size := fun w => by kernel_rfl
  hby := by decide
  hm := by decide
  len := fun x => rfl
  one := fun x u hu => by simp [Ch.cells] at hu; rcases hu with rfl | rfl | rfl <;> rfl
/-- A transaction. -/
structure Tx where
  l : List Ch
  ops : Nat
  sv : List Nat
/-- Where its parts lie. -/
structure Lay where
  ty : TypeId
  cs : Value → Nat → Value → Array Value
  iA : Nat
  iS : Nat
  getL : ∀ A n B, (cs A n B)[0]? = some A
  getA : ∀ A n B, (cs A n B)[iA]? = some (.int .i64 (n : Int))
  getS : ∀ A n B, (cs A n B)[iS]? = some B
  setL : ∀ A n B u, (cs A n B).setIfInBounds 0 u = cs u n B
  setA : ∀ A n B m, (cs A n B).setIfInBounds iA (.int .i64 (m : Nat)) = cs A m B
  setS : ∀ A n B u, (cs A n B).setIfInBounds iS u = cs A n u
/-- The blocks of it. -/
def txB (x : Nat) (A B : Value) (k : Nat) : Prop := k = x ∨ A.ownBlock = some k ∨ B.ownBlock = some k
section
variable {y : Lay} {w w' : World} {x : Nat} {A B A' B' : Value} {t : Tx} {S : Nat → Prop}
end
section
variable {y : Lay} {w w' : World} {x : Nat} {t t' : Tx} {O O' S : Nat → Prop}
end
/-- The pointer to one, or nil. -/
def pv : Option (Nat × Tx) → Value
  | none => .pointer none
  | some (x, _) => .pointer (some ⟨x, 0, none⟩)
abbrev Tb := Nat → Option (Nat × Tx)
def cellsT (T : Tb) : Array Value := #[pv (T 0), pv (T 1), pv (T 2), pv (T 3)]
def updT (T : Tb) (i : Nat) (o : Option (Nat × Tx)) : Tb := fun j => if j = i then o else T j
theorem updT_at {T : Tb} {i : Nat} {o : Option (Nat × Tx)} : updT T i o i = o := if_pos rfl
theorem updT_ne {T : Tb} {i j : Nat} {o : Option (Nat × Tx)} (h : j ≠ i) : updT T i o j = T j := if_neg h
theorem cellsT_upd (T : Tb) (i : Nat) (o : Option (Nat × Tx)) : (cellsT T).setIfInBounds i (pv o) = cellsT (updT T i o) := by
  match i with
  | 0 => rfl
  | 1 => rfl
  | 2 => rfl
  | 3 => rfl
  | i + 4 => simp [cellsT, updT]
theorem cellsT_at (T : Tb) {i : Nat} (h : i < 4) : (cellsT T)[i]? = some (pv (T i)) := by
  match i, h with
  | 0, _ => rfl
  | 1, _ => rfl
  | 2, _ => rfl
  | 3, _ => rfl
theorem cellsT_congr {T T' : Tb} (h : ∀ i, pv (T i) = pv (T' i)) : cellsT T = cellsT T' := by
  unfold cellsT
  rw [h, h, h, h]
theorem cellsT_same {T : Tb} {i x : Nat} {t t' : Tx} (h : T i = some (x, t)) : cellsT (updT T i (some (x, t'))) = cellsT T := cellsT_congr (fun j => by
  by_cases e : j = i
  · subst e; rw [updT_at, h]; rfl
  · rw [updT_ne e])
section
variable {y : Lay} {ty : TypeId} {w w' : World} {g i x : Nat} {T : Tb} {t : Tx} {O O' S : Nat → Prop}
end
end Go.Proofs.Ytoifghofkjomnaa
