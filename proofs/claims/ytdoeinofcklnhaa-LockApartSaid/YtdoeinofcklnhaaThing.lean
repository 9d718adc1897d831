/-
  Things that may be locked (a table, or a key of one) as keys of a map; holds as its elements; owners as keys of a map without elements.
-/
import Derived.Test.YtdoeinofcklnhaaMapG
import Derived.DeepKeys4
namespace Go.Proofs.Ytdoeinofcklnhaa
open Go.RowKit
set_option maxRecDepth 20000
set_option linter.unusedSimpArgs false
set_option linter.unusedVariables false

structure Th where
  t : Int
  w : Bool
  key : ByteArray
theorem Th.eq_iff (a b : Th) : (a.t = b.t ∧ a.w = b.w ∧ a.key = b.key) ↔ a = b := by
  obtain ⟨t, w, k⟩ := a
  obtain ⟨t', w', k'⟩ := b
  constructor
  · rintro ⟨h1, h2, h3⟩
    dsimp only at h1 h2 h3
    rw [h1, h2, h3]
  · intro h
    injection h with h1 h2 h3
    exact ⟨h1, h2, h3⟩
instance thDec : DecidableEq Th := fun a b => decidable_of_iff _ (Th.eq_iff a b)
def Th.v (x : Th) : Value := .agg #[.int .i64 x.t, .bool x.w, .string x.key]
structure Th.Ok (x : Th) : Prop where
  t : (Lit.int .i64 x.t).wf = true
  key : x.key.size ≤ maxLen
def Th.lits (x : Th) : List Lit := [.int .i64 x.t, .bool x.w, .string x.key.data.toList]
def Th.lit (x : Th) : Lit := .string (keyBytes x.lits)
theorem thWide : (match Try.prog.underlying 43 with | some (.array _ _) | some (.struct _) => true | _ => false) = true := by kernel_rfl
theorem thLaw : Go.Maps.Keyed Try.prog 43 := Go.Maps.Keyed.of_law (deep_law_laid laidOut (m := 2) (by omega) (of_decide_eq_true (by kernel_rfl)) (by kernel_rfl) thWide)
theorem cells_th : Try.prog.cellsOf 43 = 3 := by kernel_rfl
theorem cells_int : Try.prog.cellsOf 3 = 1 := by kernel_rfl
theorem cells_bool : Try.prog.cellsOf 4 = 1 := by kernel_rfl
theorem cells_string : Try.prog.cellsOf 9 = 1 := by kernel_rfl
theorem th_lits (x : Th) (h : x.Ok) (n : Nat) : Try.prog.keyLits (n + 2) 43 [.int .i64 x.t, .bool x.w, .string x.key] = some x.lits := by
  have h1 := h.t
  have h2 := h.key
  simp [Program.keyLits, Try.underlying43, Try.underlying3, Try.underlying4, Try.underlying9, cells_th, cells_int, cells_bool, cells_string, h1, h2, Th.lits]
theorem lits_int {c : Value} {L : List Lit} {n : Nat} (h : Try.prog.keyLits (n + 1) 3 [c] = some L) : ∃ z, c = .int .i64 z ∧ (Lit.int .i64 z).wf = true ∧ L = [.int .i64 z] := by
  unfold Program.keyLits at h
  rw [Try.underlying3] at h
  cases c <;> simp at h
  obtain ⟨⟨rfl, hw⟩, rfl⟩ := h
  exact ⟨_, rfl, hw, rfl⟩
theorem lits_bool {c : Value} {L : List Lit} {n : Nat} (h : Try.prog.keyLits (n + 1) 4 [c] = some L) : ∃ z, c = .bool z ∧ L = [.bool z] := by
  unfold Program.keyLits at h
  rw [Try.underlying4] at h
  cases c <;> simp at h
  subst h
  exact ⟨_, rfl, rfl⟩
theorem lits_string {c : Value} {L : List Lit} {n : Nat} (h : Try.prog.keyLits (n + 1) 9 [c] = some L) : ∃ z : ByteArray, c = .string z ∧ z.size ≤ maxLen ∧ L = [.string z.data.toList] := by
  unfold Program.keyLits at h
  rw [Try.underlying9] at h
  cases c <;> simp at h
  obtain ⟨hw, rfl⟩ := h
  exact ⟨_, rfl, hw, rfl⟩
theorem th_lits_inv {cs : List Value} {L : List Lit} {n : Nat} (h : Try.prog.keyLits (n + 2) 43 cs = some L) : ∃ x : Th, cs = [.int .i64 x.t, .bool x.w, .string x.key] ∧ L = x.lits ∧ x.Ok := by
  have hlen : cs.length = 3 := by
    unfold Program.keyLits at h
    rw [Try.underlying43] at h
    simp only [cells_th] at h
    split at h
    · rename_i h2
      exact h2.1
    · cases h
  match cs, hlen with
  | [c0, c1, c2], _ =>
    unfold Program.keyLits at h
    rw [Try.underlying43] at h
    simp only [cells_th] at h
    split at h
    · simp only [List.mapM_cons, List.mapM_nil, cells_int, cells_bool, cells_string, List.drop_zero, List.drop_succ_cons, List.take_succ_cons, List.take_zero, Option.bind_eq_bind, Option.pure_def] at h
      obtain ⟨a, ha, rfl⟩ := Option.map_eq_some_iff.1 h
      obtain ⟨l0, e0, ha⟩ := Option.bind_eq_some_iff.1 ha
      obtain ⟨r0, ha, h0⟩ := Option.bind_eq_some_iff.1 ha
      obtain ⟨l1, e1, ha⟩ := Option.bind_eq_some_iff.1 ha
      obtain ⟨r1, ha, h1⟩ := Option.bind_eq_some_iff.1 ha
      obtain ⟨l2, e2, h2⟩ := Option.bind_eq_some_iff.1 ha
      obtain ⟨z, rfl, hw, rfl⟩ := lits_int e0
      obtain ⟨u, rfl, rfl⟩ := lits_bool e1
      obtain ⟨s, rfl, hs, rfl⟩ := lits_string e2
      obtain rfl := Option.some.inj h2
      obtain rfl := Option.some.inj h1
      obtain rfl := Option.some.inj h0
      exact ⟨⟨z, u, s⟩, rfl, rfl, ⟨hw, hs⟩⟩
    · cases h
theorem th_key (x : Th) (h : x.Ok) : keyOf Try.prog 43 x.v = some x.lit := by
  have hk : Try.prog.keyType 43 = true := by kernel_rfl
  have hf : x.v.formed Try.prog 43 = true := by
    unfold Th.v
    simp [Value.formed, Try.underlying43, cells_th]
  obtain ⟨n, hn⟩ : ∃ n, Try.prog.types.size + 1 = n + 2 := ⟨Try.prog.types.size - 1, by
    have : 0 < Try.prog.types.size := of_decide_eq_true (by kernel_rfl)
    omega⟩
  unfold keyOf
  rw [Try.underlying43, hk, hf, hn]
  have := th_lits x h n
  unfold Th.v
  simp [Value.cells, this, Th.lit]
theorem th_inv {v : Value} {l : Lit} (h : keyOf Try.prog 43 v = some l) : ∃ x : Th, v = x.v ∧ l = x.lit ∧ x.Ok := by
  obtain ⟨xs, L, rfl, hL, rfl⟩ := keyOf_top thWide h
  obtain ⟨n, hn⟩ : ∃ n, Try.prog.types.size + 1 = n + 2 := ⟨Try.prog.types.size - 1, by
    have : 0 < Try.prog.types.size := of_decide_eq_true (by kernel_rfl)
    omega⟩
  rw [hn] at hL
  obtain ⟨x, h1, rfl, hok⟩ := th_lits_inv hL
  refine ⟨x, ?_, rfl, hok⟩
  have : xs = #[.int .i64 x.t, .bool x.w, .string x.key] := by
    apply Array.ext'
    rw [h1]
  rw [this]
  rfl
theorem Th.v_inj {x y : Th} (h : x.v = y.v) : x = y := by
  obtain ⟨t, w, k⟩ := x
  obtain ⟨t', w', k'⟩ := y
  simp only [Th.v, Value.agg.injEq] at h
  have h := congrArg Array.toList h
  simp only [List.cons.injEq, Value.int.injEq, Value.bool.injEq, Value.string.injEq] at h
  obtain ⟨⟨_, rfl⟩, rfl, rfl, _⟩ := h
  rfl
def thK : KeyShape Th where
  k := 43
  law := thLaw
  val := Th.v
  lit := Th.lit
  ok := Th.Ok
  key := th_key
  inv := fun v l h => th_inv h
  mkinj := fun x y h => Th.v_inj h
  inj := fun x y hx hy h => by
    have h1 := th_key x hx
    have h2 := th_key y hy
    rw [h] at h1
    exact Th.v_inj (thLaw.inj h1 h2)
/-- Who holds a thing: one mode, and a map of the owners. -/
structure Hd where
  m : Int
  g : Nat
def Hd.v (h : Hd) : Value := .agg #[.int .i64 h.m, .map (some h.g)]
def unitV (_ : Unit) : Value := .agg #[]
abbrev ownK : KeyShape Int := intK 3 Try.underlying3
theorem zero_unit (w : World) : (zeroValue 55).run Try.prog w = .ok (unitV ()) w := by kernel_rfl
theorem zero_hold (w : World) : (zeroValue 50).run Try.prog w = .ok (.agg #[.int .i64 0, .map none]) w := by kernel_rfl
theorem mapOwn : Try.prog.underlying 48 = some (.map ownK.k 55) := Try.underlying48
theorem mapHold : Try.prog.underlying 39 = some (.map thK.k 50) := Try.underlying39
end Go.Proofs.Ytdoeinofcklnhaa
