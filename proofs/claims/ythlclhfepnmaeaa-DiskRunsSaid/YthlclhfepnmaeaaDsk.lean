/-
  A disk as plain data: sectors, writes that wait, what a crash leaves. (Nothing of the program.)
-/
import Derived.Test.YthlclhfepnmaeaaMem
namespace Go.Proofs.Ythlclhfepnmaeaa
open Go.RowKit

/-- A sector's bytes (64 of them). -/
abbrev Sec := List UInt8
def zsec : Sec := List.replicate 64 0
/-- Bytes, then zeros. -/
def pad (l : List UInt8) : Sec := l ++ List.replicate (64 - l.length) 0
theorem pad_length (l : List UInt8) (h : l.length ≤ 64) : (pad l).length = 64 := by simp [pad]; omega
theorem pad_nil : pad [] = zsec := rfl
structure Chg where
  place : Nat
  before : Sec
  after : Sec
/-- What writes make of sectors. -/
def put (l : List Sec) (ws : List (Nat × Sec)) : List Sec := ws.foldl (fun l x => l.set x.1 x.2) l
/-- What is kept of writes, to take them back. -/
def chain : List Sec → List (Nat × Sec) → List Chg
  | _, [] => []
  | l, x :: ws => ⟨x.1, l.getD x.1 zsec, x.2⟩ :: chain (l.set x.1 x.2) ws
/-- All taken back, the last one first. -/
def undo (cs : List Chg) (l : List Sec) : List Sec := cs.foldr (fun c l => l.set c.place c.before) l
/-- Those writes that m keeps. -/
def kept (m : Nat → Bool) (ws : List (Nat × Sec)) : List (Nat × Sec) := (ws.zipIdx.filter fun x => m x.2).map (·.1)

theorem put_nil (l : List Sec) : put l [] = l := rfl
theorem put_cons (l : List Sec) (x : Nat × Sec) (ws : List (Nat × Sec)) : put l (x :: ws) = put (l.set x.1 x.2) ws := rfl
theorem put_append (l : List Sec) (a b : List (Nat × Sec)) : put l (a ++ b) = put (put l a) b := List.foldl_append ..
theorem put_snoc (l : List Sec) (a : List (Nat × Sec)) (x : Nat × Sec) : put l (a ++ [x]) = (put l a).set x.1 x.2 := by rw [put_append]; rfl
theorem put_length (ws : List (Nat × Sec)) : ∀ l : List Sec, (put l ws).length = l.length := by
  induction ws with
  | nil => intro l; rfl
  | cons x ws ih => intro l; rw [put_cons, ih, List.length_set]
theorem put_all {p : Sec → Prop} (ws : List (Nat × Sec)) : ∀ l : List Sec, (∀ s ∈ l, p s) → (∀ x ∈ ws, p x.2) → ∀ s ∈ put l ws, p s := by
  induction ws with
  | nil => intro l h _ s hs; exact h s hs
  | cons x ws ih =>
    intro l h hw
    rw [put_cons]
    refine ih _ (fun s hs => ?_) (fun y hy => hw y (List.mem_cons_of_mem _ hy))
    rcases List.mem_or_eq_of_mem_set hs with h1 | rfl
    · exact h s h1
    · exact hw x (List.mem_cons_self ..)
theorem chain_length (ws : List (Nat × Sec)) : ∀ l : List Sec, (chain l ws).length = ws.length := by
  induction ws with
  | nil => intro l; rfl
  | cons x ws ih => intro l; simp [chain, ih]
theorem chain_snoc (ws : List (Nat × Sec)) (x : Nat × Sec) : ∀ l : List Sec, chain l (ws ++ [x]) = chain l ws ++ [⟨x.1, (put l ws).getD x.1 zsec, x.2⟩] := by
  induction ws with
  | nil => intro l; rfl
  | cons y ws ih => intro l; simp only [List.cons_append, chain, ih, put_cons]
theorem undo_chain (ws : List (Nat × Sec)) : ∀ l : List Sec, (∀ x ∈ ws, x.1 < l.length) → undo (chain l ws) (put l ws) = l := by
  induction ws with
  | nil => intro l _; rfl
  | cons x ws ih =>
    intro l h
    have hx := h x (List.mem_cons_self ..)
    have h1 := ih (l.set x.1 x.2) (fun y hy => by rw [List.length_set]; exact h y (List.mem_cons_of_mem _ hy))
    show (undo (chain (l.set x.1 x.2) ws) (put (l.set x.1 x.2) ws)).set x.1 (l.getD x.1 zsec) = l
    rw [h1, List.set_set, List.getD_eq_getElem?_getD, List.getElem?_eq_getElem hx, Option.getD_some]
    exact List.set_getElem_self hx
theorem undo_length (cs : List Chg) (l : List Sec) : (undo cs l).length = l.length := by
  induction cs with
  | nil => rfl
  | cons c cs ih => show (List.set _ _ _).length = _; rw [List.length_set]; exact ih
theorem undo_drop (cs : List Chg) (l : List Sec) (k : Nat) (h : k < cs.length) : undo (cs.drop k) l = (undo (cs.drop (k + 1)) l).set cs[k].place cs[k].before := by
  rw [List.drop_eq_getElem_cons h]; rfl
theorem chain_get (ws : List (Nat × Sec)) : ∀ (l : List Sec) (k : Nat) (h : k < (chain l ws).length) (h2 : k < ws.length), (chain l ws)[k].place = ws[k].1 ∧ (chain l ws)[k].after = ws[k].2 := by
  induction ws with
  | nil => intro l k h h2; exact absurd h2 (by simp)
  | cons x ws ih =>
    intro l k h h2
    cases k with
    | zero => exact ⟨rfl, rfl⟩
    | succ k =>
      have := ih (l.set x.1 x.2) k (by simpa [chain] using h) (by simpa using h2)
      simpa [chain] using this
theorem chain_before (ws : List (Nat × Sec)) : ∀ (l : List Sec), (∀ s ∈ l, s.length = 64) → (∀ x ∈ ws, x.2.length = 64) → ∀ c ∈ chain l ws, c.before.length = 64 ∧ c.after.length = 64 := by
  induction ws with
  | nil => intro l _ _ c hc; cases hc
  | cons x ws ih =>
    intro l hl hw c hc
    rcases List.mem_cons.1 hc with rfl | hc
    · refine ⟨?_, hw x (List.mem_cons_self ..)⟩
      show (l.getD x.1 zsec).length = 64
      rw [List.getD_eq_getElem?_getD]
      cases h : l[x.1]? with
      | none => rfl
      | some s => exact hl s (List.mem_of_getElem? h)
    · refine ih _ (fun s hs => ?_) (fun y hy => hw y (List.mem_cons_of_mem _ hy)) c hc
      rcases List.mem_or_eq_of_mem_set hs with h1 | rfl
      · exact hl s h1
      · exact hw x (List.mem_cons_self ..)
theorem kept_nil (m : Nat → Bool) : kept m [] = [] := rfl
theorem kept_snoc (m : Nat → Bool) (ws : List (Nat × Sec)) (x : Nat × Sec) : kept m (ws ++ [x]) = kept m ws ++ (if m ws.length then [x] else []) := by
  unfold kept
  rw [List.zipIdx_append]
  simp only [List.filter_append, List.map_append, Nat.zero_add]
  congr 1
  by_cases h : m ws.length <;> simp [h]
theorem kept_mem (m : Nat → Bool) (ws : List (Nat × Sec)) : ∀ x ∈ kept m ws, x ∈ ws := by
  intro x hx
  unfold kept at hx
  obtain ⟨y, hy, rfl⟩ := List.mem_map.1 hx
  exact (List.mem_zipIdx' (List.mem_filter.1 hy).1).2 ▸ List.getElem_mem _

/-- A region: what is sure, the writes that wait, whether it is armed, and how many writes it still takes. -/
structure Rg where
  base : List Sec
  ws : List (Nat × Sec)
  armed : Bool
  left : Nat
def Rg.secs (r : Rg) : List Sec := put r.base r.ws
def Rg.pend (r : Rg) : List Chg := chain r.base r.ws
def Rg.down (r : Rg) : Bool := r.armed && r.left == 0
def Rg.write (r : Rg) (s : Nat) (b : Sec) : Rg := ⟨r.base, r.ws ++ [(s, b)], r.armed, if r.armed then r.left - 1 else r.left⟩
def Rg.barrier (r : Rg) : Rg := ⟨r.secs, [], r.armed, r.left⟩
def Rg.arm (r : Rg) (n : Int) : Rg := ⟨r.base, r.ws, true, n.toNat⟩
def Rg.crash (m : Nat → Bool) (r : Rg) : Rg := ⟨put r.base (kept m r.ws), [], false, 0⟩
structure Rg.Fit (n : Nat) (r : Rg) : Prop where
  size : r.base.length = n
  full : ∀ s ∈ r.base, s.length = 64
  wfull : ∀ x ∈ r.ws, x.1 < n ∧ x.2.length = 64
theorem Rg.Fit.secs_length {n : Nat} {r : Rg} (h : r.Fit n) : r.secs.length = n := (put_length _ _).trans h.size
theorem Rg.Fit.secs_full {n : Nat} {r : Rg} (h : r.Fit n) : ∀ s ∈ r.secs, s.length = 64 := put_all _ _ h.full (fun x hx => (h.wfull x hx).2)
theorem Rg.Fit.write {n : Nat} {r : Rg} (h : r.Fit n) {s : Nat} {b : Sec} (hs : s < n) (hb : b.length = 64) : (r.write s b).Fit n :=
  ⟨h.size, h.full, fun x hx => by
    rcases List.mem_append.1 hx with h1 | h1
    · exact h.wfull x h1
    · obtain rfl := List.mem_singleton.1 h1; exact ⟨hs, hb⟩⟩
theorem Rg.Fit.barrier {n : Nat} {r : Rg} (h : r.Fit n) : r.barrier.Fit n := ⟨h.secs_length, h.secs_full, fun _ hx => by cases hx⟩
theorem Rg.Fit.arm {n : Nat} {r : Rg} (h : r.Fit n) (k : Int) : (r.arm k).Fit n := ⟨h.size, h.full, h.wfull⟩
theorem Rg.Fit.crash {n : Nat} {r : Rg} (h : r.Fit n) (m : Nat → Bool) : (r.crash m).Fit n :=
  ⟨(put_length _ _).trans h.size, put_all _ _ h.full (fun x hx => (h.wfull x (kept_mem m _ x hx)).2), fun _ hx => by cases hx⟩
theorem Rg.secs_write (r : Rg) (s : Nat) (b : Sec) : (r.write s b).secs = r.secs.set s b := put_snoc _ _ _
theorem Rg.pend_write (r : Rg) (s : Nat) (b : Sec) : (r.write s b).pend = r.pend ++ [⟨s, r.secs.getD s zsec, b⟩] := chain_snoc _ _ _

/-- A new region. -/
def Rg.new (n : Nat) : Rg := ⟨List.replicate n zsec, [], false, 0⟩
theorem Rg.new_fit (n : Nat) : (Rg.new n).Fit n := ⟨by simp [Rg.new], fun s hs => by rw [(List.mem_replicate.1 hs).2]; rfl, fun _ hx => by cases hx⟩

/-! ### Sectors one behind the other, as bytes. -/
theorem flat_length (l : List Sec) (h : ∀ s ∈ l, s.length = 64) : l.flatten.length = 64 * l.length := by
  induction l with
  | nil => rfl
  | cons x l ih =>
    rw [List.flatten_cons, List.length_append, ih (fun s hs => h s (List.mem_cons_of_mem _ hs)), h x (List.mem_cons_self ..), List.length_cons]
    omega
theorem flat_get (l : List Sec) (h : ∀ s ∈ l, s.length = 64) : ∀ (s j : Nat) (hs : s < l.length), j < 64 → l.flatten[s * 64 + j]? = l[s][j]? := by
  induction l with
  | nil => intro s j hs; exact absurd hs (by simp)
  | cons x l ih =>
    intro s j hs hj
    have hx := h x (List.mem_cons_self ..)
    rw [List.flatten_cons]
    cases s with
    | zero => rw [Nat.zero_mul, Nat.zero_add, List.getElem?_append_left (by omega)]; rfl
    | succ s =>
      rw [List.getElem?_append_right (by omega), hx, show (s + 1) * 64 + j - 64 = s * 64 + j by omega]
      exact ih (fun s hs => h s (List.mem_cons_of_mem _ hs)) s j (by simpa using hs) hj
theorem flat_set (l : List Sec) (h : ∀ s ∈ l, s.length = 64) (b : Sec) : ∀ (s : Nat), s < l.length → (l.set s b).flatten = l.flatten.take (s * 64) ++ (b ++ l.flatten.drop (s * 64 + 64)) := by
  induction l with
  | nil => intro s hs; exact absurd hs (by simp)
  | cons x l ih =>
    intro s hs
    have hx := h x (List.mem_cons_self ..)
    cases s with
    | zero =>
      rw [List.set_cons_zero, List.flatten_cons, List.flatten_cons, Nat.zero_mul, Nat.zero_add, List.take_zero, List.nil_append, ← hx, List.drop_left]
    | succ s =>
      rw [List.set_cons_succ, List.flatten_cons, List.flatten_cons, ih (fun s hs => h s (List.mem_cons_of_mem _ hs)) s (by simpa using hs)]
      rw [List.take_append, List.drop_append, hx, List.take_of_length_le (l := x) (by omega), List.drop_eq_nil_of_le (as := x) (by omega), List.nil_append, List.append_assoc]
      rw [show (s + 1) * 64 - 64 = s * 64 by omega, show (s + 1) * 64 + 64 - 64 = s * 64 + 64 by omega]
theorem zeros_flat (n : Nat) : (List.replicate n zsec).flatten = List.replicate (n * 64) 0 := by
  induction n with
  | zero => rfl
  | succ n ih => rw [List.replicate_succ, List.flatten_cons, ih, zsec, List.replicate_append_replicate]; congr 1; omega

/-- A change's cells. -/
def ccells (c : Chg) : List Value := .int .i64 (c.place : Int) :: (u8s c.before ++ u8s c.after)
def pcells (l : List Chg) : List Value := l.flatMap ccells
theorem pcells_nil : pcells [] = [] := rfl
theorem pcells_append (a b : List Chg) : pcells (a ++ b) = pcells a ++ pcells b := List.flatMap_append
theorem pcells_one (c : Chg) : pcells [c] = ccells c := by simp [pcells]
theorem ccells_length (c : Chg) (h1 : c.before.length = 64) (h2 : c.after.length = 64) : (ccells c).length = 129 := by simp [ccells, u8s_length, h1, h2]
theorem pcells_get (l : List Chg) (h : ∀ c ∈ l, c.before.length = 64 ∧ c.after.length = 64) : ∀ (k j : Nat) (hk : k < l.length), j < 129 → (pcells l)[k * 129 + j]? = (ccells l[k])[j]? := by
  induction l with
  | nil => intro k j hk; exact absurd hk (by simp)
  | cons x l ih =>
    intro k j hk hj
    have hx := ccells_length x (h x (List.mem_cons_self ..)).1 (h x (List.mem_cons_self ..)).2
    show (ccells x ++ pcells l)[_]? = _
    cases k with
    | zero => rw [Nat.zero_mul, Nat.zero_add, List.getElem?_append_left (by omega)]; rfl
    | succ k =>
      rw [List.getElem?_append_right (by omega), hx, show (k + 1) * 129 + j - 129 = k * 129 + j by omega]
      exact ih (fun s hs => h s (List.mem_cons_of_mem _ hs)) k j (by simpa using hk) hj
end Go.Proofs.Ythlclhfepnmaeaa
