/-
  Tables of transactions among other things of a call's own: each method's contract there.
-/
import Derived.Test.YtkegfedbffhnfaaKept
namespace Go.Proofs.Ytkegfedbffhnfaa
open Go.RowKit Go.Shelf
set_option maxRecDepth 20000
set_option linter.unusedSimpArgs false
set_option linter.unusedVariables false

/-- A table, as a thing of a call's own. -/
def Res.tab (y : Lay) (ty : TypeId) (g : Nat) (T : Tb) : Res where
  At := fun W S => Tab y ty W g T S
  keep := fun h hk hd => h.keep hk hd
  mono := fun h hs => h.mono hs
abbrev Res.tt (g : Nat) (T : Tb) : Res := Res.tab layT 27 g T
section
variable {A0 W W' : World} {F0 : Nat → Prop} {L : List Res} {i g n x : Nat} {T T' : Tb} {t t' : Tx} {y : Lay} {ty : TypeId}
theorem Ow.newtab (y : Lay) (ty : TypeId) (h : Ow A0 F0 W L) : Ow A0 F0 (W.alloc (.cells #[.pointer none, .pointer none, .pointer none, .pointer none] ty)) (L ++ [Res.tab y ty W.heap.size (fun _ => none)]) :=
  h.push ((Below.refl _ _).alloc (Nat.le_refl _) _) (Tab.new_ y ty W)
theorem Ow.tab (h : Ow A0 F0 W L) (hi : L[i]? = some (Res.tab y ty g T)) : ∃ S, Tab y ty W g T S := h.get hi
/-- Its block. -/
theorem Ow.tblk (h : Ow A0 F0 W L) (hi : L[i]? = some (Res.tab y ty g T)) : Blk W g ty (cellsT T) := let ⟨S, h⟩ := h.tab hi; h.blk
/-- What a call on one of its transactions is given, and owes. -/
theorem Ow.txn (h : Ow A0 F0 W L) (hi : L[i]? = some (Res.tab y ty g T)) (hT : T n = some (x, t)) : ∃ A B, TxP y W x A B t ∧ ∀ W' t', TxQ y W W' x A B t' → Ow A0 F0 W' (L.set i (Res.tab y ty g (updT T n (some (x, t'))))) := by
  obtain ⟨O, h1, h2⟩ := h.split hi
  obtain ⟨S, ⟨A, B, h3, h3b⟩, h4, h5⟩ := (show Tab y ty W g T O from h1).turn hT
  refine ⟨A, B, h3, fun W' t' hq => ?_⟩
  obtain ⟨h6, h7⟩ := hq.in_ h3b
  exact h2 W' _ (h6.mono (fun k e => .inl (h4 k e))) (h5 W' t' h6 h7)
/-- What stores into its array. -/
theorem Ow.stored {o : Option (Nat × Tx)} (h : Ow A0 F0 W L) (hi : L[i]? = some (Res.tab y ty g T)) (hn : 0 < n) (hn4 : n < 4) (hb : Below W.heap.size W W') (ho : ∀ x t, o = some (x, t) → TxIn y W' x t (fun k => W.heap.size ≤ k)) : Ow A0 F0 (W'.setCell ⟨g, n, none⟩ (pv o)) (L.set i (Res.tab y ty g (updT T n o))) := by
  obtain ⟨O, h1, h2⟩ := h.split hi
  obtain ⟨h3, h4⟩ := (show Tab y ty W g T O from h1).stored hn hn4 hb ho
  exact h2 _ _ h4 h3
theorem ow_get (h : Ow A0 F0 W L) (hi : L[i]? = some (Res.tt g T)) (m : Int) : Calls Try.prog 12 #[.pointer (some ⟨g, 0, none⟩), .int .i64 m] W fun e W' => e = .returned (pv (getT T m)) ∧ W = W' := get_blk (h.tblk hi) m
/-- Of a number that may be one. -/
theorem ow_getn (h : Ow A0 F0 W L) (hi : L[i]? = some (Res.tt g T)) {j : Nat} {v : Value} (hv : pv (T j) = v) : Calls Try.prog 12 #[.pointer (some ⟨g, 0, none⟩), .int .i64 (j : Int)] W fun e W' => e = .returned v ∧ W = W' := by
  obtain ⟨O, h1⟩ := h.tab hi
  have := ow_get h hi (j : Int)
  rw [getT_nat h1.zero h1.top, hv] at this
  exact this
theorem ow_begin (h : Ow A0 F0 W L) (hi : L[i]? = some (Res.tt g T)) : Calls Try.prog 10 #[.pointer (some ⟨g, 0, none⟩)] W fun e W' => e = .returned (.int .i64 (leastT T : Nat)) ∧ ∃ T', BegT T T' ∧ Ow A0 F0 W' (L.set i (Res.tt g T')) := by
  obtain ⟨O, h1, h2⟩ := h.split hi
  refine (begin_any (show Tab layT 27 W g T O from h1)).mono ?_
  rintro e W' ⟨rfl, T', h3, h4, h5⟩
  exact ⟨rfl, T', h3, h2 W' _ h5 h4⟩
theorem ow_endT (h : Ow A0 F0 W L) (hi : L[i]? = some (Res.tt g T)) {j : Nat} (hj : j < 4) : Calls Try.prog 11 #[.pointer (some ⟨g, 0, none⟩), .int .i64 (j : Int)] W fun e W' => e = .returned (.tuple #[]) ∧ Ow A0 F0 W' (L.set i (Res.tt g (updT T j none))) := by
  obtain ⟨O, h1, h2⟩ := h.split hi
  have h1 : Tab layT 27 W g T O := h1
  rcases Nat.eq_zero_or_pos j with rfl | hp
  · refine (end_no (w := W) (v := .pointer (some ⟨g, 0, none⟩)) (n := ((0 : Nat) : Int)) (by decide)).mono ?_
    rintro e W' ⟨rfl, rfl⟩
    have hh := h1.mono (O' := fun k => O k ∨ W.heap.size ≤ k) (fun k hk _ => .inl hk)
    refine ⟨rfl, h2 W (Res.tt g (updT T 0 none)) (Kept.refl _ _) ?_⟩
    have : updT T 0 none = T := by
      funext k
      by_cases e : k = 0
      · subst e; rw [updT_at, h1.zero]
      · rw [updT_ne e]
    show Tab layT 27 W g (updT T 0 none) _
    rw [this]
    exact hh
  · refine (end_yes h1 hp hj).mono ?_
    rintro e W' ⟨rfl, h3, h4⟩
    exact ⟨rfl, h2 W' _ h4 h3⟩
theorem ow_load (h : Ow A0 F0 W L) (hi : L[i]? = some (Res.tt g T)) {j : Nat} (hj : 0 < j) (hj4 : j < 4) {A : Option Addr} {c : Nat} {es : List Ch} (hs : ∀ a, A = some a → ∀ j u, (chK.flat es)[j]? = some u → W.cell? (a.add j) = some u) (h0 : A = none → es = []) (hl : es.length ≤ 100000) :
    Calls Try.prog 18 #[.pointer (some ⟨g, 0, none⟩), .int .i64 (j : Int), .slice A es.length c] W fun e W' => e = .returned (.tuple #[]) ∧ ∃ x, Ow A0 F0 W' (L.set i (Res.tt g (updT T j (some (x, ⟨es, es.length, []⟩))))) := by
  obtain ⟨O, h1, h2⟩ := h.split hi
  refine (load_yes (show Tab layT 27 W g T O from h1) hj hj4 hs h0 hl).mono ?_
  rintro e W' ⟨rfl, x, h3, h4⟩
  exact ⟨rfl, x, h2 W' _ h4 h3⟩
theorem ow_open (h : Ow A0 F0 W L) (hi : L[i]? = some (Res.tt g T)) {c : Nat} (hc : cntT T 4 = c) : Calls Try.prog 19 #[.pointer (some ⟨g, 0, none⟩)] W fun e W' => e = .returned (.int .i64 (c : Int)) ∧ Ow A0 F0 W' L := by
  obtain ⟨O, h1⟩ := h.tab hi
  refine (open_any h1).mono ?_
  rintro e W' ⟨rfl, hb⟩
  rw [hc]
  exact ⟨rfl, h.below hb⟩
theorem ow_changes (h : Ow A0 F0 W L) (hi : L[i]? = some (Res.tt g T)) (hl : ∀ i x t, T i = some (x, t) → t.l.length ≤ 100000) {c : Nat} (hc : sumT T 4 = c) : Calls Try.prog 23 #[.pointer (some ⟨g, 0, none⟩)] W fun e W' => e = .returned (.int .i64 (c : Int)) ∧ Ow A0 F0 W' L := by
  obtain ⟨O, h1⟩ := h.tab hi
  refine (changes_any h1 hl).mono ?_
  rintro e W' ⟨rfl, hb⟩
  rw [hc]
  exact ⟨rfl, h.below hb⟩
theorem ow_kept (h : Ow A0 F0 W L) (hi : L[i]? = some (Res.tt g T)) (hl : ∀ i x t, T i = some (x, t) → t.l.length ≤ 1000) (p : Int) {l : List Int} (hc : keptT T p 4 = l) : Calls Try.prog 20 #[.pointer (some ⟨g, 0, none⟩), .int .i64 p] W fun e W' => ∃ v, e = .returned v ∧ Ow A0 F0 W' (L ++ [Res.row intsK v l]) := by
  obtain ⟨O, h1⟩ := h.tab hi
  refine (kept_any h1 hl p).mono ?_
  rintro e W' ⟨v, rfl, h2, h3, h4⟩
  rw [hc] at h2
  exact ⟨v, rfl, h.gotrow h3 h2 h4⟩
theorem ow_push (h : Ow A0 F0 W L) (hi : L[i]? = some (Res.tt g T)) (hT : T n = some (x, t)) (hl : t.l.length ≤ 100000) (ho : t.ops ≤ 100000) (c : Ch) : Calls Try.prog 13 #[.pointer (some ⟨x, 0, none⟩), .agg #[.int .i64 c.page, .int .i64 c.slot, .string c.before]] W fun e W' => e = .returned (.tuple #[]) ∧ Ow A0 F0 W' (L.set i (Res.tt g (updT T n (some (x, t.push c))))) := by
  obtain ⟨A, B, h1, h2⟩ := h.txn hi hT
  exact (push_x h1 hl ho c).mono (fun e W' ⟨h3, h4⟩ => ⟨h3, h2 W' _ h4⟩)
theorem ow_save (h : Ow A0 F0 W L) (hi : L[i]? = some (Res.tt g T)) (hT : T n = some (x, t)) : Calls Try.prog 15 #[.pointer (some ⟨x, 0, none⟩)] W fun e W' => e = .returned (.int .i64 (t.saveN : Int)) ∧ Ow A0 F0 W' (L.set i (Res.tt g (updT T n (some (x, t.saved))))) := by
  obtain ⟨A, B, h1, h2⟩ := h.txn hi hT
  exact (save_x h1).mono (fun e W' ⟨h3, h4⟩ => ⟨h3, h2 W' _ h4⟩)
theorem ow_pop {m : Nat} {c : Ch} (h : Ow A0 F0 W L) (hi : L[i]? = some (Res.tt g T)) (hT : T n = some (x, t)) (hl : t.l.length ≤ 100000) (hm : t.l.length = m + 1) (hc : t.l[m]? = some c) : Calls Try.prog 14 #[.pointer (some ⟨x, 0, none⟩)] W fun e W' => e = .returned (.tuple #[.agg #[.int .i64 c.page, .int .i64 c.slot, .string c.before], .bool true]) ∧ Ow A0 F0 W' (L.set i (Res.tt g (updT T n (some (x, ⟨t.l.take m, t.ops, t.sv⟩))))) := by
  obtain ⟨A, B, h1, h2⟩ := h.txn hi hT
  exact (pop_x h1 hl hm hc).mono (fun e W' ⟨h3, h4⟩ => ⟨h3, h2 W' _ h4⟩)
theorem ow_pop0 (h : Ow A0 F0 W L) (hi : L[i]? = some (Res.tt g T)) (hT : T n = some (x, t)) (h0 : t.l = []) : Calls Try.prog 14 #[.pointer (some ⟨x, 0, none⟩)] W fun e W' => e = .returned (.tuple #[.agg #[.int .i64 0, .int .i64 0, .string ⟨#[]⟩], .bool false]) ∧ Ow A0 F0 W' L := by
  obtain ⟨A, B, h1, h2⟩ := h.txn hi hT
  exact (pop_none h1 h0).mono (fun e W' ⟨h3, h4⟩ => ⟨h3, h.below h4⟩)
theorem ow_back {m j u : Nat} (h : Ow A0 F0 W L) (hi : L[i]? = some (Res.tt g T)) (hT : T n = some (x, t)) (hm : m = j + 1) (hml : m ≤ t.sv.length) (hu : t.sv[j]? = some u) : Calls Try.prog 16 #[.pointer (some ⟨x, 0, none⟩), .int .i64 (m : Int)] W fun e W' => e = .returned (.tuple #[.int .i64 (u : Int), .bool true]) ∧ Ow A0 F0 W' (L.set i (Res.tt g (updT T n (some (x, ⟨t.l, t.ops, t.sv.take m⟩))))) := by
  obtain ⟨A, B, h1, h2⟩ := h.txn hi hT
  exact (back_x h1 hm hml hu).mono (fun e W' ⟨h3, h4⟩ => ⟨h3, h2 W' _ h4⟩)
theorem ow_back0 (h : Ow A0 F0 W L) (hi : L[i]? = some (Res.tt g T)) (hT : T n = some (x, t)) (m : Int) (hm : m < 1 ∨ (t.sv.length : Int) < m) : Calls Try.prog 16 #[.pointer (some ⟨x, 0, none⟩), .int .i64 m] W fun e W' => e = .returned (.tuple #[.int .i64 0, .bool false]) ∧ W = W' := by
  obtain ⟨A, B, h1, h2⟩ := h.txn hi hT
  exact back_no h1 m hm
theorem ow_len (h : Ow A0 F0 W L) (hi : L[i]? = some (Res.tt g T)) (hT : T n = some (x, t)) {c : Nat} (hc : t.l.length = c) : Calls Try.prog 21 #[.pointer (some ⟨x, 0, none⟩)] W fun e W' => e = .returned (.int .i64 (c : Int)) ∧ W = W' := by
  obtain ⟨A, B, h1, h2⟩ := h.txn hi hT
  rw [← hc]
  exact len_x h1
theorem ow_full (h : Ow A0 F0 W L) (hi : L[i]? = some (Res.tt g T)) (hT : T n = some (x, t)) {b : Bool} (hb : decide (8 ≤ t.ops) = b) : Calls Try.prog 22 #[.pointer (some ⟨x, 0, none⟩)] W fun e W' => e = .returned (.bool b) ∧ W = W' := by
  obtain ⟨A, B, h1, h2⟩ := h.txn hi hT
  rw [← hb]
  exact full_x h1
theorem ow_list (h : Ow A0 F0 W L) (hi : L[i]? = some (Res.tt g T)) (hT : T n = some (x, t)) (hl : t.l.length ≤ 100000) : Calls Try.prog 24 #[.pointer (some ⟨x, 0, none⟩)] W fun e W' => ∃ v, e = .returned v ∧ Ow A0 F0 W' (L ++ [Res.row chK v t.l]) := by
  obtain ⟨A, B, h1, h2⟩ := h.txn hi hT
  refine (list_x h1 hl).mono ?_
  rintro e W' ⟨v, rfl, h3, h4, h5⟩
  exact ⟨v, rfl, h.gotrow h4 h3 h5⟩
end
/-! One transaction, and two. -/
def oneT (x : Nat) (t : Tx) : Tb := fun j => if j = 1 then some (x, t) else none
abbrev noT : Tb := fun _ => none
theorem least_no : leastT noT = 1 := rfl
theorem beg_no {T : Tb} (h : BegT noT T) : ∃ x, T = oneT x tx0 := by
  rcases h with ⟨h, _⟩ | ⟨_, x, h⟩
  · exact absurd h (by decide)
  · refine ⟨x, h.trans ?_⟩
    rw [least_no]
    rfl
theorem oneT_at (x : Nat) (t : Tx) : oneT x t 1 = some (x, t) := rfl
theorem oneT_upd (x : Nat) (t t' : Tx) : updT (oneT x t) 1 (some (x, t')) = oneT x t' := by
  funext j
  unfold updT oneT
  by_cases e : j = 1 <;> simp [e]
theorem sum_one (x : Nat) (t : Tx) : sumT (oneT x t) 4 = t.l.length := by
  simp [sumT, oneT, lenO]
theorem few_one {x : Nat} {t : Tx} {n : Nat} (h : t.l.length ≤ n) : ∀ i y u, oneT x t i = some (y, u) → u.l.length ≤ n := by
  intro i y u e
  unfold oneT at e
  split at e
  · injection e with e
    injection e with e1 e2
    subst e2
    exact h
  · cases e
end Go.Proofs.Ytkegfedbffhnfaa
