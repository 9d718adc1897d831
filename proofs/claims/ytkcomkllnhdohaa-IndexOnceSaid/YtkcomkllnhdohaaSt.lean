/-
  Things of a call's own, side by side: indexes, a map, blocks, rows of items: each in blocks of its own; what a call on one of them leaves of all.
-/
import Derived.Test.YtkcomkllnhdohaaScan
namespace Go.Proofs.Ytkcomkllnhdohaa
open Go.RowKit
set_option maxRecDepth 20000
set_option linter.unusedSimpArgs false
set_option linter.unusedVariables false

inductive Rsc where
  | ix (g : Nat) (xs : List It)
  | map (b n : Nat) (f : ByteArray → Option It) (c : Nat)
  | blk (g : Nat) (t : TypeId) (cs : Array Value)
  | its (v : Value) (xs : List It)
  | obj (g : Nat) (o : Obj)
/-- It lies in blocks of S. -/
def Rsc.At (W : World) (S : Nat → Prop) : Rsc → Prop
  | .ix g xs => S g ∧ ∃ r, Ix W g r xs ∧ ∀ k, r = some k → S k
  | .map b n f c => S b ∧ MapS It.v W b n f c
  | .blk g t cs => S g ∧ Blk W g t cs
  | .its v xs => Its 32 W 0 v xs ∧ ∀ k, v.ownBlock = some k → S k
  | .obj g o => S g ∧ W.heap[g]? = some o
theorem Rsc.At.keep {W W' : World} {S X : Nat → Prop} {r : Rsc} (h : r.At W S) (hk : Kept X W W') (hd : ∀ k, S k → ¬ X k) : r.At W' S := by
  cases r with
  | ix g xs => obtain ⟨h1, r, h2, h3⟩ := h; exact ⟨h1, r, h2.keep hk (hd g h1) (fun k e => hd k (h3 k e)), h3⟩
  | map b n f c => obtain ⟨h1, h2⟩ := h; exact ⟨h1, h2.same (hk.block b h2.lt (hd b h1))⟩
  | blk g t cs => obtain ⟨h1, h2⟩ := h; exact ⟨h1, hk.blk h2 (hd g h1)⟩
  | its v xs => obtain ⟨h1, h2⟩ := h; exact ⟨hk.own h1 (fun k e => hd k (h2 k e)), h2⟩
  | obj g o => obtain ⟨h1, h2⟩ := h; exact ⟨h1, (hk.block g (Array.getElem?_eq_some_iff.1 h2).1 (hd g h1)).trans h2⟩
theorem Rsc.At.mono {W : World} {S S' : Nat → Prop} {r : Rsc} (h : r.At W S) (hs : ∀ k, S k → k < W.heap.size → S' k) : r.At W S' := by
  cases r with
  | ix g xs => obtain ⟨h1, r, h2, h3⟩ := h; exact ⟨hs g h1 h2.lt, r, h2, fun k e => hs k (h3 k e) (h2.rlt k e)⟩
  | map b n f c => obtain ⟨h1, h2⟩ := h; exact ⟨hs b h1 h2.lt, h2⟩
  | blk g t cs => obtain ⟨h1, h2⟩ := h; exact ⟨hs g h1 h2.lt, h2⟩
  | its v xs => obtain ⟨h1, h2⟩ := h; exact ⟨h1, fun k e => hs k (h2 k e) (h1.lt k e).2⟩
  | obj g o => obtain ⟨h1, h2⟩ := h; exact ⟨hs g h1 (Array.getElem?_eq_some_iff.1 h2).1, h2⟩
/-- Since A0 only blocks of F0, and new ones, have turned; F are the call's own blocks; L is what lies in them, side by side. -/
structure OwF (A0 : World) (F0 F : Nat → Prop) (W : World) (L : List Rsc) : Prop where
  ex : ∃ lab : Nat → Nat, (∀ k, F k ↔ lab k ≠ 0) ∧ (∀ k, lab k ≠ 0 → k < W.heap.size) ∧ ∀ i (r : Rsc), L[i]? = some r → r.At W (fun k => lab k = i + 1)
  kept : Kept F0 A0 W
  new : ∀ k, F k → F0 k ∨ A0.heap.size ≤ k
def Ow (A0 : World) (F0 : Nat → Prop) (W : World) (L : List Rsc) : Prop := ∃ F, OwF A0 F0 F W L
section
variable {A0 W W' : World} {F0 F : Nat → Prop} {L : List Rsc} {i : Nat}
theorem Ow.start (w : World) : Ow w (fun _ => False) w [] := ⟨fun _ => False, ⟨fun _ => 0, fun k => by simp, fun k h => absurd rfl h, fun i r h => by simp at h⟩, Kept.refl _ _, fun k h => h.elim⟩
theorem OwF.lt (h : OwF A0 F0 F W L) : ∀ k, F k → k < W.heap.size := by
  obtain ⟨lab, h1, h2, _⟩ := h.ex
  exact fun k hk => h2 k ((h1 k).1 hk)
theorem OwF.restart (h : OwF A0 F0 F W L) : Ow W F W L := ⟨F, h.ex, Kept.refl _ _, fun k hk => .inl hk⟩
theorem OwF.join {B : World} {F' : Nat → Prop} {L' : List Rsc} (h : OwF A0 F0 F W L) (k : OwF W F F' B L') : OwF A0 F0 F' B L' :=
  ⟨k.ex, h.kept.trans k.kept (fun i hi => h.new i hi), fun j hj => by
    rcases k.new j hj with h1 | h1
    · exact h.new j h1
    · exact .inr (Nat.le_trans h.kept.size h1)⟩
/-- What turns none of them. -/
theorem OwF.keep {X : Nat → Prop} (h : OwF A0 F0 F W L) (hk : Kept X W W') (hX : ∀ k, X k → ¬ F k ∧ A0.heap.size ≤ k) : OwF A0 F0 F W' L := by
  obtain ⟨⟨lab, h1, h2, h3⟩, h4, h5⟩ := h
  exact ⟨⟨lab, h1, fun k hk' => Nat.lt_of_lt_of_le (h2 k hk') hk.size, fun i r hi => (h3 i r hi).keep hk (fun k e hx => (hX k hx).1 ((h1 k).2 (by rw [e]; omega)))⟩, h4.trans hk (fun i hi => .inr (hX i hi).2), h5⟩
theorem OwF.below (h : OwF A0 F0 F W L) (hb : Below W.heap.size W W') : OwF A0 F0 F W' L := h.keep (Kept.of_below (S := fun _ => False) hb) (fun k h => h.elim)
theorem Ow.below (h : Ow A0 F0 W L) (hb : Below W.heap.size W W') : Ow A0 F0 W' L := let ⟨F, h⟩ := h; ⟨F, h.below hb⟩
theorem OwF.calm {D : Nat} (h : OwF A0 F0 F W L) (hc : Calm D W W') (h1 : ¬ F D) (h2 : ¬ F (D + 1)) (hD : A0.heap.size ≤ D) : OwF A0 F0 F W' L :=
  h.keep hc.kept (by rintro k (rfl | rfl); exact ⟨h1, hD⟩; exact ⟨h2, by omega⟩)
theorem Ow.kept (h : Ow A0 F0 W L) : Kept F0 A0 W := let ⟨F, h⟩ := h; h.kept
theorem Ow.bel {w : World} (h : Ow w (fun _ => False) W L) : Below w.heap.size w W := h.kept.below (Nat.le_refl _) (fun k hk => hk.elim)
theorem OwF.take (h : OwF A0 F0 F W L) (n : Nat) : OwF A0 F0 F W (L.take n) := by
  obtain ⟨⟨lab, h1, h2, h3⟩, h4, h5⟩ := h
  refine ⟨⟨lab, h1, h2, fun i r hi => h3 i r ?_⟩, h4, h5⟩
  rw [List.getElem?_take] at hi
  split at hi
  · exact hi
  · cases hi
theorem Ow.take (h : Ow A0 F0 W L) (n : Nat) : Ow A0 F0 W (L.take n) := let ⟨F, h⟩ := h; ⟨F, h.take n⟩
/-- What a call on the i-th one is given, and owes. -/
theorem Ow.split {r : Rsc} (h : Ow A0 F0 W L) (hi : L[i]? = some r) : ∃ S : Nat → Prop, r.At W S ∧ ∀ (W' : World) (r' : Rsc), Kept S W W' → r'.At W' (fun k => S k ∨ W.heap.size ≤ k) → Ow A0 F0 W' (L.set i r') := by
  obtain ⟨F, ⟨lab, h1, h2, h3⟩, h4, h5⟩ := h
  refine ⟨_, h3 i r hi, fun W' r' hk hr => ?_⟩
  have hil : i < L.length := (List.getElem?_eq_some_iff.1 hi).1
  refine ⟨fun k => F k ∨ (W.heap.size ≤ k ∧ k < W'.heap.size), ⟨fun k => if k < W.heap.size then lab k else if k < W'.heap.size then i + 1 else 0, fun k => ?_, fun k hk' => ?_, fun j q hj => ?_⟩, h4.trans hk (fun k e => h5 k ((h1 k).2 (by rw [e]; omega))), fun k hk' => ?_⟩
  · have hs := hk.size
    dsimp only
    by_cases e : k < W.heap.size
    · rw [if_pos e, ← h1]
      constructor
      · rintro (h | h)
        · exact h
        · omega
      · exact .inl
    · rw [if_neg e]
      by_cases e2 : k < W'.heap.size
      · rw [if_pos e2]
        exact ⟨fun _ => by omega, fun _ => .inr ⟨by omega, e2⟩⟩
      · rw [if_neg e2]
        constructor
        · rintro (h | h)
          · exact absurd (h2 k ((h1 k).1 h)) e
          · omega
        · intro h
          exact absurd rfl h
  · have hs := hk.size
    dsimp only at hk'
    by_cases e : k < W.heap.size
    · omega
    · rw [if_neg e] at hk'
      by_cases e2 : k < W'.heap.size
      · exact e2
      · rw [if_neg e2] at hk'
        exact absurd rfl hk'
  · by_cases e : j = i
    · subst e
      rw [List.getElem?_set_self hil] at hj
      obtain rfl := Option.some.inj hj
      refine hr.mono (fun k hs hlt => ?_)
      by_cases e : k < W.heap.size
      · show (if k < W.heap.size then lab k else _) = j + 1
        rw [if_pos e]
        rcases hs with hs | hs
        · exact hs
        · omega
      · show (if k < W.heap.size then lab k else _) = j + 1
        rw [if_neg e, if_pos hlt]
    · rw [List.getElem?_set_ne (fun h => e h.symm)] at hj
      refine ((h3 j q hj).keep hk (fun k e1 e2 => e (by omega))).mono (fun k hs _ => ?_)
      have : k < W.heap.size := h2 k (by rw [hs]; omega)
      show (if k < W.heap.size then lab k else _) = j + 1
      rw [if_pos this]
      exact hs
  · rcases hk' with h | h
    · exact h5 k h
    · exact .inr (Nat.le_trans h4.size h.1)
/-- One more. -/
theorem Ow.push {r' : Rsc} (h : Ow A0 F0 W L) (hb : Below W.heap.size W W') (hr : r'.At W' (fun k => W.heap.size ≤ k)) : Ow A0 F0 W' (L ++ [r']) := by
  obtain ⟨F, ⟨lab, h1, h2, h3⟩, h4, h5⟩ := h
  have hs := hb.size
  refine ⟨fun k => F k ∨ (W.heap.size ≤ k ∧ k < W'.heap.size), ⟨fun k => if k < W.heap.size then lab k else if k < W'.heap.size then L.length + 1 else 0, fun k => ?_, fun k hk' => ?_, fun j q hj => ?_⟩, h4.trans (Kept.of_below (S := fun _ => False) hb) (fun k e => e.elim), fun k hk' => ?_⟩
  · dsimp only
    by_cases e : k < W.heap.size
    · rw [if_pos e, ← h1]
      constructor
      · rintro (h | h)
        · exact h
        · omega
      · exact .inl
    · rw [if_neg e]
      by_cases e2 : k < W'.heap.size
      · rw [if_pos e2]
        exact ⟨fun _ => by omega, fun _ => .inr ⟨by omega, e2⟩⟩
      · rw [if_neg e2]
        constructor
        · rintro (h | h)
          · exact absurd (h2 k ((h1 k).1 h)) e
          · omega
        · intro h
          exact absurd rfl h
  · dsimp only at hk'
    by_cases e : k < W.heap.size
    · omega
    · rw [if_neg e] at hk'
      by_cases e2 : k < W'.heap.size
      · exact e2
      · rw [if_neg e2] at hk'
        exact absurd rfl hk'
  · rcases Nat.lt_or_ge j L.length with hlt | hge
    · rw [List.getElem?_append_left hlt] at hj
      refine ((h3 j q hj).keep (Kept.of_below (S := fun _ => False) hb) (fun k _ h => h)).mono (fun k hs _ => ?_)
      have : k < W.heap.size := h2 k (by rw [hs]; omega)
      show (if k < W.heap.size then lab k else _) = j + 1
      rw [if_pos this]
      exact hs
    · rw [List.getElem?_append_right hge] at hj
      have e0 : j - L.length = 0 := by
        have := (List.getElem?_eq_some_iff.1 hj).1
        simpa using this
      rw [e0] at hj
      obtain rfl := Option.some.inj hj
      refine hr.mono (fun k hs hlt => ?_)
      show (if k < W.heap.size then lab k else if k < W'.heap.size then L.length + 1 else 0) = j + 1
      rw [if_neg (by omega), if_pos hlt]
      omega
  · rcases hk' with h | h
    · exact h5 k h
    · exact .inr (Nat.le_trans h4.size h.1)
theorem Ow.get {r : Rsc} (h : Ow A0 F0 W L) (hi : L[i]? = some r) : ∃ S, r.At W S := let ⟨F, h⟩ := h; let ⟨lab, _, _, h3⟩ := h.ex; ⟨_, h3 i r hi⟩
theorem Ow.blk {g : Nat} {t : TypeId} {cs : Array Value} (h : Ow A0 F0 W L) (hi : L[i]? = some (.blk g t cs)) : Blk W g t cs := let ⟨S, h⟩ := h.get hi; h.2
theorem Ow.its {v : Value} {xs : List It} (h : Ow A0 F0 W L) (hi : L[i]? = some (.its v xs)) : Its 32 W 0 v xs := let ⟨S, h⟩ := h.get hi; h.1
theorem Ow.map {b n c : Nat} {f : ByteArray → Option It} (h : Ow A0 F0 W L) (hi : L[i]? = some (.map b n f c)) : MapS It.v W b n f c := let ⟨S, h⟩ := h.get hi; h.2
theorem Ow.ix {g : Nat} {xs : List It} (h : Ow A0 F0 W L) (hi : L[i]? = some (.ix g xs)) : ∃ r, Ix W g r xs := let ⟨S, _, r, h, _⟩ := h.get hi; ⟨r, h⟩
/-! A block, an index, a map that are new. -/
theorem Ow.box (h : Ow A0 F0 W L) (t : TypeId) (cs : Array Value) : Ow A0 F0 (W.alloc (.cells cs t)) (L ++ [.blk W.heap.size t cs]) := h.push ((Below.refl _ _).alloc (Nat.le_refl _) _) ⟨Nat.le_refl _, heap_new W _⟩
theorem Ow.newix (h : Ow A0 F0 W L) : Ow A0 F0 (W.alloc (.cells #[.slice none 0 0] 27)) (L ++ [.ix W.heap.size []]) := h.push ((Below.refl _ _).alloc (Nat.le_refl _) _) ⟨Nat.le_refl _, none, Ix.new_ W, fun k e => by cases e⟩
theorem Ow.newmap (h : Ow A0 F0 W L) : Ow A0 F0 (W.alloc (.map #[] 0)) (L ++ [.map W.heap.size 0 (fun _ => none) 0]) := h.push ((Below.refl _ _).alloc (Nat.le_refl _) _) ⟨Nat.le_refl _, MapS.new_ W⟩
theorem Ow.nil_its (h : Ow A0 F0 W L) : Ow A0 F0 W (L ++ [.its (.slice none 0 0) []]) := h.push (Below.refl _ _) ⟨Its.nil _ _ _, fun k e => by cases e⟩
/-- A store into a block. -/
theorem Ow.set_ {g : Nat} {t : TypeId} {cs : Array Value} (h : Ow A0 F0 W L) (hi : L[i]? = some (.blk g t cs)) (j : Nat) (u : Value) : Ow A0 F0 (W.setCell ⟨g, j, none⟩ u) (L.set i (.blk g t (cs.setIfInBounds j u))) := by
  obtain ⟨S, ⟨h1, h2⟩, h3⟩ := h.split hi
  exact h3 _ _ ((Kept.setCell W ⟨g, j, none⟩ u).mono (fun k e => .inl (by have e : k = g := e; rw [e]; exact h1))) ⟨.inl h1, h2.set_ j u⟩
/-- A block in which a region stored. -/
theorem Ow.turns {g : Nat} {t : TypeId} {cs cs' : Array Value} (h : Ow A0 F0 W L) (hi : L[i]? = some (.blk g t cs)) (hk : Turns (fun k => k = g) W W') (hb : Blk W' g t cs') : Ow A0 F0 W' (L.set i (.blk g t cs')) := by
  obtain ⟨S, ⟨h1, h2⟩, h3⟩ := h.split hi
  exact h3 _ _ ⟨hk.1, hk.2.1, hk.2.2.1, hk.2.2.2.1, fun k hlt hn => hk.2.2.2.2 k hlt (fun e => hn (by rw [e]; exact h1))⟩ ⟨.inl h1, hb⟩
/-- A row that was appended to. -/
theorem Ow.row {v v' : Value} {xs ys : List It} (h : Ow A0 F0 W L) (hi : L[i]? = some (.its v xs)) (h1 : Its 32 W' 0 v' ys) (h2 : W.grownBy W' v.ownBlock) (h3 : v'.ownBlock = v.ownBlock ∨ v'.ownBlock = some W.heap.size) : Ow A0 F0 W' (L.set i (.its v' ys)) := by
  obtain ⟨S, ⟨h4, h5⟩, h6⟩ := h.split hi
  refine h6 _ _ ((Kept.of_grown h2).mono (fun k e => .inl (h5 k e))) ⟨h1, fun k e => ?_⟩
  rcases h3 with h3 | h3
  · exact .inl (h5 k (h3 ▸ e))
  · rw [h3] at e
    injection e with e
    exact .inr (by omega)
/-- A map that was turned. -/
theorem Ow.mapped {b n n' c c' : Nat} {f f' : ByteArray → Option It} (h : Ow A0 F0 W L) (hi : L[i]? = some (.map b n f c)) (h1 : MapS It.v W' b n' f' c') (h2 : W.mapTurned W' b) : Ow A0 F0 W' (L.set i (.map b n' f' c')) := by
  obtain ⟨S, ⟨h4, h5⟩, h6⟩ := h.split hi
  exact h6 _ _ ((turned_kept h2).mono (fun k e => .inl (by rw [e]; exact h4))) ⟨.inl h4, h1⟩
theorem Ow.ixp {g : Nat} {xs : List It} (h : Ow A0 F0 W L) (hi : L[i]? = some (.ix g xs)) : ∃ r, Ix W g r xs ∧ ∀ (W' : World) (ys : List It), IxP W g r ys W' → Ow A0 F0 W' (L.set i (.ix g ys)) := by
  obtain ⟨S, ⟨hg, r, hx, hr⟩, h3⟩ := h.split hi
  refine ⟨r, hx, fun W' ys hp => ?_⟩
  obtain ⟨r', p1, p2, p3⟩ := hp
  refine h3 _ _ (p2.mono (fun k e => .inl (by rcases e with e | e; rw [e]; exact hg; exact hr k e))) ⟨.inl hg, r', p1, fun k e => ?_⟩
  rcases p3 k e with h4 | h4
  · exact .inl (hr k h4)
  · exact .inr h4
/-- Put, Remove, Find, Len. -/
theorem ow_put {g : Nat} {xs : List It} (h : Ow A0 F0 W L) (hi : L[i]? = some (.ix g xs)) (z : It) (hl : xs.length < 1000) :
    Calls Try.prog 12 #[.pointer (some ⟨g, 0, none⟩), .agg #[.int .i64 z.t, .string z.key, .string z.val, .int .i64 z.p, .int .i64 z.s]] W fun e W' => e = .returned (.tuple #[]) ∧ Ow A0 F0 W' (L.set i (.ix g (putL z xs))) := by
  obtain ⟨r, hx, hw⟩ := h.ixp hi
  refine (Put_any z hx hl).mono ?_
  rintro e W' ⟨rfl, hp⟩
  exact ⟨rfl, hw _ _ hp⟩
theorem ow_remove {g : Nat} {xs : List It} (h : Ow A0 F0 W L) (hi : L[i]? = some (.ix g xs)) (z : It) :
    Calls Try.prog 14 #[.pointer (some ⟨g, 0, none⟩), .int .i64 z.t, .string z.key] W fun e W' => e = .returned (.tuple #[]) ∧ Ow A0 F0 W' (L.set i (.ix g (delL z xs))) := by
  obtain ⟨r, hx, hw⟩ := h.ixp hi
  refine (Remove_any hx).mono ?_
  rintro e W' ⟨rfl, hp⟩
  rw [(hasL_key (same_sought z) xs).2.2] at hp
  exact ⟨rfl, hw _ _ hp⟩
theorem ow_find {g : Nat} {xs : List It} (h : Ow A0 F0 W L) (hi : L[i]? = some (.ix g xs)) (t : Int) (k : ByteArray) {z : It} {b : Bool} (hz : gotL (sought t k) xs = z) (hb : hasL (sought t k) xs = b) :
    Calls Try.prog 15 #[.pointer (some ⟨g, 0, none⟩), .int .i64 t, .string k] W fun e W' => e = .returned (.tuple #[.agg #[.int .i64 z.t, .string z.key, .string z.val, .int .i64 z.p, .int .i64 z.s], .bool b]) ∧ Ow A0 F0 W' L := by
  obtain ⟨r, hx, hw⟩ := h.ixp hi
  refine (Find_any hx).mono ?_
  rintro e W' ⟨rfl, hp⟩
  rw [hz, hb]
  exact ⟨rfl, h.below hp⟩
theorem ow_len {g : Nat} {xs : List It} (h : Ow A0 F0 W L) (hi : L[i]? = some (.ix g xs)) : Calls Try.prog 16 #[.pointer (some ⟨g, 0, none⟩)] W fun e W' => e = .returned (.int .i64 (xs.length : Int)) ∧ W = W' := by
  obtain ⟨r, hx⟩ := h.ix hi
  exact len_any hx
/-! A round of a range: how it begins, how it ends. -/
theorem OwF.round_in {D : Nat} {A C : World} (h : OwF A0 F0 F A L) (t : TypeId) (cs : Array Value) (h1 : ¬ F D) (h2 : ¬ F (D + 1)) (hD : A0.heap.size ≤ D) (hlt : D + 1 < A.heap.size) (hC : Calm D (A.alloc (.cells cs t)) C) :
    ∃ F1, OwF A0 F0 F1 C (L ++ [.blk A.heap.size t cs]) ∧ ∀ k, F1 k → F k ∨ A.heap.size ≤ k := by
  obtain ⟨F1, k1⟩ := h.restart.box t cs
  have k2 := h.join k1
  refine ⟨F1, k2.calm hC (fun e => ?_) (fun e => ?_) hD, k1.new⟩
  · rcases k1.new _ e with e | e
    · exact h1 e
    · omega
  · rcases k1.new _ e with e | e
    · exact h2 e
    · omega
theorem OwF.round_out {m : Nat} {C E : World} {F1 : Nat → Prop} {L2 : List Rsc} (h1 : OwF A0 F0 F1 C L) (hF : ∀ k, F1 k → F k ∨ m ≤ k) (h2 : Ow C F1 E L2) (hm : m ≤ C.heap.size) : Kept (fun j => F j ∨ m ≤ j) C E ∧ ∃ F', OwF A0 F0 F' E L2 ∧ ∀ j, F' j → F j ∨ m ≤ j := by
  obtain ⟨F', h3⟩ := h2
  refine ⟨h3.kept.mono (fun k e => .inl (hF k e)), F', h1.join h3, fun j hj => ?_⟩
  rcases h3.new j hj with e | e
  · exact hF j e
  · exact .inr (by omega)
/-- Behind the last round, the block of what was put off is shut. -/
theorem ow_end {w A : World} {L : List Rsc} {D : Nat} {o : Obj} (h : Ow w (fun _ => False) A L) (hD : w.heap.size ≤ D) : Below w.heap.size w (A.putObj D o) :=
  h.bel.trans (((Calm.put D D A o (.inl rfl)).kept).below (by exact h.kept.size) (by rintro k (e | e) <;> omega))
/-! Where several ranges follow each other: what each put off lies in a block, and is one more thing of the call's own. -/
theorem OwF.adopt {D : Nat} {o : Obj} (h : OwF A0 F0 F W L) (hD : ¬ F D) (h0 : A0.heap.size ≤ D) (ho : W.heap[D]? = some o) : Ow A0 F0 W (L ++ [.obj D o]) := by
  obtain ⟨⟨lab, h1, h2, h3⟩, h4, h5⟩ := h
  have hlt := (Array.getElem?_eq_some_iff.1 ho).1
  have hD0 : lab D = 0 := by
    rcases Nat.eq_zero_or_pos (lab D) with e | e
    · exact e
    · exact absurd ((h1 D).2 (by omega)) hD
  refine ⟨fun k => F k ∨ k = D, ⟨fun k => if k = D then L.length + 1 else lab k, fun k => ?_, fun k hk => ?_, fun j q hj => ?_⟩, h4, fun k hk => ?_⟩
  · dsimp only
    by_cases e : k = D
    · rw [if_pos e]
      exact ⟨fun _ => by omega, fun _ => .inr e⟩
    · rw [if_neg e, ← h1]
      exact ⟨fun h => h.resolve_right e, .inl⟩
  · dsimp only at hk
    by_cases e : k = D
    · rw [e]; exact hlt
    · rw [if_neg e] at hk
      exact h2 k hk
  · rcases Nat.lt_or_ge j L.length with hlt' | hge
    · rw [List.getElem?_append_left hlt'] at hj
      refine (h3 j q hj).mono (fun k hs _ => ?_)
      have : k ≠ D := fun e => by rw [e, hD0] at hs; omega
      show (if k = D then L.length + 1 else lab k) = j + 1
      rw [if_neg this]
      exact hs
    · rw [List.getElem?_append_right hge] at hj
      have e0 : j - L.length = 0 := by
        have := (List.getElem?_eq_some_iff.1 hj).1
        simpa using this
      rw [e0] at hj
      obtain rfl := Option.some.inj hj
      refine ⟨?_, ho⟩
      show (if D = D then L.length + 1 else lab D) = j + 1
      rw [if_pos rfl]
      omega
  · rcases hk with h | h
    · exact h5 k h
    · exact .inr (by omega)
theorem Ow.obj {g : Nat} {o : Obj} (h : Ow A0 F0 W L) (hi : L[i]? = some (.obj g o)) : W.heap[g]? = some o := let ⟨S, h⟩ := h.get hi; h.2
theorem Ow.taken {g : Nat} {o : Obj} (h : Ow A0 F0 W L) (hi : L[i]? = some (.obj g o)) (o' : Obj) : Ow A0 F0 (W.putObj g o') (L.set i (.obj g o')) := by
  obtain ⟨S, ⟨h1, h2⟩, h3⟩ := h.split hi
  have hlt := (Array.getElem?_eq_some_iff.1 h2).1
  exact h3 _ _ ⟨rfl, rfl, rfl, by simp [World.putObj], fun j _ hj => World.putObj_heap_other (fun e => hj (by rw [e]; exact h1))⟩ ⟨.inl h1, World.putObj_heap_same hlt⟩
end
end Go.Proofs.Ytkcomkllnhdohaa
