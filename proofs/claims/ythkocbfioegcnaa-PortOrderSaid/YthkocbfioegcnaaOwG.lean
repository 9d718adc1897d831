/-
  Things of a call's own, of any kind, side by side: each in blocks of its own; what a call on one of them leaves of all.
-/
import Derived.Test.YthkocbfioegcnaaMapG
namespace Go.Proofs.Ythkocbfioegcnaa
open Go.RowKit
set_option maxRecDepth 20000
set_option linter.unusedSimpArgs false
set_option linter.unusedVariables false

/-- A thing: what it says of the world, in blocks of S. -/
structure Res where
  At : World → (Nat → Prop) → Prop
  keep : ∀ {W W' : World} {S X : Nat → Prop}, At W S → Kept X W W' → (∀ k, S k → ¬ X k) → At W' S
  mono : ∀ {W : World} {S S' : Nat → Prop}, At W S → (∀ k, S k → k < W.heap.size → S' k) → At W S'
/-- A block, known whole. -/
def Res.blk (g : Nat) (t : TypeId) (cs : Array Value) : Res where
  At := fun W S => S g ∧ Blk W g t cs
  keep := fun h hk hd => ⟨h.1, hk.blk h.2 (hd g h.1)⟩
  mono := fun h hs => ⟨hs g h.1 h.2.lt, h.2⟩
/-- Any object. -/
def Res.obj (g : Nat) (o : Obj) : Res where
  At := fun W S => S g ∧ W.heap[g]? = some o
  keep := fun h hk hd => ⟨h.1, (hk.block g (Array.getElem?_eq_some_iff.1 h.2).1 (hd g h.1)).trans h.2⟩
  mono := fun h hs => ⟨hs g h.1 (Array.getElem?_eq_some_iff.1 h.2).1, h.2⟩
/-- A map. -/
def Res.map {α β : Type} (K : KeyShape α) (mk : β → Value) (b n : Nat) (f : α → Option β) (c : Nat) : Res where
  At := fun W S => S b ∧ MapG K mk W b n f c
  keep := fun h hk hd => ⟨h.1, h.2.same (hk.block b h.2.lt (hd b h.1))⟩
  mono := fun h hs => ⟨hs b h.1 h.2.lt, h.2⟩
/-- A map, and a range over it. -/
def Res.range {α β : Type} (K : KeyShape α) (mk : β → Value) (b r n : Nat) (f : α → Option β) (c : Nat) (left : α → Bool) (cnt : Nat) : Res where
  At := fun W S => S b ∧ S r ∧ RangeG K mk W b r n f c left cnt
  keep := fun h hk hd => ⟨h.1, h.2.1, h.2.2.same (hk.block b h.2.2.owns.lt (hd b h.1)) (hk.block r h.2.2.lt (hd r h.2.1))⟩
  mono := fun h hs => ⟨hs b h.1 h.2.2.owns.lt, hs r h.2.1 h.2.2.lt, h.2.2⟩
/-- Since A0 only blocks of F0, and new ones, have turned; F are the call's own blocks; L is what lies in them, side by side. -/
structure OwF (A0 : World) (F0 F : Nat → Prop) (W : World) (L : List Res) : Prop where
  ex : ∃ lab : Nat → Nat, (∀ k, F k ↔ lab k ≠ 0) ∧ (∀ k, lab k ≠ 0 → k < W.heap.size) ∧ ∀ i (r : Res), L[i]? = some r → r.At W (fun k => lab k = i + 1)
  kept : Kept F0 A0 W
  new : ∀ k, F k → F0 k ∨ A0.heap.size ≤ k
def Ow (A0 : World) (F0 : Nat → Prop) (W : World) (L : List Res) : Prop := ∃ F, OwF A0 F0 F W L
section
variable {A0 W W' : World} {F0 F : Nat → Prop} {L : List Res} {i : Nat}
theorem Ow.start (w : World) : Ow w (fun _ => False) w [] := ⟨fun _ => False, ⟨fun _ => 0, fun k => by simp, fun k h => absurd rfl h, fun i r h => by simp at h⟩, Kept.refl _ _, fun k h => h.elim⟩
theorem OwF.lt (h : OwF A0 F0 F W L) : ∀ k, F k → k < W.heap.size := by
  obtain ⟨lab, h1, h2, _⟩ := h.ex
  exact fun k hk => h2 k ((h1 k).1 hk)
theorem OwF.restart (h : OwF A0 F0 F W L) : Ow W F W L := ⟨F, h.ex, Kept.refl _ _, fun k hk => .inl hk⟩
theorem OwF.join {B : World} {F' : Nat → Prop} {L' : List Res} (h : OwF A0 F0 F W L) (k : OwF W F F' B L') : OwF A0 F0 F' B L' :=
  ⟨k.ex, h.kept.trans k.kept (fun i hi => h.new i hi), fun j hj => by
    rcases k.new j hj with h1 | h1
    · exact h.new j h1
    · exact .inr (Nat.le_trans h.kept.size h1)⟩
/-- What turns none of them. -/
theorem OwF.keep {X : Nat → Prop} (h : OwF A0 F0 F W L) (hk : Kept X W W') (hX : ∀ k, X k → ¬ F k ∧ A0.heap.size ≤ k) : OwF A0 F0 F W' L := by
  obtain ⟨⟨lab, h1, h2, h3⟩, h4, h5⟩ := h
  exact ⟨⟨lab, h1, fun k hk' => Nat.lt_of_lt_of_le (h2 k hk') hk.size, fun i r hi => r.keep (h3 i r hi) hk (fun k e hx => (hX k hx).1 ((h1 k).2 (by rw [e]; omega)))⟩, h4.trans hk (fun i hi => .inr (hX i hi).2), h5⟩
theorem OwF.below (h : OwF A0 F0 F W L) (hb : Below W.heap.size W W') : OwF A0 F0 F W' L := h.keep (Kept.of_below (S := fun _ => False) hb) (fun k h => h.elim)
theorem Ow.below (h : Ow A0 F0 W L) (hb : Below W.heap.size W W') : Ow A0 F0 W' L := let ⟨F, h⟩ := h; ⟨F, h.below hb⟩
theorem Ow.kept (h : Ow A0 F0 W L) : Kept F0 A0 W := let ⟨F, h⟩ := h; h.kept
theorem Ow.bel {w : World} (h : Ow w (fun _ => False) W L) : Below w.heap.size w W := h.kept.below (Nat.le_refl _) (fun k hk => hk.elim)
theorem OwF.take (h : OwF A0 F0 F W L) (n : Nat) : OwF A0 F0 F W (L.take n) := by
  obtain ⟨⟨lab, h1, h2, h3⟩, h4, h5⟩ := h
  refine ⟨⟨lab, h1, h2, fun i r hi => h3 i r ?_⟩, h4, h5⟩
  rw [List.getElem?_take] at hi
  split at hi
  · exact hi
  · cases hi
theorem Ow.take (h : Ow A0 F0 W L) (n : Nat) : Ow A0 F0 W (L.take n) := let ⟨F, h⟩ := h; ⟨F, h.take n⟩
/-- What a call on the i-th one is given, and owes. -/
theorem Ow.split {r : Res} (h : Ow A0 F0 W L) (hi : L[i]? = some r) : ∃ S : Nat → Prop, r.At W S ∧ ∀ (W' : World) (r' : Res), Kept S W W' → r'.At W' (fun k => S k ∨ W.heap.size ≤ k) → Ow A0 F0 W' (L.set i r') := by
  obtain ⟨F, ⟨lab, h1, h2, h3⟩, h4, h5⟩ := h
  refine ⟨_, h3 i r hi, fun W' r' hk hr => ?_⟩
  have hil : i < L.length := (List.getElem?_eq_some_iff.1 hi).1
  refine ⟨fun k => F k ∨ (W.heap.size ≤ k ∧ k < W'.heap.size), ⟨fun k => if k < W.heap.size then lab k else if k < W'.heap.size then i + 1 else 0, fun k => ?_, fun k hk' => ?_, fun j q hj => ?_⟩, h4.trans hk (fun k e => h5 k ((h1 k).2 (by rw [e]; omega))), fun k hk' => ?_⟩
  · have hs := hk.size
    dsimp only
    by_cases e : k < W.heap.size
    · rw [if_pos e, ← h1]
      constructor
      · rintro (h | h)
        · exact h
        · omega
      · exact .inl
    · rw [if_neg e]
      by_cases e2 : k < W'.heap.size
      · rw [if_pos e2]
        exact ⟨fun _ => by omega, fun _ => .inr ⟨by omega, e2⟩⟩
      · rw [if_neg e2]
        constructor
        · rintro (h | h)
          · exact absurd (h2 k ((h1 k).1 h)) e
          · omega
        · intro h
          exact absurd rfl h
  · have hs := hk.size
    dsimp only at hk'
    by_cases e : k < W.heap.size
    · omega
    · rw [if_neg e] at hk'
      by_cases e2 : k < W'.heap.size
      · exact e2
      · rw [if_neg e2] at hk'
        exact absurd rfl hk'
  · by_cases e : j = i
    · subst e
      rw [List.getElem?_set_self hil] at hj
      obtain rfl := Option.some.inj hj
      refine Res.mono _ hr (fun k hs hlt => ?_)
      by_cases e : k < W.heap.size
      · show (if k < W.heap.size then lab k else _) = j + 1
        rw [if_pos e]
        rcases hs with hs | hs
        · exact hs
        · omega
      · show (if k < W.heap.size then lab k else _) = j + 1
        rw [if_neg e, if_pos hlt]
    · rw [List.getElem?_set_ne (fun h => e h.symm)] at hj
      refine q.mono (q.keep (h3 j q hj) hk (fun k e1 e2 => e (by omega))) (fun k hs _ => ?_)
      have : k < W.heap.size := h2 k (by rw [hs]; omega)
      show (if k < W.heap.size then lab k else _) = j + 1
      rw [if_pos this]
      exact hs
  · rcases hk' with h | h
    · exact h5 k h
    · exact .inr (Nat.le_trans h4.size h.1)
/-- One more. -/
theorem Ow.push {r' : Res} (h : Ow A0 F0 W L) (hb : Below W.heap.size W W') (hr : r'.At W' (fun k => W.heap.size ≤ k)) : Ow A0 F0 W' (L ++ [r']) := by
  obtain ⟨F, ⟨lab, h1, h2, h3⟩, h4, h5⟩ := h
  have hs := hb.size
  refine ⟨fun k => F k ∨ (W.heap.size ≤ k ∧ k < W'.heap.size), ⟨fun k => if k < W.heap.size then lab k else if k < W'.heap.size then L.length + 1 else 0, fun k => ?_, fun k hk' => ?_, fun j q hj => ?_⟩, h4.trans (Kept.of_below (S := fun _ => False) hb) (fun k e => e.elim), fun k hk' => ?_⟩
  · dsimp only
    by_cases e : k < W.heap.size
    · rw [if_pos e, ← h1]
      constructor
      · rintro (h | h)
        · exact h
        · omega
      · exact .inl
    · rw [if_neg e]
      by_cases e2 : k < W'.heap.size
      · rw [if_pos e2]
        exact ⟨fun _ => by omega, fun _ => .inr ⟨by omega, e2⟩⟩
      · rw [if_neg e2]
        constructor
        · rintro (h | h)
          · exact absurd (h2 k ((h1 k).1 h)) e
          · omega
        · intro h
          exact absurd rfl h
  · dsimp only at hk'
    by_cases e : k < W.heap.size
    · omega
    · rw [if_neg e] at hk'
      by_cases e2 : k < W'.heap.size
      · exact e2
      · rw [if_neg e2] at hk'
        exact absurd rfl hk'
  · rcases Nat.lt_or_ge j L.length with hlt | hge
    · rw [List.getElem?_append_left hlt] at hj
      refine q.mono (q.keep (h3 j q hj) (Kept.of_below (S := fun _ => False) hb) (fun k _ h => h)) (fun k hs _ => ?_)
      have : k < W.heap.size := h2 k (by rw [hs]; omega)
      show (if k < W.heap.size then lab k else _) = j + 1
      rw [if_pos this]
      exact hs
    · rw [List.getElem?_append_right hge] at hj
      have e0 : j - L.length = 0 := by
        have := (List.getElem?_eq_some_iff.1 hj).1
        simpa using this
      rw [e0] at hj
      obtain rfl := Option.some.inj hj
      refine Res.mono _ hr (fun k hs hlt => ?_)
      show (if k < W.heap.size then lab k else if k < W'.heap.size then L.length + 1 else 0) = j + 1
      rw [if_neg (by omega), if_pos hlt]
      omega
  · rcases hk' with h | h
    · exact h5 k h
    · exact .inr (Nat.le_trans h4.size h.1)
theorem Ow.get {r : Res} (h : Ow A0 F0 W L) (hi : L[i]? = some r) : ∃ S, r.At W S := let ⟨F, h⟩ := h; let ⟨lab, _, _, h3⟩ := h.ex; ⟨_, h3 i r hi⟩
theorem Ow.blk {g : Nat} {t : TypeId} {cs : Array Value} (h : Ow A0 F0 W L) (hi : L[i]? = some (Res.blk g t cs)) : Blk W g t cs := let ⟨S, h⟩ := h.get hi; h.2
/-! A block, an index, a map that are new. -/
theorem Ow.box (h : Ow A0 F0 W L) (t : TypeId) (cs : Array Value) : Ow A0 F0 (W.alloc (.cells cs t)) (L ++ [Res.blk W.heap.size t cs]) := h.push ((Below.refl _ _).alloc (Nat.le_refl _) _) ⟨Nat.le_refl _, heap_new W _⟩
/-- A store into a block. -/
theorem Ow.set_ {g : Nat} {t : TypeId} {cs : Array Value} (h : Ow A0 F0 W L) (hi : L[i]? = some (Res.blk g t cs)) (j : Nat) (u : Value) : Ow A0 F0 (W.setCell ⟨g, j, none⟩ u) (L.set i (Res.blk g t (cs.setIfInBounds j u))) := by
  obtain ⟨S, ⟨h1, h2⟩, h3⟩ := h.split hi
  exact h3 _ _ ((Kept.setCell W ⟨g, j, none⟩ u).mono (fun k e => .inl (by have e : k = g := e; rw [e]; exact h1))) ⟨.inl h1, h2.set_ j u⟩
/-- A block in which a region stored. -/
theorem Ow.turns {g : Nat} {t : TypeId} {cs cs' : Array Value} (h : Ow A0 F0 W L) (hi : L[i]? = some (Res.blk g t cs)) (hk : Turns (fun k => k = g) W W') (hb : Blk W' g t cs') : Ow A0 F0 W' (L.set i (Res.blk g t cs')) := by
  obtain ⟨S, ⟨h1, h2⟩, h3⟩ := h.split hi
  exact h3 _ _ ⟨hk.1, hk.2.1, hk.2.2.1, hk.2.2.2.1, fun k hlt hn => hk.2.2.2.2 k hlt (fun e => hn (by rw [e]; exact h1))⟩ ⟨.inl h1, hb⟩
theorem Ow.map {α β : Type} {K : KeyShape α} {mk : β → Value} {b n c : Nat} {f : α → Option β} (h : Ow A0 F0 W L) (hi : L[i]? = some (Res.map K mk b n f c)) : MapG K mk W b n f c := let ⟨S, h⟩ := h.get hi; h.2
theorem Ow.range {α β : Type} {K : KeyShape α} {mk : β → Value} {b r n c cnt : Nat} {f : α → Option β} {left : α → Bool} (h : Ow A0 F0 W L) (hi : L[i]? = some (Res.range K mk b r n f c left cnt)) : RangeG K mk W b r n f c left cnt := let ⟨S, h⟩ := h.get hi; h.2.2
theorem Ow.newmap {α β : Type} (K : KeyShape α) (mk : β → Value) (h : Ow A0 F0 W L) : Ow A0 F0 (W.alloc (.map #[] 0)) (L ++ [Res.map K mk W.heap.size 0 (fun _ => none) 0]) := h.push ((Below.refl _ _).alloc (Nat.le_refl _) _) ⟨Nat.le_refl _, MapG.new_ W⟩
/-- A map that was turned. -/
theorem Ow.mapped {α β : Type} {K : KeyShape α} {mk : β → Value} {b n n' c c' : Nat} {f f' : α → Option β} (h : Ow A0 F0 W L) (hi : L[i]? = some (Res.map K mk b n f c)) (h1 : MapG K mk W' b n' f' c') (h2 : W.mapTurned W' b) : Ow A0 F0 W' (L.set i (Res.map K mk b n' f' c')) := by
  obtain ⟨S, ⟨h4, h5⟩, h6⟩ := h.split hi
  exact h6 _ _ ((turned_kept h2).mono (fun k e => .inl (by rw [e]; exact h4))) ⟨.inl h4, h1⟩
/-- A range begins, over a map. -/
theorem Ow.ranged {α β : Type} {K : KeyShape α} {mk : β → Value} {b n c : Nat} {f : α → Option β} (h : Ow A0 F0 W L) (hi : L[i]? = some (Res.map K mk b n f c)) (h1 : RangeG K mk W' b W.heap.size n f c (fun s => (f s).isSome) c) (hb : Below W.heap.size W W') : Ow A0 F0 W' (L.set i (Res.range K mk b W.heap.size n f c (fun s => (f s).isSome) c)) := by
  obtain ⟨S, ⟨h4, h5⟩, h6⟩ := h.split hi
  exact h6 _ _ (Kept.of_below hb) ⟨.inl h4, .inr (Nat.le_refl _), h1⟩
/-- Its step. -/
theorem Ow.stepped {α β : Type} {K : KeyShape α} {mk : β → Value} {b r n c cnt cnt' : Nat} {f : α → Option β} {left left' : α → Bool} (h : Ow A0 F0 W L) (hi : L[i]? = some (Res.range K mk b r n f c left cnt)) (h1 : RangeG K mk W' b r n f c left' cnt') (hk : Kept (fun k => k = r) W W') : Ow A0 F0 W' (L.set i (Res.range K mk b r n f c left' cnt')) := by
  obtain ⟨S, ⟨h4, h5, _⟩, h6⟩ := h.split hi
  exact h6 _ _ (hk.mono (fun k e => .inl (by rw [e]; exact h5))) ⟨.inl h4, .inl h5, h1⟩
end
end Go.Proofs.Ythkocbfioegcnaa
