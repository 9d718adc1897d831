/-
  One row in its box; forty bytes laid by hand; what Decode makes of a row's bytes.
-/
import Derived.Test.YtkjngpiblbkccaaOrder
import Derived.Test.YtkjngpiblbkccaaCopy
import Derived.StillTailTactics
namespace Go.Proofs.Ytkjngpiblbkccaa
open Go.RowKit

theorem lright_told (b : Bool) (t : Int) (k v : ByteArray) (w : World) (h : rightB t k v = b) :
    Calls Try.prog 12 #[.agg #[.int .i64 t, .string k, .string v]] w fun e w' => e = .returned (.bool b) ∧ Below w.heap.size w w' := by
  subst h
  exact lright_any t k v w
/-- A row's bytes, of what a row may be. -/
def encB (t : Int) (k v : ByteArray) : List UInt8 := encL t.toNat k.data.toList v.data.toList
theorem encB_length {t : Int} {k v : ByteArray} (h : rightB t k v = true) : (encB t k v).length = 40 := by
  obtain ⟨_, _, h3, h4⟩ := rightB_iff.1 h
  exact encL_length _ _ _ (by rw [size_data]; exact h3) (by rw [size_data]; exact h4)
theorem encB_inj {t t' : Int} {k v k' v' : ByteArray} (h : rightB t k v = true) (h' : rightB t' k' v' = true) (e : encB t k v = encB t' k' v') : t = t' ∧ k = k' ∧ v = v' := by
  obtain ⟨h1, h2, h3, h4⟩ := rightB_iff.1 h
  obtain ⟨h1', h2', h3', h4'⟩ := rightB_iff.1 h'
  obtain ⟨a1, a2, a3⟩ := row_enc t.toNat k.data.toList v.data.toList (by omega) (by rw [size_data]; exact h3) (by rw [size_data]; exact h4)
  obtain ⟨b1, b2, b3⟩ := row_enc t'.toNat k'.data.toList v'.data.toList (by omega) (by rw [size_data]; exact h3') (by rw [size_data]; exact h4')
  unfold encB at e
  rw [e] at a1 a2 a3
  exact ⟨by omega, WideShapes.bytes_inj (a2.symm.trans b2), WideShapes.bytes_inj (a3.symm.trans b3)⟩
/-- Encode, as a walk takes it. -/
theorem encode_grow (t : Int) (k v : ByteArray) (w : World) (h : rightB t k v = true) :
    Calls Try.prog 14 #[.agg #[.int .i64 t, .string k, .string v]] w fun e w' => ∃ u, e = .returned u ∧ (Say.rd 40 (encB t k v)).p w' u ∧ Below w.heap.size w w' := by
  obtain ⟨h1, h2, h3, h4⟩ := rightB_iff.1 h
  obtain ⟨n, rfl⟩ : ∃ n : Nat, t = (n : Int) := ⟨t.toNat, by omega⟩
  refine (encode_yes n k v w h).mono ?_
  rintro e w' ⟨u, rfl, hm, hb⟩
  obtain ⟨A, c, rfl⟩ := hm.form
  have hl : (encL n k.data.toList v.data.toList).length = 40 := encB_length h
  rw [hl]
  exact ⟨_, rfl, ⟨A, c, rfl, by have := hm.rd; rwa [hl] at this⟩, hb⟩
theorem right_grow (b : Bool) (t : Int) (k v : ByteArray) (w : World) (h : rightB t k v = b) :
    Calls Try.prog 11 #[.agg #[.int .i64 t, .string k, .string v]] w fun e w' => ∃ u, e = .returned u ∧ (Say.is (.bool b)).p w' u ∧ Below w.heap.size w w' := by
  subst h
  exact (right_any t k v w).mono fun _ _ ⟨e, hb⟩ => ⟨_, e, rfl, hb⟩
theorem lright_grow (b : Bool) (t : Int) (k v : ByteArray) (w : World) (h : rightB t k v = b) :
    Calls Try.prog 12 #[.agg #[.int .i64 t, .string k, .string v]] w fun e w' => ∃ u, e = .returned u ∧ (Say.is (.bool b)).p w' u ∧ Below w.heap.size w w' :=
  (lright_told b t k v w h).mono fun _ _ ⟨e, hb⟩ => ⟨_, e, rfl, hb⟩

structure One (w0 w : World) (x1 x2 x3 : Value) : Prop where
  a : Blk w w0.heap.size 23 #[x1, x2, x3]
  le : Below w0.heap.size w0 w
section
variable {w0 w w' : World} {x1 x2 x3 : Value}
theorem One.of (w : World) (x1 x2 x3 : Value) : One w (w.alloc (.cells #[x1, x2, x3] 23)) x1 x2 x3 := ⟨heap_new w _, (Below.refl _ _).alloc (Nat.le_refl _) _⟩
theorem One.below (h : One w0 w x1 x2 x3) (hb : Below w.heap.size w w') : One w0 w' x1 x2 x3 := ⟨h.a.below hb, h.le.trans (hb.mono h.le.size)⟩
theorem One.alloc (h : One w0 w x1 x2 x3) (o : Obj) : One w0 (w.alloc o) x1 x2 x3 := ⟨h.a.alloc o, h.le.alloc h.le.size o⟩
theorem One.drew (h : One w0 w x1 x2 x3) : One w0 w.drew x1 x2 x3 := ⟨h.a.drew, h.le.drew⟩
theorem One.turns {X : Nat → Prop} (h : One w0 w x1 x2 x3) (hb : Turns X w w') (hx : ∀ k, X k → w0.heap.size < k) : One w0 w' x1 x2 x3 :=
  ⟨hb.blk h.a (fun e => by have := hx _ e; omega), h.le.trans (hb.below h.le.size (fun k hk => by have := hx k hk; omega))⟩
theorem One.cells (h : One w0 w x1 x2 x3) : w.cell? ⟨w0.heap.size, 0, none⟩ = some x1 ∧ w.cell? ⟨w0.heap.size, 1, none⟩ = some x2 ∧ w.cell? ⟨w0.heap.size, 2, none⟩ = some x3 := ⟨h.a.cell 0 _ rfl, h.a.cell 1 _ rfl, h.a.cell 2 _ rfl⟩
end
theorem fit_one (w : World) (x1 x2 x3 : Value) : Calls Try.prog 9 #[] (w.alloc (.cells #[x1, x2, x3] 23)) fun e w' => e = .returned (.bool true) ∧ One w w' x1 x2 x3 :=
  (fit_any _).mono fun _ _ ⟨e, hb⟩ => ⟨e, (One.of w x1 x2 x3).below hb⟩

theorem over_at (a b m : List UInt8) (n : Nat) (h : a.length = n) : over (a ++ b) n m = a ++ (m ++ b.drop m.length) := by
  subst h
  unfold over
  rw [List.take_left, List.drop_append, List.drop_eq_nil_of_le (by omega), List.nil_append]
  congr 3; omega
/-- The bytes that are laid one by one. -/
def laid4 (a b c d : UInt8) : List UInt8 := (((z40.set 0 a).set 1 b).set 2 c).set 18 d
theorem laid4_eq (a b c d : UInt8) : laid4 a b c d = [a, b, c] ++ (List.replicate 15 0 ++ (d :: List.replicate 21 0)) := rfl
theorem laid_row (n : Nat) (k v : List UInt8) (hk : k.length ≤ 15) (hv : v.length ≤ 21) : over (over (laid4 1 (UInt8.ofNat n) (UInt8.ofNat k.length) (UInt8.ofNat v.length)) 3 k) 19 v = encL n k v := by
  have h1 : over (laid4 1 (UInt8.ofNat n) (UInt8.ofNat k.length) (UInt8.ofNat v.length)) 3 k = ([1, UInt8.ofNat n] ++ fieldL k 15 ++ [UInt8.ofNat v.length]) ++ List.replicate 21 0 := by
    rw [laid4_eq, over_at _ _ _ 3 rfl, List.drop_append_of_le_length (by simpa using hk), List.drop_replicate]
    simp [fieldL]
  rw [h1, over_at _ _ _ 19 (by simp [fieldL_length _ _ hk]), List.drop_replicate]
  simp [encL, fieldL]
theorem filled4 (a b c d : UInt8) : filled [(16, 0, .int .u8 (a.toNat : Int)), (18, 1, .int .u8 (b.toNat : Int)), (20, 2, .int .u8 (c.toNat : Int)), (22, 18, .int .u8 (d.toNat : Int))] (fun _ => true) (blk8 z40) = blk8 (laid4 a b c d) := by
  unfold filled laid4
  simp only [List.foldl_cons, List.foldl_nil, if_true, blk8_set]
theorem enc_ne_zeros (n : Nat) (k v : List UInt8) : encL n k v ≠ z40 := by
  intro e
  have : (encL n k v).head? = z40.head? := by rw [e]
  simp [encL, z40] at this
/-- Decode, of a row's bytes. -/
theorem decode_enc (u : Value) (t : Int) (k v : ByteArray) (w : World) (h : rightB t k v = true) (hu : Rd w u (u8s (encB t k v))) :
    Calls Try.prog 13 #[u] w fun e w' => e = .returned (.tuple #[.agg #[.int .i64 t, .string k, .string v], .int .i64 0]) ∧ Below w.heap.size w w' := by
  obtain ⟨h1, h2, h3, h4⟩ := rightB_iff.1 h
  refine (decode_row u (encB t k v) w hu (encB_length h) (enc_ne_zeros _ _ _)).mono ?_
  rintro e w' ⟨t', k', v', c, rfl, hd, hb⟩
  rcases hd with ⟨_, _, _, _, _, hn⟩ | ⟨_, _, _, _, hz⟩ | ⟨rfl, hr, he⟩
  · exact absurd rfl (hn t.toNat k.data.toList v.data.toList (by omega) (by rw [size_data]; exact h3) (by rw [size_data]; exact h4))
  · exact absurd hz (enc_ne_zeros _ _ _)
  · obtain ⟨rfl, rfl, rfl⟩ := encB_inj hr h he
    exact ⟨rfl, hb⟩
end Go.Proofs.Ytkjngpiblbkccaa
