/-
  Who may lock what, as functions; locks among other things of a call's own.
-/
import Derived.Test.YtdoeinofcklnhaaDrop
import Derived.Test.YtdoeinofcklnhaaOwG
namespace Go.Proofs.Ytdoeinofcklnhaa
open Go.RowKit
set_option maxRecDepth 20000
set_option linter.unusedSimpArgs false
set_option linter.unusedVariables false

abbrev tabT (t : Int) : Th := ⟨t, true, ⟨#[]⟩⟩
abbrev keyT (t : Int) (k : ByteArray) : Th := ⟨t, false, k⟩
theorem tab_key {t t' : Int} {k : ByteArray} : tabT t ≠ keyT t' k := fun h => by injection h with _ h; cases h
theorem key_tab {t t' : Int} {k : ByteArray} : keyT t' k ≠ tabT t := fun h => tab_key h.symm
section
variable {S : Th → Option Ho} {who : Int} {x y : Th} {m : Int} {ho : Ho} {c : Nat}
theorem canB_none (h : S x = none) : canB S who x m = true := by unfold canB; rw [h]
theorem canB_own (h : S x = some ho) (h1 : ∀ i, ho.o i = true → i = who) : canB S who x m = true := by
  unfold canB
  rw [h]
  exact letsB_iff.2 (.inl h1)
theorem canB_same (h : S x = some ho) (h1 : m = ho.m) (h2 : m ≠ 3) : canB S who x m = true := by
  unfold canB
  rw [h]
  exact letsB_iff.2 (.inr ⟨h1, h2⟩)
theorem canB_bar (h : S x = some ho) {j : Int} (h1 : ho.o j = true) (h2 : j ≠ who) (h3 : m ≠ ho.m ∨ m = 3) : canB S who x m = false := by
  unfold canB
  rw [h]
  cases e : letsB ho who m
  · exact e
  · rcases letsB_iff.1 e with h4 | ⟨h4, h5⟩
    · exact absurd (h4 j h1) h2
    · rcases h3 with h3 | h3
      · exact absurd h4 h3
      · exact absurd h3 h5
theorem canB_iff : canB S who x m = true ↔ ∀ ho, S x = some ho → (∀ i, ho.o i = true → i = who) ∨ (m = ho.m ∧ m ≠ 3) := by
  unfold canB
  cases h : S x with
  | none => simp
  | some ho => simp only [letsB_iff, Option.some.injEq, forall_eq']
theorem canAll_one : canAll S who [(x, m)] = canB S who x m := by simp [canAll]
theorem canAll_two {q : Int} : canAll S who [(x, m), (y, q)] = (canB S who x m && canB S who y q) := by simp [canAll]
theorem takeS_at : takeS S who x m x = some ⟨if ((S x).getD ⟨m, fun _ => false⟩).m = m then m else 3, fun i => decide (i = who) || ((S x).getD ⟨m, fun _ => false⟩).o i⟩ := if_pos rfl
theorem takeS_ne (h : y ≠ x) : takeS S who x m y = S y := if_neg h
theorem takeS_isSome : (takeS S who x m y).isSome = (decide (y = x) || (S y).isSome) := by
  by_cases e : y = x
  · subst e; rw [takeS_at]; simp
  · rw [takeS_ne e]; simp [e]
theorem Cnt.take (h : Cnt S c) : Cnt (takeS S who x m) (if (S x).isSome then c else c + 1) := (h.put x (⟨0, fun _ => false⟩ : Ho)).of_same (fun y => by
  rw [takeS_isSome]
  by_cases e : y = x <;> simp [e])
/-- Who has locked a thing may lock it again. -/
theorem again_own (h : canB S who x m = true) : canB (takeS S who x m) who x m = true := by
  rw [canB_iff] at h ⊢
  intro ho2 h2
  rw [takeS_at] at h2
  obtain rfl := Option.some.inj h2
  dsimp only
  cases hx : S x with
  | none =>
    refine .inl (fun i hi => ?_)
    simpa using hi
  | some ho =>
    rcases h ho hx with h1 | ⟨h1, h3⟩
    · refine .inl (fun i hi => ?_)
      simp only [Option.getD_some, Bool.or_eq_true, decide_eq_true_eq] at hi
      rcases hi with hi | hi
      · exact hi
      · exact h1 i hi
    · refine .inr ⟨?_, h3⟩
      simp only [Option.getD_some]
      rw [if_pos h1.symm]
/-- Who has it to change may have it in any mode. -/
theorem after_write (h : canB S who x 3 = true) {q : Int} : canB (takeS S who x 3) who x q = true := by
  rw [canB_iff] at h ⊢
  intro ho2 h2
  rw [takeS_at] at h2
  obtain rfl := Option.some.inj h2
  refine .inl (fun i hi => ?_)
  cases hx : S x with
  | none =>
    rw [hx] at hi
    simpa using hi
  | some ho =>
    rw [hx] at hi
    simp only [Option.getD_some, Bool.or_eq_true, decide_eq_true_eq] at hi
    rcases h ho hx with h1 | ⟨_, h3⟩
    · rcases hi with hi | hi
      · exact hi
      · exact h1 i hi
    · exact absurd rfl h3
end
/-- Locks, as a thing of a call's own. -/
def Res.lock (g n : Nat) (S : Th → Option Ho) : Res where
  At := fun W O => Lk W g n S O
  keep := fun h hk hd => h.keep hk hd
  mono := fun h hs => h.mono hs
section
variable {A0 W W' : World} {F0 : Nat → Prop} {L : List Res} {i g n n' : Nat} {S S' : Th → Option Ho}
theorem ow_locked {O : Nat → Prop} {who : Int} {ws : List (Th × Int)} {e : Ending} {b : Bool} (hp : LockP W g n S O who ws e W') (h6 : ∀ (W' : World) (r' : Res), Kept O W W' → r'.At W' (fun k => O k ∨ W.heap.size ≤ k) → Ow A0 F0 W' (L.set i r'))
    (hb : canAll S who ws = b) (hS : (if b then takeAll S who ws else S) = S') (hn' : n + ws.length ≤ n') : e = .returned (.bool b) ∧ Ow A0 F0 W' (L.set i (Res.lock g n' S')) := by
  obtain ⟨h1, h2, h3⟩ := hp
  rw [hb, hS] at h3
  exact ⟨by rw [h1, hb], h6 _ (Res.lock g n' S') h2 (h3.more hn')⟩
theorem ow_key_read (h : Ow A0 F0 W L) (hi : L[i]? = some (Res.lock g n S)) (who t : Int) (k : ByteArray) {b : Bool} (hb : canAll S who (keyR t k) = b) (hS : (if b then takeAll S who (keyR t k) else S) = S') (hn : n ≤ 900000) (hn' : n + 1 ≤ n') (hw : (Lit.int .i64 who).wf = true) (hx : (keyT t k).Ok) :
    Calls Try.prog 10 #[.pointer (some ⟨g, 0, none⟩), .int .i64 who, .int .i64 t, .string k, .bool false] W fun e W' => e = .returned (.bool b) ∧ Ow A0 F0 W' (L.set i (Res.lock g n' S')) := by
  obtain ⟨O, hl, h6⟩ := h.split hi
  exact (key_read (show Lk W g n S O from hl) who t k hw hx hn).mono (fun e W' hp => ow_locked hp h6 hb hS hn')
theorem ow_key_change (h : Ow A0 F0 W L) (hi : L[i]? = some (Res.lock g n S)) (who t : Int) (k : ByteArray) {b : Bool} (hb : canAll S who (keyW t k) = b) (hS : (if b then takeAll S who (keyW t k) else S) = S') (hn : n ≤ 900000) (hn' : n + 2 ≤ n') (hw : (Lit.int .i64 who).wf = true) (hx : (keyT t k).Ok) :
    Calls Try.prog 10 #[.pointer (some ⟨g, 0, none⟩), .int .i64 who, .int .i64 t, .string k, .bool true] W fun e W' => e = .returned (.bool b) ∧ Ow A0 F0 W' (L.set i (Res.lock g n' S')) := by
  obtain ⟨O, hl, h6⟩ := h.split hi
  exact (key_change (show Lk W g n S O from hl) who t k hw hx hn).mono (fun e W' hp => ow_locked hp h6 hb hS hn')
theorem ow_table (h : Ow A0 F0 W L) (hi : L[i]? = some (Res.lock g n S)) (who t : Int) {b : Bool} (hb : canAll S who (tabR t) = b) (hS : (if b then takeAll S who (tabR t) else S) = S') (hn : n ≤ 900000) (hn' : n + 1 ≤ n') (hw : (Lit.int .i64 who).wf = true) (ht : (Lit.int .i64 t).wf = true) :
    Calls Try.prog 11 #[.pointer (some ⟨g, 0, none⟩), .int .i64 who, .int .i64 t] W fun e W' => e = .returned (.bool b) ∧ Ow A0 F0 W' (L.set i (Res.lock g n' S')) := by
  obtain ⟨O, hl, h6⟩ := h.split hi
  exact (table_any (show Lk W g n S O from hl) who t hw ht hn).mono (fun e W' hp => ow_locked hp h6 hb hS hn')
theorem ow_drop (h : Ow A0 F0 W L) (hi : L[i]? = some (Res.lock g n S)) (who : Int) (hS : dropS S who = S') (hw : (Lit.int .i64 who).wf = true) :
    Calls Try.prog 12 #[.pointer (some ⟨g, 0, none⟩), .int .i64 who] W fun e W' => e = .returned (.tuple #[]) ∧ Ow A0 F0 W' (L.set i (Res.lock g n S')) := by
  obtain ⟨O, hl, h6⟩ := h.split hi
  refine (drop_any (show Lk W g n S O from hl) who hw).mono ?_
  rintro e W' ⟨rfl, hk, hl2⟩
  rw [hS] at hl2
  exact ⟨rfl, h6 _ (Res.lock g n S') hk (hl2.mono (fun k hk _ => .inl hk))⟩
theorem ow_lklen (h : Ow A0 F0 W L) (hi : L[i]? = some (Res.lock g n S)) {c : Nat} (hc : Cnt S c) : Calls Try.prog 13 #[.pointer (some ⟨g, 0, none⟩)] W fun e W' => e = .returned (.int .i64 (c : Int)) ∧ W = W' := by
  obtain ⟨O, hl⟩ := h.get hi
  exact len_lk (show Lk W g n S O from hl) hc
theorem ow_newlk (h : Ow A0 F0 W L) : Calls Try.prog 9 #[] W fun e W' => ∃ g, e = .returned (.pointer (some ⟨g, 0, none⟩)) ∧ Ow A0 F0 W' (L ++ [Res.lock g 0 (fun _ => none)]) := by
  refine (new_lk W).mono ?_
  rintro e W' ⟨g, rfl, hb, hl⟩
  exact ⟨g, rfl, h.push hb hl⟩
end
theorem read_again_nil (who t : Int) (k : ByteArray) (w : World) : Calls Try.prog 10 #[.pointer none, .int .i64 who, .int .i64 t, .string k, .bool false] w fun e w' => e = .returned (.bool false) ∧ Below w.heap.size w w' := by
  have hb1 := hide ((Below.refl _ w).alloc (Nat.le_refl _) (.cells #[.int .i64 t, .bool false, .string k] 43))
  go_enter Try.func10, Try.ntmps10
  go_wp2_with (go_at_call 14; (with_reducible refine (lock_nil _ _ _).mono ?_); rintro e w2 ⟨rfl, rfl⟩)
  go_ret
  exact ⟨rfl, hb1.out.alloc (by simp) _⟩
theorem table_nil (who t : Int) (w : World) : Calls Try.prog 11 #[.pointer none, .int .i64 who, .int .i64 t] w fun e w' => e = .returned (.bool false) ∧ Below w.heap.size w w' := by
  go_enter Try.func11, Try.ntmps11
  go_wp2_with (first
    | (go_at_call 15; (with_reducible refine (whole_any t _).mono ?_); rintro e w1 ⟨rfl, hb⟩; have HB := hide hb; clear hb)
    | (go_at_call 14; (with_reducible refine (lock_nil _ _ _).mono ?_); rintro e w2 ⟨rfl, rfl⟩))
  go_ret
  exact ⟨rfl, HB.out.alloc HB.out.size _⟩
end Go.Proofs.Ytdoeinofcklnhaa
