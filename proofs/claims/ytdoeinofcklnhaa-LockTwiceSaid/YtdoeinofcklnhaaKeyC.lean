/-
  Key, to read or to change; who asks again.
-/
import Derived.Test.YtdoeinofcklnhaaFit10
namespace Go.Proofs.Ytdoeinofcklnhaa
open Go.RowKit
set_option maxRecDepth 20000
set_option linter.unusedSimpArgs false
set_option linter.unusedVariables false

def keyC (ch : Bool) (t : Int) (k : ByteArray) : List (Th × Int) := if ch then keyW t k else keyR t k
theorem ow_key {A0 W : World} {F0 : Nat → Prop} {L : List Res} {i g n n' : Nat} {S S' : Th → Option Ho} (h : Ow A0 F0 W L) (hi : L[i]? = some (Res.lock g n S)) (who t : Int) (k : ByteArray) (ch : Bool) {b : Bool} (hb : canAll S who (keyC ch t k) = b) (hS : (if b then takeAll S who (keyC ch t k) else S) = S') (hn : n ≤ 900000) (hn' : n + 2 ≤ n') (hw : (Lit.int .i64 who).wf = true) (hx : (keyT t k).Ok) :
    Calls Try.prog 10 #[.pointer (some ⟨g, 0, none⟩), .int .i64 who, .int .i64 t, .string k, .bool ch] W fun e W' => e = .returned (.bool b) ∧ Ow A0 F0 W' (L.set i (Res.lock g n' S')) := by
  cases ch
  · exact ow_key_read h hi who t k hb hS hn (by omega) hw hx
  · exact ow_key_change h hi who t k hb hS hn hn' hw hx
theorem Ow.cnt {A0 W : World} {F0 : Nat → Prop} {L : List Res} {i g n : Nat} {S : Th → Option Ho} (h : Ow A0 F0 W L) (hi : L[i]? = some (Res.lock g n S)) : ∃ c, Cnt S c := by
  obtain ⟨O, hl⟩ := h.get hi
  obtain ⟨mb, f, h1, _⟩ := show Lk W g n S O from hl
  obtain ⟨c, hm⟩ := h1.map
  exact ⟨c, h1.cnt hm⟩
section
variable {S S' : Th → Option Ho} {who t m : Int} {k : ByteArray} {ch : Bool} {x y : Th}
theorem canB_congr (h : S x = S' x) : canB S who x m = canB S' who x m := by unfold canB; rw [h]
theorem canAll_W : canAll S who (keyW t k) = true ↔ canB S who (tabT t) 2 = true ∧ canB S who (keyT t k) 3 = true := by
  unfold keyW
  rw [canAll_two, Bool.and_eq_true]
theorem canAll_R : canAll S who (keyR t k) = canB S who (keyT t k) 1 := canAll_one
theorem take_W : takeAll S who (keyW t k) = takeS (takeS S who (tabT t) 2) who (keyT t k) 3 := rfl
theorem take_R : takeAll S who (keyR t k) = takeS S who (keyT t k) 1 := rfl
theorem again_all (h : canAll S who (keyC ch t k) = true) : canAll (takeAll S who (keyC ch t k)) who (keyC ch t k) = true := by
  unfold keyC at *
  cases ch
  · simp only [Bool.false_eq_true, if_false] at *
    rw [canAll_R] at *
    exact again_own h
  · simp only [if_true] at *
    rw [canAll_W] at *
    obtain ⟨h1, h2⟩ := h
    rw [take_W]
    refine ⟨?_, again_own ?_⟩
    · rw [canB_congr (S' := takeS S who (tabT t) 2) (takeS_ne tab_key)]
      exact again_own h1
    · rw [canB_congr (S' := S) (takeS_ne key_tab)]
      exact h2
theorem again_read (h : canAll S who (keyC ch t k) = true) : canAll (takeAll S who (keyC ch t k)) who (keyR t k) = true := by
  unfold keyC at *
  rw [canAll_R]
  cases ch
  · simp only [Bool.false_eq_true, if_false] at *
    rw [canAll_R] at h
    exact again_own h
  · simp only [if_true] at *
    rw [canAll_W] at h
    rw [take_W]
    refine after_write ?_
    rw [canB_congr (S' := S) (takeS_ne key_tab)]
    exact h.2
theorem some_C : (takeAll S who (keyC ch t k) y).isSome = (decide (y = keyT t k) || (ch && decide (y = tabT t)) || (S y).isSome) := by
  unfold keyC
  cases ch
  · simp only [Bool.false_eq_true, if_false, take_R, takeS_isSome, Bool.false_and, Bool.or_false]
  · simp only [if_true, take_W, takeS_isSome, Bool.true_and, Bool.or_assoc]
theorem some_R : (takeAll S who (keyR t k) y).isSome = (decide (y = keyT t k) || (S y).isSome) := by rw [take_R, takeS_isSome]
/-- Nothing more is held. -/
theorem again_cnt {c : Nat} (h : Cnt (takeAll S who (keyC ch t k)) c) : Cnt (takeAll (takeAll (takeAll S who (keyC ch t k)) who (keyC ch t k)) who (keyR t k)) c := by
  refine h.of_same (fun y => ?_)
  rw [some_R, some_C, some_C]
  cases decide (y = keyT t k) <;> cases ch <;> cases decide (y = tabT t) <;> cases (S y).isSome <;> rfl
end
end Go.Proofs.Ytdoeinofcklnhaa
