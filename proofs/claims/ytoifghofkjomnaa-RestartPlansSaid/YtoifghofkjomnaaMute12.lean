/-
  What a plan is of entries that tell nothing; an entry's cells.
-/
import Derived.Test.YtoifghofkjomnaaFit12
import Derived.BigQuiet
namespace Go.Proofs.Ytoifghofkjomnaa
open Go.RowKit
set_option maxRecDepth 20000
set_option linter.unusedSimpArgs false
set_option linter.unusedVariables false

theorem and3n (n : Nat) : bits .and .i64 (n : Int) 3 = ((n % 4 : Nat) : Int) := by
  have h1 : bits .and .i64 (n : Int) 3 = IntKind.i64.wrap (((BitVec.ofInt 64 (n : Int) &&& BitVec.ofInt 64 3).toNat : Int)) := rfl
  rw [h1, BitVec.toNat_and, BitVec.ofInt_natCast, BitVec.toNat_ofNat, show (BitVec.ofInt 64 3).toNat = 2 ^ 2 - 1 by decide, Nat.and_two_pow_sub_one_eq_mod]
  rw [IntKind.wrap_i64]
  omega
theorem SeedRow.more {w : World} {B B' : Nat} {v : Value} {cs : List SeedD} (h : SeedRow w B v cs) (hb : B ≤ B') : SeedRow w B' v cs := by
  obtain ⟨A, c, e, h1, h2⟩ := h
  exact ⟨A, c, e, fun hn => let ⟨b, o, e1, h3, h4⟩ := h1 hn; ⟨b, o, e1, by omega, h4⟩, fun x hx => (h2 x hx).more hb⟩
/-- What is known of each entry. -/
theorem Es12.ok {l : List SeedD} {es : List Ei} {x : Ei} (h : Es12 l es) (hx : x ∈ es) : (1 ≤ x.r.k ∧ x.r.k ≤ 7) ∧ x.r.t < 8 ∧ (x.r.k ≠ 7 → x.r.ds = []) := by
  have h1 : x.r ∈ l.map rec12 := by rw [← h.recs]; exact List.mem_map.2 ⟨x, hx, rfl⟩
  obtain ⟨s, _, e⟩ := List.mem_map.1 h1
  rw [← e]
  have hk := sK_ok s.k
  refine ⟨⟨hk.1, hk.2.1⟩, Nat.mod_lt _ (by decide), fun hn => ?_⟩
  show (if sK s.k = 7 ∧ 0 < s.ds.length then _ else []) = []
  exact if_neg (fun e => hn e.1)
section
variable {A0 W : World} {F0 : Nat → Prop} {L : List Res} {i j n c : Nat} {A : Option Addr} {es : List Ei} {x : Ei}
/-- An entry's cells. -/
theorem Ow.entry (h : Ow A0 F0 W L) (hi : L[i]? = some (Res.row eiK (.slice A n c) es)) (hj : es[j]? = some x) : ∃ b, A = some ⟨b, 0, none⟩ ∧
    (W.cell? ⟨b, j * 9, none⟩ = some (.int .i64 (x.r.k : Int)) ∧ W.cell? ⟨b, j * 9 + 1, none⟩ = some (.int .i64 (x.r.t : Int)) ∧ W.cell? ⟨b, j * 9 + 2, none⟩ = some (.int .i64 (x.r.p : Int)) ∧ W.cell? ⟨b, j * 9 + 3, none⟩ = some (.int .i64 (x.r.s : Int)) ∧
    W.cell? ⟨b, j * 9 + 4, none⟩ = some (.string x.r.b) ∧ W.cell? ⟨b, j * 9 + 5, none⟩ = some (.string x.r.a) ∧ W.cell? ⟨b, j * 9 + 6, none⟩ = some (.string x.r.i) ∧ W.cell? ⟨b, j * 9 + 7, none⟩ = some (.slice x.A x.r.ds.length x.c) ∧ W.cell? ⟨b, j * 9 + 8, none⟩ = some (.int .u64 (x.pl : Int))) := by
  have hr := h.krow hi
  have hjl := (List.getElem?_eq_some_iff.1 hj).1
  obtain ⟨b, c2, e, _⟩ := hr.block (by omega)
  injection e with e1 e2 e3
  subst e1
  have g := fun (k : Nat) (u : Value) hu => hr.cells hj k u hu
  exact ⟨b, rfl, g 0 _ rfl, g 1 _ rfl, g 2 _ rfl, g 3 _ rfl, g 4 _ rfl, g 5 _ rfl, g 6 _ rfl, g 7 _ rfl, g 8 _ rfl⟩
end
/-- Nothing is told by these. -/
structure Mute (es : List Ei) : Prop where
  no : ∀ x ∈ es, x.r.k ≠ 7 ∧ (x.r.k = 1 ∨ 4 ≤ x.r.t)
theorem Mute.lo {es : List Ei} (h : Mute es) (t : Nat) : loP es t = [] := by
  unfold loP
  split
  · next ht =>
    have : ∀ es : List Ei, (∀ x ∈ es, x.r.k ≠ 7 ∧ (x.r.k = 1 ∨ 4 ≤ x.r.t)) → es.foldl (fun l e => loS t l e.r) [] = [] := by
      intro es
      induction es with
      | nil => intro _; rfl
      | cons e es ih =>
        intro hs
        rw [List.foldl_cons]
        have h1 := hs e (List.mem_cons_self ..)
        have e1 : loS t [] e.r = [] := by
          unfold loS
          split
          · rw [if_neg (by omega), if_neg (by omega), if_neg (by omega)]
          · rfl
        rw [e1]
        exact ih (fun x hx => hs x (List.mem_cons_of_mem _ hx))
    exact this es h.no
  · rfl
theorem Mute.op {es : List Ei} (h : Mute es) (t : Nat) : opP es t = false := by
  unfold opP
  split
  · next ht =>
    have : ∀ es : List Ei, (∀ x ∈ es, x.r.k ≠ 7 ∧ (x.r.k = 1 ∨ 4 ≤ x.r.t)) → es.foldl (fun b e => opS t b e.r) false = false := by
      intro es
      induction es with
      | nil => intro _; rfl
      | cons e es ih =>
        intro hs
        rw [List.foldl_cons]
        have h1 := hs e (List.mem_cons_self ..)
        have e1 : opS t false e.r = false := by
          unfold opS
          split
          · rw [if_neg (by omega), if_neg (by omega)]
          · rfl
        rw [e1]
        exact ih (fun x hx => hs x (List.mem_cons_of_mem _ hx))
    exact this es h.no
  · rfl
theorem frP_no {es : List Ei} (h : ∀ x ∈ es, x.r.k ≠ 7) : frP es = 0 := by
  unfold frP
  have : ∀ es : List Ei, (∀ x ∈ es, x.r.k ≠ 7) → es.foldl frS 0 = 0 := by
    intro es
    induction es with
    | nil => intro _; rfl
    | cons e es ih =>
      intro hs
      rw [List.foldl_cons, show frS 0 e = 0 from if_neg (hs e (List.mem_cons_self ..))]
      exact ih (fun x hx => hs x (List.mem_cons_of_mem _ hx))
  exact this es h
theorem an_mute (HAN : AnSaid) {W : World} {v : Value} {es : List Ei} (hr : eiK.Row W v es) (hd : ∀ x ∈ es, x.r.ds = []) (hl : es.length ≤ 1000) (hm : Mute es) :
    Calls Try.prog 12 #[v] W fun e W' => ∃ (A : Nat → Option Addr) (c : Nat → Nat), e = .returned (.agg #[.int .u64 0, .slice (A 0) 0 (c 0), .slice (A 1) 0 (c 1), .slice (A 2) 0 (c 2), .slice (A 3) 0 (c 3), .bool false, .bool false, .bool false, .bool false]) ∧ Hid (Below W.heap.size W W') := by
  refine (an_any HAN hr (fun x hx => DOk.none (hd x hx)) hl).mono ?_
  rintro e W' ⟨A, c, rfl, hb, _⟩
  refine ⟨A, c, ?_, hide hb⟩
  unfold planC
  dsimp only
  rw [hm.lo 0, hm.lo 1, hm.lo 2, hm.lo 3, hm.op 0, hm.op 1, hm.op 2, hm.op 3, frP_no (fun x hx => (hm.no x hx).1)]
  rfl
end Go.Proofs.Ytoifghofkjomnaa
