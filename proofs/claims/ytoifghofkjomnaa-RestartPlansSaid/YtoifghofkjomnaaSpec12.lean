/-
  What a plan of entries is, as data; what is asked of Analyse and of Again, in the form in which the statements' walks use it.
-/
import Derived.Test.YtoifghofkjomnaaRowsN
import Derived.Test.YtoifghofkjomnaaEntr12
namespace Go.Proofs.Ytoifghofkjomnaa
open Go.RowKit
set_option maxRecDepth 20000
set_option linter.unusedSimpArgs false
set_option linter.unusedVariables false

/-- The change that a record tells. -/
def chOf (r : Rc) : Ch := ⟨(r.p : Int), (r.s : Int), r.b⟩
/-- What a record turns of transaction t. -/
def loS (t : Nat) (l : List Ch) (r : Rc) : List Ch :=
  if r.t = t then (if r.k = 2 ∨ r.k = 3 then l ++ [chOf r] else if r.k = 4 then l.dropLast else if r.k = 5 ∨ r.k = 6 then [] else l) else l
def opS (t : Nat) (b : Bool) (r : Rc) : Bool :=
  if r.t = t then (if r.k = 2 ∨ r.k = 3 then true else if r.k = 5 ∨ r.k = 6 then false else b) else b
/-- From where on a mark says. -/
def markN (ds : List Nat) (pl : Nat) : Nat := ds.foldl (fun m d => if 0 < d ∧ d < m then d else m) pl
def frS (f : Nat) (e : Ei) : Nat := if e.r.k = 7 then markN e.r.ds e.pl else f
def loP (es : List Ei) (t : Nat) : List Ch := if 1 ≤ t ∧ t ≤ 3 then es.foldl (fun l e => loS t l e.r) [] else []
def opP (es : List Ei) (t : Nat) : Bool := if 1 ≤ t ∧ t ≤ 3 then es.foldl (fun b e => opS t b e.r) false else false
def frP (es : List Ei) : Nat := es.foldl frS 0
theorem loP_nil (t : Nat) : loP [] t = [] := by unfold loP; split <;> rfl
theorem opP_nil (t : Nat) : opP [] t = false := by unfold opP; split <;> rfl
theorem loP_snoc (es : List Ei) (e : Ei) {t : Nat} (h : 1 ≤ t ∧ t ≤ 3) : loP (es ++ [e]) t = loS t (loP es t) e.r := by
  unfold loP
  rw [if_pos h, if_pos h, List.foldl_append, List.foldl_cons, List.foldl_nil]
theorem opP_snoc (es : List Ei) (e : Ei) {t : Nat} (h : 1 ≤ t ∧ t ≤ 3) : opP (es ++ [e]) t = opS t (opP es t) e.r := by
  unfold opP
  rw [if_pos h, if_pos h, List.foldl_append, List.foldl_cons, List.foldl_nil]
theorem frP_snoc (es : List Ei) (e : Ei) : frP (es ++ [e]) = frS (frP es) e := by
  unfold frP
  rw [List.foldl_append, List.foldl_cons, List.foldl_nil]
theorem loP_out (es : List Ei) {t : Nat} (h : ¬ (1 ≤ t ∧ t ≤ 3)) : loP es t = [] := if_neg h
theorem opP_out (es : List Ei) {t : Nat} (h : ¬ (1 ≤ t ∧ t ≤ 3)) : opP es t = false := if_neg h
theorem loS_length (t : Nat) (l : List Ch) (r : Rc) : (loS t l r).length ≤ l.length + 1 := by
  unfold loS
  split
  · split
    · simp
    · split
      · rw [List.length_dropLast]; omega
      · split
        · simp
        · omega
  · omega
theorem fold_len (t : Nat) : ∀ (es : List Ei) (l : List Ch), (es.foldl (fun l e => loS t l e.r) l).length ≤ l.length + es.length
  | [], l => Nat.le_refl _
  | e :: es, l => by
    have h1 := fold_len t es (loS t l e.r)
    have h2 := loS_length t l e.r
    rw [List.foldl_cons, List.length_cons]
    omega
theorem loP_length (es : List Ei) (t : Nat) : (loP es t).length ≤ es.length := by
  unfold loP
  split
  · have := fold_len t es []
    simpa using this
  · exact Nat.zero_le _
/-- A plan as cells. -/
def planC (fr : Nat) (vs : Nat → Value) (os : Nat → Bool) : Array Value := #[.int .u64 (fr : Int), vs 0, vs 1, vs 2, vs 3, .bool (os 0), .bool (os 1), .bool (os 2), .bool (os 3)]
theorem planC_lo (fr : Nat) (vs : Nat → Value) (os : Nat → Bool) {t : Nat} (h : t < 4) : (planC fr vs os)[1 + t]? = some (vs t) := by
  match t, h with
  | 0, _ => rfl
  | 1, _ => rfl
  | 2, _ => rfl
  | 3, _ => rfl
theorem planC_op (fr : Nat) (vs : Nat → Value) (os : Nat → Bool) {t : Nat} (h : t < 4) : (planC fr vs os)[5 + t]? = some (.bool (os t)) := by
  match t, h with
  | 0, _ => rfl
  | 1, _ => rfl
  | 2, _ => rfl
  | 3, _ => rfl
/-- What is asked of Analyse. -/
def AnSaid : Prop := ∀ (W : World) (v : Value) (es : List Ei), eiK.Row W v es → (∀ x ∈ es, DOk W x) → es.length ≤ 1000 →
  Calls Try.prog 12 #[v] W fun e W' => ∃ vs : Nat → Value, e = .returned (.agg (planC (frP es) vs (opP es))) ∧ Below W.heap.size W W' ∧ ∀ t, t < 4 → KIn chK W' (fun k => W.heap.size ≤ k) (vs t) (loP es t)
/-- What Again answers. -/
def againB (fr : Nat) (r : Rc) (pl mark : Nat) (torn : Bool) : Bool := (decide (r.k = 3) || decide (r.k = 4)) && decide (fr ≤ pl) && (if torn then decide (0 < r.i.size) else decide (mark < pl))
/-- What is asked of Again. -/
def AgSaid : Prop := ∀ (W : World) (fr : Nat) (A : Nat → Option Addr) (n c : Nat → Nat) (os : Nat → Bool) (x : Ei) (mark : Nat) (torn : Bool), Calls Try.prog 13 #[.agg (planC fr (fun t => .slice (A t) (n t) (c t)) os), .agg x.vc, .int .u64 (mark : Int), .bool torn] W fun e W' => e = .returned (.bool (againB fr x.r x.pl mark torn)) ∧ Below W.heap.size W W'
/-- A slice that was built. -/
theorem Kd.Row.built {α : Type} (K : Kd α) (w : World) (es : List α) {n : Nat} {cs : Array Value} (hn : n = es.length) (hp : 0 < n) (hcs : cs.toList = K.flat es) (hmax : n ≤ maxLen) : K.Row (w.alloc (.cells cs K.T)) (.slice (some ⟨w.heap.size, 0, none⟩) n n) es := by
  have hsz : cs.size = es.length * K.m := by rw [← Array.length_toList, hcs, kf_length]
  refine ⟨kf_length K es, .inr ⟨w.heap.size, n, cs, by rw [hn], Nat.zero_le _, ?_, by omega, hmax, by rw [hsz, hn], ?_⟩⟩
  · exact heap_new w _
  · rw [hcs, ← kf_length K es, List.take_length]
/-- As slices. -/
theorem an_any (HAN : AnSaid) {W : World} {v : Value} {es : List Ei} (hr : eiK.Row W v es) (hd : ∀ x ∈ es, DOk W x) (hl : es.length ≤ 1000) :
    Calls Try.prog 12 #[v] W fun e W' => ∃ (A : Nat → Option Addr) (c : Nat → Nat), e = .returned (.agg (planC (frP es) (fun t => .slice (A t) (loP es t).length (c t)) (opP es))) ∧ Below W.heap.size W W' ∧
      ∀ t, t < 4 → KIn chK W' (fun k => W.heap.size ≤ k) (.slice (A t) (loP es t).length (c t)) (loP es t) := by
  refine (HAN W v es hr hd hl).mono ?_
  rintro e W' ⟨vs, rfl, hb, hk⟩
  obtain ⟨A0, c0, e0, _⟩ := hk 0 (by decide)
  obtain ⟨A1, c1, e1, _⟩ := hk 1 (by decide)
  obtain ⟨A2, c2, e2, _⟩ := hk 2 (by decide)
  obtain ⟨A3, c3, e3, _⟩ := hk 3 (by decide)
  have hv : ∀ t, t < 4 → vs t = .slice ((fun t => match t with | 0 => A0 | 1 => A1 | 2 => A2 | _ => A3) t) (loP es t).length ((fun t => match t with | 0 => c0 | 1 => c1 | 2 => c2 | _ => c3) t) := fun t ht => by
    match t, ht with
    | 0, _ => exact e0
    | 1, _ => exact e1
    | 2, _ => exact e2
    | 3, _ => exact e3
  refine ⟨_, _, ?_, hb, fun t ht => by rw [← hv t ht]; exact hk t ht⟩
  unfold planC
  rw [hv 0 (by decide), hv 1 (by decide), hv 2 (by decide), hv 3 (by decide)]
section
variable {A0 W : World} {F0 : Nat → Prop} {L : List Res} {i : Nat} {v : Value} {es : List Ei}
theorem ow_an (HAN : AnSaid) (h : Ow A0 F0 W L) (hi : L[i]? = some (Res.row eiK v es)) (hd : ∀ x ∈ es, DOk W x) (hl : es.length ≤ 1000) :
    Calls Try.prog 12 #[v] W fun e W' => ∃ (A : Nat → Option Addr) (c : Nat → Nat), e = .returned (.agg (planC (frP es) (fun t => .slice (A t) (loP es t).length (c t)) (opP es))) ∧ Ow A0 F0 W' (L ++ [Res.kins chK 4 (fun t => .slice (A t) (loP es t).length (c t)) (loP es)]) ∧ Below W.heap.size W W' := by
  refine (an_any HAN (h.krow hi) hd hl).mono ?_
  rintro e W' ⟨A, c, rfl, hb, hk⟩
  exact ⟨A, c, rfl, h.push hb hk, hb⟩
/-- A loser's length, and its changes, where they lie. -/
theorem Ow.loser {n : Nat} {vs : Nat → Value} {ls : Nat → List Ch} {t : Nat} (h : Ow A0 F0 W L) (hi : L[i]? = some (Res.kins chK n vs ls)) (ht : t < n) : ∃ A c, vs t = .slice A (ls t).length c ∧ (0 < (ls t).length → ∃ b o, A = some ⟨b, o, none⟩ ∧
    ∀ j x, (ls t)[j]? = some x → W.cell? ⟨b, o + j * 3, none⟩ = some (.int .i64 x.page) ∧ W.cell? ⟨b, o + j * 3 + 1, none⟩ = some (.int .i64 x.slot) ∧ W.cell? ⟨b, o + j * 3 + 2, none⟩ = some (.string x.before)) := by
  obtain ⟨S, A, c, e, h1⟩ := h.kinsAt hi ht
  refine ⟨A, c, e, fun hn => ?_⟩
  obtain ⟨b, o, e1, _, _, h2⟩ := h1 hn
  exact ⟨b, o, e1, fun j x hj => ⟨h2 j x hj 0 _ rfl, h2 j x hj 1 _ rfl, h2 j x hj 2 _ rfl⟩⟩
end
end Go.Proofs.Ytoifghofkjomnaa
