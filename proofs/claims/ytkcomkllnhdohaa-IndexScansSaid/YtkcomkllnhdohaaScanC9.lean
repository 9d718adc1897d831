/-
  IndexScans, the test of a round: a row of the table, between both keys, while there is room.
-/
import Derived.Test.YtkcomkllnhdohaaScanL9
import Derived.Test.YtkcomkllnhdohaaNil
namespace Go.Proofs.Ytkcomkllnhdohaa
open Go.RowKit
set_option maxRecDepth 20000
set_option linter.unusedSimpArgs false
set_option linter.unusedVariables false

/-- The statement at a path. -/
def subC : Code → List Nat → Code
  | c, [] => c
  | .seq a b, i :: p => if i = 0 then subC a p else subC b p
  | .cond _ a b, i :: p => if i = 0 then subC a p else subC b p
  | .block _ c, _ :: p => subC c p
  | .loop c, _ :: p => subC c p
  | .scope c, _ :: p => subC c p
  | _, _ :: _ => .skip
/-- Slots outside S are as they were. -/
def Keeps (S : Nat → Bool) (tm tm' : Array Value) : Prop := tm'.size = tm.size ∧ ∀ t, S t = false → tm'[t]? = tm[t]?
section
variable {S S' : Nat → Bool} {tm tm' tm'' : Array Value}
theorem Keeps.refl (S : Nat → Bool) (tm : Array Value) : Keeps S tm tm := ⟨rfl, fun _ _ => rfl⟩
theorem Keeps.trans (h : Keeps S tm tm') (h' : Keeps S tm' tm'') : Keeps S tm tm'' := ⟨h'.1.trans h.1, fun t ht => (h'.2 t ht).trans (h.2 t ht)⟩
theorem Keeps.set (h : Keeps S tm tm') {d : Nat} (hd : S d = true) (v : Value) : Keeps S tm (tm'.setIfInBounds d v) :=
  ⟨by rw [Array.size_setIfInBounds]; exact h.1, fun t ht => by rw [Array.getElem?_setIfInBounds, if_neg (fun e => by rw [e, ht] at hd; cases hd)]; exact h.2 t ht⟩
theorem Keeps.put {d : Nat} (hd : S d = true) (h : Keeps S tm tm') (v : Value) : Keeps S tm (tm'.setIfInBounds d v) := h.set hd v
theorem Keeps.more (h : Keeps S tm tm') (hs : ∀ t, S' t = false → S t = false) : Keeps S' tm tm' := ⟨h.1, fun t ht => h.2 t (hs t ht)⟩
theorem Keeps.get (h : Keeps S tm tm') {t : Nat} {v : Value} (ht : S t = false) (hv : tm[t]? = some v) : tm'[t]? = some v := (h.2 t ht).trans hv
/-- What a region leaves. -/
theorem Keeps.region {ops : Array Oper} {t1 t2 : Array Value} (hsz : t2.size = t1.size) (keep : ∀ t : Tmp, neverB ops t = true → t2.getD t undef = t1.getD t undef) (hall : (dstsL ops).all S = true) (h : Keeps S tm t1) : Keeps S tm t2 := by
  refine ⟨hsz.trans h.1, fun t ht => ?_⟩
  rw [← h.2 t ht]
  have hn : neverB ops t = true := by
    unfold neverB
    rw [Array.all_eq_true']
    intro o ho
    simp only [bne_iff_ne, ne_eq]
    intro e
    rw [List.all_eq_true] at hall
    have := hall t (by unfold dstsL; rw [List.mem_filterMap]; exact ⟨o, Array.mem_toList_iff.2 ho, e⟩)
    rw [this] at ht
    cases ht
  have hk := keep t hn
  rcases Nat.lt_or_ge t t2.size with h1 | h1
  · have h2 : t < t1.size := by omega
    simp only [Array.getD_eq_getD_getElem?, Array.getElem?_eq_getElem h1, Array.getElem?_eq_getElem h2, Option.getD_some] at hk ⊢
    rw [hk]
  · rw [Array.getElem?_eq_none h1, Array.getElem?_eq_none (by omega)]
end
/-- A slot that is known. -/
theorem slot_at {tm : Array Value} {i : Nat} {v : Value} (h : tm[i]? = some v) (hi : i < tm.size) : tm[i] = v := by
  rw [Array.getElem?_eq_getElem hi] at h
  exact Option.some.inj h
theorem slot_get {tm : Array Value} {i : Nat} {v : Value} (h : tm.getD i undef = v) (hi : i < tm.size) : tm[i]? = some v := by
  rw [Array.getElem?_eq_getElem hi]
  simp only [Array.getD_eq_getD_getElem?, Array.getElem?_eq_getElem hi, Option.getD_some] at h
  rw [h]
theorem slot_getD {tm : Array Value} {i : Nat} {v : Value} (h : tm[i]? = some v) : tm.getD i undef = v := by
  rw [Array.getD_eq_getD_getElem?, h]; rfl

/-- A frame in which only these slots are new. -/
theorem keeps_frame {S : Nat → Bool} {tm tm0 : Array Value} (ds : List Nat) (h : Keeps S tm0 tm) (hd : ∀ t, S t = true → t ∈ ds) : tm = ds.foldl (fun m d => m.setIfInBounds d (tm.getD d undef)) tm0 := by
  apply Array.ext
  · rw [fold_size, h.1]
  · intro t h1 h2
    have h3 : t < tm0.size := by rw [← h.1]; exact h1
    have hf := frame_fold tm ds tm0 t h3
    have e1 : tm.getD t undef = tm[t] := by simp [Array.getD_eq_getD_getElem?, h1]
    have e2 : (List.foldl (fun m d => m.setIfInBounds d (tm.getD d undef)) tm0 ds).getD t undef = (List.foldl (fun m d => m.setIfInBounds d (tm.getD d undef)) tm0 ds)[t] := by
      rw [Array.getD_eq_getD_getElem?, Array.getElem?_eq_getElem h2]; rfl
    rw [← e1, ← e2, hf]
    by_cases hn : t ∈ ds
    · rw [if_pos hn]
    · rw [if_neg hn]
      have hS : S t = false := by
        cases e : S t with
        | false => rfl
        | true => exact absurd (hd t e) hn
      rw [Array.getD_eq_getD_getElem?, Array.getD_eq_getD_getElem?, h.2 t hS]
/-- The slots that the test writes. -/
def SCN (t : Nat) : Bool := decide (74 ≤ t) && decide (t ≤ 100)
theorem scn_mem (t : Nat) (h : SCN t = true) : t ∈ [74, 75, 76, 77, 78, 79, 80, 81, 82, 83, 84, 85, 86, 87, 88, 89, 90, 91, 92, 93, 94, 95, 96, 97, 98, 99, 100] := by
  show t ∈ List.range' 74 27
  unfold SCN at h
  rw [Bool.and_eq_true, decide_eq_true_iff, decide_eq_true_iff] at h
  rw [List.mem_range'_1]
  omega
def okB (ts : Int) (sa sb : ByteArray) (y : It) (n ms : Nat) : Bool := pB ts sa sb y && decide (n < ms)
theorem okB_lt {ts : Int} {sa sb : ByteArray} {y : It} {n ms : Nat} (h : okB ts sa sb y n ms = true) : n < ms := by
  unfold okB at h
  rw [Bool.and_eq_true, decide_eq_true_iff] at h
  exact h.2
theorem few_step {xs : List It} {j ms : Nat} {y : It} (h : xs[j]? = some y) (ts : Int) (sa sb : ByteArray) :
    ((xs.take (j + 1)).filter (pB ts sa sb)).take ms = ((xs.take j).filter (pB ts sa sb)).take ms ++ (if okB ts sa sb y (((xs.take j).filter (pB ts sa sb)).take ms).length ms then [y] else []) := by
  cases hp : pB ts sa sb y
  · rw [few_no h hp, okB, hp]; simp
  · by_cases hm : (((xs.take j).filter (pB ts sa sb)).take ms).length < ms
    · rw [few_more h hp hm, okB, hp, decide_eq_true hm]; rfl
    · rw [few_full h hm, okB, decide_eq_false hm]; simp
theorem few_facts (Y : List It) (ms : Nat) :
    (∀ (q : Nat) (x : It), Y[q]? = some x → q < ms → (Y.take ms)[q]? = some x) ∧ (Y.length ≤ ms → (Y.take ms).length = Y.length) ∧ (ms < Y.length → (Y.take ms).length = ms) ∧ (Y.take ms).length ≤ ms := by
  refine ⟨fun q x h hq => ?_, fun h => ?_, fun h => ?_, ?_⟩
  · rw [List.getElem?_take, if_pos hq]; exact h
  · rw [List.length_take]; omega
  · rw [List.length_take]; omega
  · rw [List.length_take]; omega
theorem put_nil0 (w : World) : Calls Try.prog 12 #[.pointer none, .agg #[.int .i64 0, .string ⟨#[]⟩, .string ⟨#[]⟩, .int .i64 0, .int .i64 0]] w fun e w' => e = .returned (.tuple #[]) ∧ Below w.heap.size w w' := Put_nil ⟨0, ⟨#[]⟩, ⟨#[]⟩, 0, 0⟩ w
set_option maxHeartbeats 4000000 in
theorem scans_test {w : World} {g4 g12 g13 gy n ms c2 : Nat} {ts : Int} {sa sb : ByteArray} {y : It} {A2 : Option Addr}
    (n0 : w.cell? ⟨g4, 0, none⟩ = some (.string sa)) (n1 : w.cell? ⟨g4, 1, none⟩ = some (.string sb))
    (st0 : w.cell? ⟨g12, 0, none⟩ = some (.int .i64 ms)) (v0 : w.cell? ⟨g13, 0, none⟩ = some (.slice A2 n c2))
    (y0 : w.cell? ⟨gy, 0, none⟩ = some (.int .i64 y.t)) (y1 : w.cell? ⟨gy, 1, none⟩ = some (.string y.key))
    {tm : Array Value} (hs : tm.size = 156) (f4 : tm[4]? = some (.pointer (some ⟨g4, 0, none⟩))) (f11 : tm[11]? = some (.int .i64 ts)) (f12 : tm[12]? = some (.pointer (some ⟨g12, 0, none⟩))) (f13 : tm[13]? = some (.pointer (some ⟨g13, 0, none⟩))) (f15 : tm[15]? = some (.pointer (some ⟨gy, 0, none⟩)))
    {Q : Exit → Act → World → Prop} (hK : ∀ tm', Keeps SCN tm tm' → tm'[100]? = some (.bool (okB ts sa sb y n ms)) → Q .normal ⟨tm', []⟩ w) :
    Code.wp Try.prog (subC (Try.f4.body.getD .skip) [1,1,1,1,1,1,1,1,0,1,0,0,1,1,0,0,1,0]) Q ⟨tm, []⟩ w := by
  have HK := hide hK
  clear hK
  have hlt : (decide ((n : Int) < (ms : Int))) = decide (n < ms) := by simp
  conv => arg 2; whnf
  have hun : ∀ b : Bool, ¬ (undef = Value.bool b) := fun b => by simp [undef]
  have k4 := slot_at f4 (by omega)
  have k11 := slot_at f11 (by omega)
  have k12 := slot_at f12 (by omega)
  have k13 := slot_at f13 (by omega)
  have k15 := slot_at f15 (by omega)
  clear f4 f11 f12 f13 f15
  have hl5 : ∀ x : Bool, decide (n < ms) = x → decide ((n : Int) < (ms : Int)) = x := fun x h => hlt.trans h
  cases ct : (y.t == ts)
  · have hv : okB ts sa sb y n ms = false := by unfold okB pB; rw [ct]; rfl
    have HV := hide hv
    clear hv hlt hl5
    go_wp2
    exact HK.out _ (by repeat (first | (with_reducible exact Keeps.refl _ _) | ((with_reducible refine Keeps.put ?_ ?_ _); rfl))) (by rw [HV.out]; simp [hs])
  · cases cg : Op.bytesLess y.key.toList sa.toList
    · cases cl : Op.bytesLess sb.toList y.key.toList
      · have cf := (le_form (a := y.key) (b := sb)).trans (by rw [cl]; rfl : _ = true)
        cases cn : decide (n < ms)
        · have hv : okB ts sa sb y n ms = false := by unfold okB; rw [cn, Bool.and_false]
          have cni := hl5 _ cn
          have HV := hide hv
          clear hv hlt hl5
          go_wp2
          exact HK.out _ (by repeat (first | (with_reducible exact Keeps.refl _ _) | ((with_reducible refine Keeps.put ?_ ?_ _); rfl))) (by rw [HV.out]; simp [hs])
        · have hv : okB ts sa sb y n ms = true := by unfold okB pB; rw [ct, cg, cl, cn]; rfl
          have cni := hl5 _ cn
          have HV := hide hv
          clear hv hlt hl5
          go_wp2
          exact HK.out _ (by repeat (first | (with_reducible exact Keeps.refl _ _) | ((with_reducible refine Keeps.put ?_ ?_ _); rfl))) (by rw [HV.out]; simp [hs])
      · have cf := (le_form (a := y.key) (b := sb)).trans (by rw [cl]; rfl : _ = false)
        have hv : okB ts sa sb y n ms = false := by unfold okB pB; rw [ct, cg, cl]; rfl
        have HV := hide hv
        clear hv hlt hl5
        go_wp2
        exact HK.out _ (by repeat (first | (with_reducible exact Keeps.refl _ _) | ((with_reducible refine Keeps.put ?_ ?_ _); rfl))) (by rw [HV.out]; simp [hs])
    · have hv : okB ts sa sb y n ms = false := by unfold okB pB; rw [ct, cg]; rfl
      have HV := hide hv
      clear hv hlt hl5
      go_wp2
      exact HK.out _ (by repeat (first | (with_reducible exact Keeps.refl _ _) | ((with_reducible refine Keeps.put ?_ ?_ _); rfl))) (by rw [HV.out]; simp [hs])
end Go.Proofs.Ytkcomkllnhdohaa
