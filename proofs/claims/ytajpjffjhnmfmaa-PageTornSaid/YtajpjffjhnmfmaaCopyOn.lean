/-
  A block whose first bytes are known (the rest whatever it is): read, and copied into.
-/
import Derived.Test.YtajpjffjhnmfmaaCopy
import Derived.Test.YtajpjffjhnmfmaaClone
namespace Go.Proofs.Ytajpjffjhnmfmaa
open Go.RowKit

set_option linter.unusedSimpArgs false
set_option linter.unusedVariables false

/-- Block g begins with these bytes; it has c cells. -/
def Hold (w : World) (g c : Nat) (l : List UInt8) : Prop := ∃ cur, Blk w g 5 cur ∧ cur.size = c ∧ l.length ≤ c ∧ cur.toList.take l.length = u8s l
theorem Hold.below {w w' : World} {g c : Nat} {l : List UInt8} (h : Hold w g c l) (hb : Below w.heap.size w w') : Hold w' g c l := by
  obtain ⟨cur, h1, h2⟩ := h
  exact ⟨cur, h1.below hb, h2⟩
theorem Hold.turns {w w' : World} {g c : Nat} {l : List UInt8} {X : Nat → Prop} (h : Hold w g c l) (ht : Turns X w w') (hx : ¬ X g) : Hold w' g c l := by
  obtain ⟨cur, h1, h2⟩ := h
  exact ⟨cur, ht.blk h1 hx, h2⟩
theorem Hold.lt {w : World} {g c : Nat} {l : List UInt8} (h : Hold w g c l) : g < w.heap.size := by
  obtain ⟨cur, h1, _⟩ := h
  exact h1.lt
theorem Hold.rd {w : World} {g c n : Nat} {l : List UInt8} (h : Hold w g c l) (hn : l.length = n) : Rd w (.slice (some ⟨g, 0, none⟩) n c) (u8s l) := by
  subst hn
  obtain ⟨cur, h1, h2, h3, h4⟩ := h
  refine ⟨some ⟨g, 0, none⟩, c, by rw [u8s_length], by rw [u8s_length]; exact h3, fun _ => ⟨g, 0, rfl, h1.lt, fun j u hu => ?_⟩⟩
  rw [Nat.zero_add]
  refine h1.cell j u ?_
  have hj : j < l.length := by have := (List.getElem?_eq_some_iff.1 hu).1; rwa [u8s_length] at this
  rw [← h4, List.getElem?_take, if_pos hj] at hu
  simpa using hu
theorem Mine.hold {w : World} {base n c : Nat} {A : Option Addr} {l : List UInt8} (h : Mine w base (.slice A n c) l) (hn : 0 < l.length) : ∃ g, A = some ⟨g, 0, none⟩ ∧ base ≤ g ∧ Hold w g c l := by
  rcases id h.2 with ⟨e, hz⟩ | ⟨g, cap, cur, e, hbg, hg, hnc, hcm, hcs, htake⟩
  · omega
  · injection e with e1 e2 e3
    subst e1 e3
    exact ⟨g, rfl, hbg, cur, hg, by simpa using hcs, hnc, by simpa using htake⟩
section
variable {P : Program}
theorem run_copy_on (t tx ty : TypeId) (i : TypeInfo) (ht : P.underlying t = some (.slice 5)) (hi : P.info? 5 = some i) (hs1 : i.size = 1) {w : World} {g off n c cc : Nat} {l : List UInt8} (hb : Hold w g cc l) {A : Option Addr} {m cx : Nat} {xs : List UInt8} (hx : Rd w (.slice A m cx) (u8s xs)) (hm : xs.length = m) (hmn : m = n) (hfit : off + m ≤ l.length) :
    ∃ w', (Builtin.copy_ #[t, tx] ty #[.slice (some ⟨g, off, none⟩) n c, .slice A m cx]).run P w = .ok (.int .i64 (m : Nat)) w' ∧ Hold w' g cc (over l off xs) ∧ Turns (· = g) w w' := by
  obtain ⟨cur, hB, hsz, hle, htk⟩ := hb
  subst hmn
  have hlu : (u8s xs).length = m := by rw [u8s_length, hm]
  have hst := run_storeCells_at P g off 5 (u8s xs) 0 cur w hB (by rw [hlu]; omega) (oneCell_u8s xs)
  have hlen := run_lenOf_slice (P := P) (w := w) A m cx
  have hfirst := run_firstCells_rd (P := P) hx (Nat.le_refl m)
  have ht2 : (u8s xs).take m = u8s xs := by rw [← hlu, List.take_length]
  rw [ht2] at hfirst
  have hmin : Nat.min m m = m := Nat.min_self m
  have hmin2 : min m m = m := Nat.min_self m
  refine ⟨w.setRow g ((cur.toList.take (off + 0) ++ u8s xs ++ cur.toList.drop (off + 0 + (u8s xs).length)).toArray), ?_, ?_, ?_⟩
  · simp [Builtin.copy_, run_underlying ht, sizeOf, typeInfo, hi, hs1, hlen, hmin, hmin2, hfirst, hst, goInt]
  · refine ⟨_, setRow_heap w g cur _ 5 _ hB, ?_, ?_, ?_⟩
    · simp only [List.size_toArray, List.length_append, List.length_take, List.length_drop, Array.length_toList, hlu]
      omega
    · rw [over_length _ _ _ (by omega)]; exact hle
    · rw [over_length _ _ _ (by omega)]
      have hc : cur.toList = u8s l ++ cur.toList.drop l.length := by rw [← htk, List.take_append_drop]
      have hll : (u8s l).length = l.length := u8s_length l
      have h1 : off ≤ (u8s l).length := by rw [hll]; omega
      have h2 : off + 0 + (u8s xs).length ≤ (u8s l).length := by rw [hll, hlu]; omega
      rw [hc, List.take_append_of_le_length (show off + 0 ≤ (u8s l).length by omega), List.drop_append_of_le_length h2]
      show List.take l.length (List.take (off + 0) (u8s l) ++ u8s xs ++ (List.drop (off + 0 + (u8s xs).length) (u8s l) ++ _)) = _
      rw [← List.append_assoc]
      have e : List.take (off + 0) (u8s l) ++ u8s xs ++ List.drop (off + 0 + (u8s xs).length) (u8s l) = u8s (over l off xs) := by
        simp [over, u8s]
      rw [e]
      exact List.take_left' (by rw [u8s_length, over_length _ _ _ (by omega)])
  · exact ⟨rfl, rfl, rfl, by simp [World.setRow], fun k _ hk => setRow_other w g k _ hk⟩
theorem wpList_copy_on {ops : Array Oper} {rest : List Oper} {o : Oper} {a : Act} {w : World} {Q : Exit → Act → World → Prop} (hgd : o.guard = none) (d x : Operand) (t tn : TypeId) (i : TypeInfo)
    (ho : o.op = .call { callee := .builtin .copy, args := #[d, x], argTypes := #[t, tn] }) (ht : P.underlying t = some (.slice 5)) (hi : P.info? 5 = some i) (hs1 : i.size = 1)
    {g off n c cc : Nat} {l : List UInt8} (hd : a.eval d = .slice (some ⟨g, off, none⟩) n c) (hb : Hold w g cc l) {A : Option Addr} {m cx : Nat} {xs : List UInt8} (hx : a.eval x = .slice A m cx) (hr : Rd w (.slice A m cx) (u8s xs)) (hm : xs.length = m) (hmn : m = n) (hfit : off + m ≤ l.length)
    (h : ∀ w', Hold w' g cc (over l off xs) → Turns (· = g) w w' → wpList P ops Q rest (a.put o.dst (.int .i64 (m : Nat))) w') : wpList P ops Q (o :: rest) a w := by
  obtain ⟨w', hr, h2, h3⟩ := run_copy_on (P := P) t tn o.type i ht hi hs1 (n := n) (c := c) (off := off) hb hr hm hmn hfit
  exact wpList_copy_run hgd d x t tn ho _ _ hd hx _ w' hr (h w' h2 h3)
end
/-- What two texts mixed are, sector by sector. -/
def mixL (a b : List UInt8) (mk : Nat) : Nat → List UInt8
  | 0 => a
  | k + 1 => if mk.testBit k = true then over (mixL a b mk k) (64 * k) ((b.drop (64 * k)).take 64) else mixL a b mk k
theorem mixL_length {a b : List UInt8} (mk : Nat) (ha : a.length = 256) (hb : b.length = 256) : ∀ k, k ≤ 4 → (mixL a b mk k).length = 256
  | 0, _ => ha
  | k + 1, hk => by
    have ih := mixL_length mk ha hb k (by omega)
    unfold mixL
    split
    · rw [over_length _ _ _ (by rw [List.length_take, List.length_drop, ih, hb]; omega), ih]
    · exact ih
theorem over_get (l m : List UInt8) (off i : Nat) (h : off ≤ l.length) : (over l off m)[i]? = if i < off then l[i]? else if i < off + m.length then m[i - off]? else l[i]? := by
  unfold over
  have hl : (l.take off).length = off := by rw [List.length_take]; omega
  by_cases h1 : i < off
  · rw [if_pos h1, List.getElem?_append_left (by omega), List.getElem?_take, if_pos h1]
  · rw [if_neg h1, List.getElem?_append_right (by omega), hl]
    by_cases h2 : i < off + m.length
    · rw [if_pos h2, List.getElem?_append_left (by omega)]
    · rw [if_neg h2, List.getElem?_append_right (by omega), List.getElem?_drop]
      congr 1
      omega
theorem over_seg (l m : List UInt8) (k j : Nat) (hl : l.length = 256) (hm : m.length = 64) (hk : k < 4) : ((over l (64 * k) m).drop (64 * j)).take 8 = if j = k then m.take 8 else (l.drop (64 * j)).take 8 := by
  apply List.ext_getElem?
  intro i
  rw [List.getElem?_take]
  by_cases hi : i < 8
  · rw [if_pos hi, List.getElem?_drop, over_get _ _ _ _ (by omega), hm]
    by_cases e : j = k
    · subst e
      rw [if_pos rfl, if_neg (by omega), if_pos (by omega), List.getElem?_take, if_pos hi]
      congr 1
      omega
    · rw [if_neg e, List.getElem?_take, if_pos hi, List.getElem?_drop]
      by_cases h1 : 64 * j + i < 64 * k
      · rw [if_pos h1]
      · rw [if_neg h1, if_neg (by omega)]
  · rw [if_neg hi]
    split
    · rw [List.getElem?_take, if_neg hi]
    · rw [List.getElem?_take, if_neg hi]
theorem mixL_seg {a b : List UInt8} (mk : Nat) (ha : a.length = 256) (hb : b.length = 256) : ∀ k, k ≤ 4 → ∀ j, ((mixL a b mk k).drop (64 * j)).take 8 = if j < k ∧ mk.testBit j = true then (b.drop (64 * j)).take 8 else (a.drop (64 * j)).take 8
  | 0, _, j => by rw [if_neg (by omega)]; rfl
  | k + 1, hk, j => by
    have ih := mixL_seg mk ha hb k (by omega) j
    have hlk := mixL_length mk ha hb k (by omega)
    unfold mixL
    by_cases hbit : mk.testBit k = true
    · rw [if_pos hbit, over_seg _ _ k j hlk (by rw [List.length_take, List.length_drop, hb]; omega) (by omega), ih]
      by_cases e : j = k
      · subst e
        rw [if_pos rfl, if_pos ⟨by omega, hbit⟩, List.take_take]
        rfl
      · rw [if_neg e]
        by_cases h2 : j < k
        · by_cases h3 : mk.testBit j = true
          · rw [if_pos ⟨h2, h3⟩, if_pos ⟨by omega, h3⟩]
          · rw [if_neg (fun h => h3 h.2), if_neg (fun h => h3 h.2)]
        · rw [if_neg (fun h => h2 h.1), if_neg (fun h => absurd h.1 (by omega))]
    · rw [if_neg hbit, ih]
      by_cases e : j = k
      · subst e
        rw [if_neg (fun h => absurd h.1 (by omega)), if_neg (fun h => hbit h.2)]
      · by_cases h2 : j < k ∧ mk.testBit j = true
        · rw [if_pos h2, if_pos ⟨by omega, h2.2⟩]
        · rw [if_neg h2, if_neg (fun h => h2 ⟨by omega, h.2⟩)]
end Go.Proofs.Ytajpjffjhnmfmaa
