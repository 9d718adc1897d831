/-
  Pages on a region, beside a lane: what writing one makes of it (plain data).
-/
import Derived.Test.YtkdcnddagebjpaaPo8
namespace Go.Proofs.Ytkdcnddagebjpaa
open Go.RowKit
set_option maxRecDepth 20000
set_option linter.unusedSimpArgs false
set_option linter.unusedVariables false

/-- What bytes are is one page alone. -/
theorem DecP.same {l : List UInt8} {r n : Nat} {x y : Pg} (hr : r < 65536) (hn : n < 65536) (hx : DecP l r n x 0) (hy : DecP l r n y 0) : x.val = y.val := by
  rcases hx with ⟨_, x1, x2, x3, x4, x5, x6, x7⟩ | ⟨h, _⟩
  · rcases hy with ⟨_, y1, y2, y3, y4, y5, y6, y7⟩ | ⟨h, _⟩
    · by_cases hx0 : x.mark = 0
      · by_cases hy0 : y.mark = 0
        · exact (pg_val (hx0.trans hy0.symm) (x2.trans y2.symm) (x3.trans y3.symm) (fun j _ => by rw [x6 hx0, y6 hy0])).1
        · exact (x7 y ⟨y4, by omega, by omega, y5⟩ hy0 y1).symm
      · exact y7 x ⟨x4, by omega, by omega, x5⟩ hx0 x1
    · cases h
  · cases h
theorem pg_of_val {x y : Pg} (h : x.val = y.val) : x.mark = y.mark ∧ x.ten = y.ten ∧ x.num = y.num ∧ ∀ j, j < 5 → x.s j = y.s j := by
  unfold Pg.val Pg.cells at h
  injection h with h
  have h := congrArg Array.toList h
  simp only [List.cons.injEq, Value.int.injEq, Value.string.injEq, true_and, and_true] at h
  obtain ⟨h0, h1, h2, h3, h4, h5, h6, h7⟩ := h
  refine ⟨by omega, by omega, by omega, fun j hj => ?_⟩
  match j, hj with
  | 0, _ => exact h3
  | 1, _ => exact h4
  | 2, _ => exact h5
  | 3, _ => exact h6
  | 4, _ => exact h7
theorem DecP.good {l : List UInt8} {r n : Nat} {x : Pg} (hr : r < 65536) (hn : n < 65536) (h : DecP l r n x 0) : x.good ∧ x.ten = r ∧ x.num = n ∧ x.encL = l ∧ (x.mark = 0 → ∀ j, x.s j = ⟨#[]⟩) := by
  rcases h with ⟨_, x1, x2, x3, x4, x5, x6, x7⟩ | ⟨h, _⟩
  · exact ⟨⟨x4, by omega, by omega, x5⟩, x2, x3, x1, x6⟩
  · cases h
/-- A page's own bytes. -/
theorem DecP.of {p : Pg} (hg : p.good) (h0 : p.mark ≠ 0) : DecP p.encL p.ten p.num p 0 := by
  refine .inl ⟨rfl, rfl, rfl, rfl, hg.1, hg.2.2.2, fun h => absurd h h0, fun x hx hx0 e => ?_⟩
  unfold Pg.encL at e
  rw [if_neg hx0, if_neg h0] at e
  obtain ⟨a1, a2, a3, a4⟩ := readP_secs hx
  obtain ⟨b1, b2, b3, b4⟩ := readP_secs hg
  rw [e] at a1 a2 a3 a4
  exact (pg_val (a1.symm.trans b1) (a2.symm.trans b2) (a3.symm.trans b3) (fun j hj => (a4 j hj).symm.trans (b4 j hj))).1
/-- Zeros are a page without rows. -/
theorem DecP.zeros (r n : Nat) : DecP z256 r n (pTN r n) 0 := by
  refine .inl ⟨rfl, rfl, rfl, rfl, by show (0 : Nat) < _; decide, fun _ _ => okB_empty, fun _ _ => rfl, fun x hx hx0 e => ?_⟩
  unfold Pg.encL at e
  rw [if_neg hx0] at e
  obtain ⟨a1, _⟩ := readP_secs hx
  rw [e, z256_read] at a1
  exact absurd a1.symm hx0
theorem pgB_like {S S' : List Sec} {n : Nat} (h : ∀ j, j < 4 → S'.getD (514 + 4 * n + j) zsec = S.getD (514 + 4 * n + j) zsec) : ∀ k, k ≤ 4 → pgB S' n k = pgB S n k
  | 0, _ => rfl
  | k + 1, hk => by rw [pgB, pgB, pgB_like h k (by omega), h k (by omega)]
theorem pgB_of {S : List Sec} {n : Nat} {B : List UInt8} (h : ∀ j, j < 4 → S.getD (514 + 4 * n + j) zsec = (B.drop (j * 64)).take 64) : ∀ k, k ≤ 4 → pgB S n k = B.take (k * 64)
  | 0, _ => by rw [pgB, Nat.zero_mul, List.take_zero]
  | k + 1, hk => by
    rw [pgB, pgB_of h k (by omega), h k (by omega), Nat.succ_mul, List.take_add]
theorem pgB_new (n m : Nat) (hn : n < 6) (hm : 538 ≤ m) : pgB (List.replicate m zsec) n 4 = z256 := by
  have h : ∀ k, k ≤ 4 → pgB (List.replicate m zsec) n k = List.replicate (k * 64) 0 := by
    intro k
    induction k with
    | zero => intro _; rfl
    | succ k ih =>
      intro hk
      rw [pgB, ih (by omega), List.getD_eq_getElem?_getD, List.getElem?_replicate, if_pos (by omega), Nat.succ_mul]
      show List.replicate (k * 64) 0 ++ List.replicate 64 0 = _
      exact List.replicate_append_replicate
  exact h 4 (Nat.le_refl _)
theorem pageD_all (n : Nat) (B : List UInt8) : allW (pageD n B) := by
  intro o ho
  unfold pageD at ho
  rw [List.mem_map] at ho
  obtain ⟨j, _, rfl⟩ := ho
  intro e
  cases e
theorem wsOf_pageD (n : Nat) (B : List UInt8) : wsOf (pageD n B) = (List.range 4).map fun j => (514 + 4 * n + j, (B.drop (j * 64)).take 64) := rfl
theorem pageD_mem {n : Nat} {B : List UInt8} {x : Nat × Sec} (h : x ∈ wsOf (pageD n B)) : ∃ j, j < 4 ∧ x = (514 + 4 * n + j, (B.drop (j * 64)).take 64) := by
  rw [wsOf_pageD, List.mem_map] at h
  obtain ⟨j, hj, rfl⟩ := h
  exact ⟨j, List.mem_range.1 hj, rfl⟩
theorem pageD_of {n j : Nat} {B : List UInt8} (h : j < 4) : (514 + 4 * n + j, (B.drop (j * 64)).take 64) ∈ wsOf (pageD n B) := by
  rw [wsOf_pageD, List.mem_map]
  exact ⟨j, List.mem_range.2 h, rfl⟩
section
variable {g g' : Rg} {n : Nat} {l : Ln} {all : List Rc} {s : Nat}
/-- What stands behind the lane's sectors plays no part. -/
theorem Lv.beside (h : Lv g n l all s) (hf : g'.Fit n) (hq : g'.ws = []) (hb : ∀ i, i < 514 → g'.base[i]? = g.base[i]?) : Lv g' n l all s := by
  refine ⟨hf, h.size, hq, h.lf, h.gen1, h.ast, by rw [hb 1 (by omega)]; exact h.head, h.ok, h.bytes, h.sle, h.sure, ?_⟩
  intro i x hx
  obtain ⟨hi, hx⟩ := bank_of (l := l) hx
  have hbk := h.lf.bank
  rw [hb _ (by unfold Ln.sec; omega)] at hx
  exact h.holds i x (by rw [bankOf_get _ _ _ hi]; exact hx)
theorem flD_ast (h : l.astray = false) (he : l.sure ≠ l.kept.length) : flD l = keptD l ++ [.bar] := by unfold flD; rw [if_neg he, flushD_ast h]
/-- The lane's Flush, all well: what stands behind it is as it was. -/
theorem Lv.fl (h : Lv g n l all s) (hup : g.armed = false) : (g.run (flD l)).2 = true ∧ Lv (g.run (flD l)).1 n (flL l true) all all.length ∧ (g.run (flD l)).1.armed = false ∧ ∀ i, 514 ≤ i → (g.run (flD l)).1.base[i]? = g.base[i]? := by
  by_cases he : l.sure = l.kept.length
  · have e1 : flD l = [] := by unfold flD; rw [if_pos he]
    have e2 : flL l true = l := by unfold flL; rw [if_pos he]
    rw [e1, e2, run_nil]
    have hs := all_sure h he
    exact ⟨rfl, by rw [← hs]; exact h, hup, fun _ _ => rfl⟩
  · have e1 : flD l = flushD l := by unfold flD; rw [if_neg he]
    have e2 : flL l true = l.hard := by unfold flL; rw [if_neg he]; rfl
    rw [e1, e2]
    obtain ⟨hok, hup'⟩ := run_up (flushD l) g hup
    refine ⟨hok, h.flushed hok, hup', fun i hi => ?_⟩
    rw [flushD_ast h.ast] at hok ⊢
    rw [((run_bar (keptD_all l) h.quiet).1 hok).1]
    refine put_none (fun b hb => ?_)
    obtain ⟨j, hj, e⟩ := keptD_mem hb
    injection e with e _
    have hbk := h.lf.bank
    have hlen := h.lf.len
    unfold Ln.len at hlen
    unfold Ln.nsec at hj
    unfold Ln.sec at e
    omega
/-- A page is written, all well. -/
theorem Lv.paged (h : Lv g n l all s) (hup : g.armed = false) {m : Nat} {B : List UInt8} (hm : m < 6) (hn : 538 ≤ n) (hB : B.length = 256) :
    (g.run (pageD m B ++ [.bar])).2 = true ∧ Lv (g.run (pageD m B ++ [.bar])).1 n l all s ∧ (g.run (pageD m B ++ [.bar])).1.armed = false ∧ pgB (g.run (pageD m B ++ [.bar])).1.base m 4 = B ∧ ∀ j, j < 6 → j ≠ m → pgB (g.run (pageD m B ++ [.bar])).1.base j 4 = pgB g.base j 4 := by
  obtain ⟨hok, hup'⟩ := run_up (pageD m B ++ [.bar]) g hup
  obtain ⟨hb, hq⟩ := (run_bar (pageD_all m B) h.quiet).1 hok
  have hfit : (g.run (pageD m B ++ [.bar])).1.Fit n := run_fit _ _ h.fit (fun o ho => by
    cases o with
    | bar => trivial
    | w s b =>
      rcases List.mem_append.1 ho with h1 | h1
      · obtain ⟨j, hj, e⟩ := pageD_mem (wsOf_of h1)
        injection e with e1 e2
        refine ⟨by omega, ?_⟩
        rw [e2, List.length_take, List.length_drop]
        omega
      · rw [List.mem_singleton] at h1; cases h1)
  have off : ∀ i, (∀ j, j < 4 → i ≠ 514 + 4 * m + j) → (g.run (pageD m B ++ [.bar])).1.base[i]? = g.base[i]? := by
    intro i hi
    rw [hb]
    refine put_none (fun b hb' => ?_)
    obtain ⟨j, hj, e⟩ := pageD_mem hb'
    injection e with e _
    exact hi j hj e
  refine ⟨hok, h.beside hfit hq (fun i hi => off i (fun j hj => by omega)), hup', ?_, ?_⟩
  · have := pgB_of (S := (g.run (pageD m B ++ [.bar])).1.base) (n := m) (B := B) (fun j hj => ?_) 4 (Nat.le_refl _)
    · rw [this, List.take_of_length_le (by omega)]
    · rw [hb, List.getD_eq_getElem?_getD, put_some (pageD_of hj) (fun b' hb' => by
        obtain ⟨i, hi, e⟩ := pageD_mem hb'
        injection e with e1 e2
        obtain rfl : j = i := by omega
        exact e2) (by rw [h.fit.size]; omega)]
      rfl
  · intro j hj hjm
    refine pgB_like (fun i hi => ?_) 4 (Nat.le_refl _)
    rw [List.getD_eq_getElem?_getD, List.getD_eq_getElem?_getD, off _ (fun i' hi' => by omega)]
/-- save, all well. -/
theorem Lv.saved (h : Lv g n l all s) (hup : g.armed = false) {m : Nat} {B : List UInt8} (hm : m < 6) (hn : 538 ≤ n) (hB : B.length = 256) :
    (g.run (saveT l m B)).2 = true ∧ (g.run (flD l)).2 = true ∧ Lv (g.run (saveT l m B)).1 n (flL l true) all all.length ∧ (g.run (saveT l m B)).1.armed = false ∧ pgB (g.run (saveT l m B)).1.base m 4 = B ∧ ∀ j, j < 6 → j ≠ m → pgB (g.run (saveT l m B)).1.base j 4 = pgB g.base j 4 := by
  obtain ⟨h1, h2, h3, h4⟩ := h.fl hup
  have e : g.run (flD l) = ((g.run (flD l)).1, true) := Prod.ext rfl h1
  unfold saveT
  rw [run_yes e]
  obtain ⟨h5, h6, h7, h8, h9⟩ := h2.paged h3 hm hn hB
  refine ⟨h5, h1, h6, h7, h8, fun j hj hjm => (h9 j hj hjm).trans ?_⟩
  refine pgB_like (fun i hi => ?_) 4 (Nat.le_refl _)
  rw [List.getD_eq_getElem?_getD, List.getD_eq_getElem?_getD, h4 _ (by omega)]
end
end Go.Proofs.Ytkdcnddagebjpaa
