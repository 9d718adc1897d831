/-
  Contracts of slices.Delete (one item of a row of one's own) and slices.Clone (of a part of one).
-/
import Derived.Test.YtkcomkllnhdohaaIns
namespace Go.Proofs.Ytkcomkllnhdohaa
open Go.RowKit Go.Lib
set_option maxRecDepth 100000
set_option linter.unusedSimpArgs false
set_option linter.unusedVariables false

theorem zeroI (w : World) : (zeroValue 32).run Try.prog w = .ok (.agg #[.int .i64 0, .string ⟨#[]⟩, .string ⟨#[]⟩, .int .i64 0, .int .i64 0]) w := by kernel_rfl
/-- append as one step of a region that draws, its run known. -/
theorem step_append_run {P : Program} {ops : Array Oper} {o : Oper} {a : Act} {w : World} {K : Act → World → Prop} {Q : Exit → Act → World → Prop} {E : Prop}
    (hg : o.guard = none) (d x : Operand) (dT sT : TypeId) (hop : o.op = Op.call { callee := Callee.builtin Builtin.append, args := #[d, x], argTypes := #[dT, sT] })
    (v u : Value) (hd : a.eval d = v) (hx : a.eval x = u) {v' : Value} {w' : World} (hr : (Builtin.append_ #[dT, sT] o.type #[v, u]).run P w = .ok v' w') (hK : K (a.put o.dst v') w') :
    if Region.wanted o (yielded ops a.tmps) = true then Oper.wp P o a w K Q else E := by
  have hw : Region.wanted o (yielded ops a.tmps) = true := by simp [Region.wanted, hg]
  rw [if_pos hw]
  unfold Oper.wp
  simp [execOp, hop, resolve, invoke, builtin, hd, hx, hr, Result.andThen]
  exact hK
/-- append(s[:i], s[j:]...), in place. -/
theorem delete_any {w : World} {B i : Nat} {v : Value} {es : List It} (h : Its 32 w B v es) (hl : es.length ≤ 100000) (hi : i < es.length) :
    Calls Try.prog 22 #[v, .int .i64 (i : Int), .int .i64 ((i : Int) + 1)] w (InsP w B v (es.take i ++ es.drop (i + 1))) := by
  obtain ⟨g, cap, cur, rfl, hB, hg, hnc, hcm, hcs, htk⟩ := h.open (by omega)
  clear h
  have hcm2 : cap ≤ 9223372036854775807 := by unfold maxLen at hcm; omega
  obtain ⟨i0, hi0, hz0, hzs, hzb⟩ := info_parts infoI
  have hgl : g < w.heap.size := (Array.getElem?_eq_some_iff.1 hg).1
  have hcl : cur.toList.length = cap * 5 := by rw [Array.length_toList, hcs]
  have htl : (flatI (es.take i)).length = i * 5 := by rw [flatI_length, List.length_take]; omega
  have hdl : (flatI (es.drop (i + 1))).length = (es.length - (i + 1)) * 5 := by rw [flatI_length, List.length_drop]
  have htd : (cur.toList.take (es.length * 5)).drop ((i + 1) * 5) = flatI (es.drop (i + 1)) := by rw [htk, flatI_drop]
  obtain ⟨c1, hc1⟩ : ∃ c1 : Array Value, c1 = (cur.toList.take (i * i0.size) ++ flatI (es.drop (i + 1)) ++ cur.toList.drop (i * i0.size + (flatI (es.drop (i + 1))).length)).toArray := ⟨_, rfl⟩
  obtain ⟨c2, hc2⟩ : ∃ c2 : Array Value, c2 = (c1.toList.take ((es.length - 1) * 5) ++ ([.int .i64 0, .string ⟨#[]⟩, .string ⟨#[]⟩, .int .i64 0, .int .i64 0] : List Value) ++ c1.toList.drop ((es.length - 1) * 5 + 5)).toArray := ⟨_, rfl⟩
  have hz1 : c1.toList.length = cap * 5 := by
    rw [hc1, hzs]
    simp only [List.toList_toArray, List.length_append, List.length_take, List.length_drop, hcl, hdl]
    omega
  have hz2 : c2.toList.length = cap * 5 := by
    rw [hc2]
    simp only [List.toList_toArray, List.length_append, List.length_take, List.length_drop, hz1, List.length_cons, List.length_nil]
    omega
  have hcell : ∀ j v, (flatI (es.drop (i + 1)))[j]? = some v → w.cell? ⟨g, (i + 1) * 5 + j, none⟩ = some v := fun j v hj => by
    rw [cell_of_row w g _ cur _ _ hg, ← Array.getElem?_toList]
    rw [← htd, List.getElem?_drop, List.getElem?_take] at hj
    split at hj
    · exact hj
    · cases hj
  have hap : ∀ W : World, W.heap = w.heap → ∀ ty, (Builtin.append_ #[25, 25] ty #[.slice (some ⟨g, 0, none⟩) i cap, .slice (hiI (some ⟨g, 0, none⟩) cap (i + 1)) (es.length - (i + 1)) (cap - (i + 1))]).run Try.prog W = .ok (.slice (some ⟨g, 0, none⟩) (es.length - 1) cap) (W.setRow g c1) := fun W hW ty => by
    rw [hc1]
    obtain ⟨a, ha, hsrc⟩ : ∃ a : Addr, hiI (some ⟨g, 0, none⟩) cap (i + 1) = some a ∧ ∀ j v, (flatI (es.drop (i + 1)))[j]? = some v → W.cell? (a.add j) = some v := by
      unfold hiI
      by_cases e : cap = i + 1
      · rw [if_pos e]
        refine ⟨_, rfl, fun j v hj => ?_⟩
        have : es.drop (i + 1) = [] := List.drop_eq_nil_of_le (by omega)
        rw [this] at hj
        simp [flatI] at hj
      · rw [if_neg e]
        refine ⟨⟨g, (i + 1) * 5, none⟩, by simp [Addr.add], fun j v hj => ?_⟩
        rw [addr_add]
        exact (World.cell?_of_block (w := w) (by rw [hW])).trans (hcell j v hj)
    rw [ha]
    have := run_append_room (P := Try.prog) W 25 ty 32 i0 Try.underlying25 hi0 g i cap cur (by rw [hW]; exact hg) a (es.length - (i + 1)) (cap - (i + 1)) (flatI (es.drop (i + 1))) (by rw [hdl, hzs]) hsrc (flatI_one _) (by omega) (by rw [hdl, hzs, hcs]; omega)
    rw [show i + (es.length - (i + 1)) = es.length - 1 by omega] at this
    exact this
  have hcr : ∀ W : World, W.heap = (w.setRow g c1).heap → ∀ ty c, (Builtin.clear_ #[25] ty #[.slice (some ⟨g, (es.length - 1) * 5, none⟩) (es.length - (es.length - 1)) c]).run Try.prog W = .ok (.tuple #[]) (W.setRow g c2) := fun W hW ty c => by
    rw [hc2]
    have e1 : es.length - (es.length - 1) = 1 := by omega
    rw [e1]
    have := run_clear_rowN W 25 32 ty _ g ((es.length - 1) * 5) 1 c c1 32 [.int .i64 0, .string ⟨#[]⟩, .string ⟨#[]⟩, .int .i64 0, .int .i64 0] Try.underlying25 zeroI (by decide) (by rw [hW]; exact setRow_heap w g cur c1 _ _ hg) (by kernel_rfl) (by rw [← Array.length_toList, hz1]; simp only [List.length_cons, List.length_nil]; omega)
      (fun u hu => by simp at hu; rcases hu with rfl | rfl | rfl <;> rfl)
    exact this
  have hfin : ∀ W : World, W.heap = (w.setRow g c2).heap → W.os = w.os → W.tape = w.tape → W.output = w.output → RowP w B (.slice (some ⟨g, 0, none⟩) es.length cap) (es.take i ++ es.drop (i + 1)) (.slice (some ⟨g, 0, none⟩) (es.length - 1) cap) W := by
    intro W hW h1 h2 h3
    have hlen : (es.take i ++ es.drop (i + 1)).length = es.length - 1 := by
      rw [List.length_append, List.length_take, List.length_drop]; omega
    refine ⟨?_, ⟨h1, h2, h3, by rw [hW, setRow_size]; exact Nat.le_refl _, fun k hk hn => ?_⟩, fun k hk => .inl hk⟩
    · unfold Its
      rw [hlen]
      refine ⟨by rw [flatI_length, hlen], .inr ⟨g, cap, c2, rfl, hB, by rw [hW]; exact setRow_heap w g cur c2 _ _ hg, by omega, hcm, by rw [← Array.length_toList, hz2], ?_⟩⟩
      have e0 : cur.toList.take (i * 5) = flatI (es.take i) := by
        rw [← flatI_take, ← htk, List.take_take]
        congr 1
        omega
      have e1 : c1.toList.take ((es.length - 1) * 5) = flatI (es.take i ++ es.drop (i + 1)) := by
        rw [hc1, List.toList_toArray, hzs, e0, flatI_append]
        refine List.take_left' ?_
        rw [List.length_append, htl, hdl]
        omega
      rw [hc2, List.toList_toArray, e1, List.append_assoc]
      refine List.take_left' ?_
      rw [flatI_length, hlen]
    · rw [hW]
      exact setRow_other w g k c2 (fun e => hn (by rw [e]; rfl))
  have hs1 := fun W => run_highI (some ⟨g, 0, none⟩) es.length cap (i + 1) (by omega) hnc W
  have hs2 := fun W => run_lowI (some ⟨g, 0, none⟩) es.length cap i (by omega) W
  rw [Int.natCast_add, Int.natCast_one] at hs1
  have hb0 : (0 : Int) ≤ (i : Int) + 1 := by omega
  have hb1 : ¬ ((i : Int) = (i : Int) + 1) := by omega
  have hb2 : (i : Int) ≤ (i : Int) + 1 := by omega
  have hb3 : (i : Int) + 1 ≤ (es.length : Int) := by omega
  have hb4 : ¬ (cap = es.length - 1) := by omega
  have hb5 : ¬ (cap = i) := by omega
  have hb6 : ((es.length - 1 : Nat) : Int) ≤ (es.length : Int) := by omega
  have htn : ((i : Int) + 1).toNat = i + 1 := by omega
  have HF := hide hfin
  have HA := hide hap
  have HC := hide hcr
  clear hfin hap hcr hc1 hc2 hz1 hz2 hcell htl hdl hcl hcs htk hg hi0 hz0 hzs hzb hcm htd
  go_enter Try.func22, Try.ntmps22
  go_wp2
  go_region_law (refine step_append_run rfl (.tmp 22) (.tmp 25) 25 25 rfl (.slice (some ⟨g, 0, none⟩) i cap) (.slice (hiI (some ⟨g, 0, none⟩) cap (i + 1)) (es.length - (i + 1)) (cap - (i + 1))) (by simp [Act.eval, Act.put]) (by simp [Act.eval, Act.put]) (HA.out w.drew rfl 25) ?_)
  have h2 := HC.out (w.drew.setRow g c1) rfl
  go_wp2
  go_ret
  refine ⟨_, rfl, HF.out _ ?_ rfl rfl rfl⟩
  rw [setRow_setRow]
  rfl
/-- A copy of some items. -/
theorem clone_any {w : World} {B g k n c : Nat} {es : List It} (hg : ∀ j u, (flatI es)[j]? = some u → w.cell? ⟨g, k + j, none⟩ = some u) (hn : n = es.length) (hl : es.length ≤ 100000) :
    Calls Try.prog 32 #[.slice (some ⟨g, k, none⟩) n c] w fun e w' => ∃ v', e = .returned v' ∧ Its 32 w' w.heap.size v' es ∧ Below w.heap.size w w' := by
  subst hn
  obtain ⟨i0, hi0, hz0, hzs, hzb⟩ := info_parts infoI
  have own0 : (w.alloc (.cells #[] 32)).ownsRow w.heap.size 32 5 (.slice (some ⟨w.heap.size, 0, none⟩) 0 0) 0 [] := ⟨rfl, .inr ⟨w.heap.size, 0, #[], rfl, Nat.le_refl _, heap_new w _, Nat.le_refl _, by decide, rfl, rfl⟩⟩
  obtain ⟨v', w', hrun, h6, h7, _, h8⟩ := run_append_own_at (P := Try.prog) (w := w.alloc (.cells #[] 32)) w.heap.size 25 25 32 i0 _ 5 56 Try.underlying25 hi0 hz0 hzs hzb rfl (by omega) _ 0 _ own0 ⟨g, k, none⟩ es.length c (flatI es) (by rw [flatI_length])
    (fun j u hu => by
      rw [addr_add]
      have hc := hg j u hu
      exact (World.cell?_alloc_lt w _ _ (block_lt_of_cell hc)).trans hc) (flatI_one es) (by simp only [maxLen]; omega) (by omega) (by simp)
  rw [Nat.zero_add, List.nil_append] at h6
  have hnil : ∀ W, (binOp .eql 25 (.slice (some ⟨g, k, none⟩) es.length c) (.slice none 0 0)).run Try.prog W = .ok (.bool false) W := fun W => Lib.run_eql_slice_nil W 25 _ _ _ _ _ _ Try.underlying25
  have hK : Below w.heap.size w w' := ((Below.refl _ w).alloc (Nat.le_refl _) _).trans ((Kept.of_grown h7).below (by simp) (fun k e => by have e2 : w.heap.size = k := Option.some.inj e; omega))
  have H6 := hide h6
  have HK := hide hK
  clear h6 h7 h8 hK own0 hi0 hz0 hzs hzb
  go_enter Try.func32, Try.ntmps32
  go_wp2_with (at_builtin; refine Lib.wpList_append_run _ rfl (.tmp 5) (.tmp 6) _ _ rfl _ _ rfl rfl _ _ hrun ?_)
  go_ret
  exact ⟨v', rfl, H6.out, HK.out⟩
end Go.Proofs.Ytkcomkllnhdohaa
