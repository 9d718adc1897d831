/-
  Contract of slices.Insert at items: in a row of one's own, of one item, wherever it is.
-/
import Derived.Test.YtkcomkllnhdohaaCellsN
import Derived.Deep.RegionLaw
namespace Go.Proofs.Ytkcomkllnhdohaa
open Go.RowKit Go.Lib
set_option maxRecDepth 100000
set_option linter.unusedSimpArgs false
set_option linter.unusedVariables false

/-- Behind it: another row, or the same one, that holds es'; of what was there only the row has turned. -/
def RowP (w : World) (B : Nat) (v : Value) (es' : List It) (v' : Value) (w' : World) : Prop :=
  Its 32 w' B v' es' ∧ Kept (fun k => v.ownBlock = some k) w w' ∧ (∀ k, v'.ownBlock = some k → v.ownBlock = some k ∨ w.heap.size ≤ k)
def InsP (w : World) (B : Nat) (v : Value) (es' : List It) (e : Ending) (w' : World) : Prop := ∃ v', e = .returned v' ∧ RowP w B v es' v' w'
theorem insert_end {w : World} {B vb : Nat} {v : Value} {es : List It} {x : It} (h : Its 32 w B v es) (hl : es.length ≤ 100000) (hB : B ≤ w.heap.size) (hx : Blk w vb 32 x.cells.toArray) :
    Calls Try.prog 21 #[v, .int .i64 (es.length : Int), .slice (some ⟨vb, 0, none⟩) 1 1] w (InsP w B v (es ++ [x])) := by
  obtain ⟨A, c, rfl⟩ := h.form
  have hcap := h.cap.2
  have hs := fun W => run_highI A es.length c es.length (Nat.le_refl _) hcap W
  have hxc := hide (fun i u (hi : x.cells[i]? = some u) => hx.cell i u (by rw [← Array.getElem?_toList]; exact hi))
  have HI := hide h
  clear h hx
  go_enter Try.func21, Try.ntmps21
  go_wp2_with (at_builtin; refine wpList_append_it rfl (.tmp 23) (.tmp 24) rfl Try.underlying25 infoI rfl (by decide) rfl HI.out hl hB rfl hxc.out ?_; intro v' w' h1 h2 h3)
  go_ret
  refine ⟨v', rfl, h1, (Kept.of_grown h2), fun k hk => ?_⟩
  rcases h3 with h3 | h3
  · exact .inl (h3 ▸ hk)
  · rw [h3] at hk
    injection hk with hk
    exact .inr (by omega)
/-- The items with one more between. -/
theorem laid_between {es : List It} {x : It} {i : Nat} (hi : i ≤ es.length) : flatI (es.take i) ++ (x.cells ++ flatI (es.drop i)) = flatI (es.take i ++ x :: es.drop i) := by
  rw [flatI_append, flatI_cons]
theorem insert_room {w : World} {B vb g i cap : Nat} {cur : Array Value} {es : List It} {x : It} (hB : B ≤ g) (hg : w.heap[g]? = some (.cells cur 32 (0, 0))) (hcm : cap ≤ maxLen) (hcs : cur.size = cap * 5) (htk : cur.toList.take (es.length * 5) = flatI es)
    (hl : es.length ≤ 100000) (hx : Blk w vb 32 x.cells.toArray) (hi : i < es.length) (hroom : es.length + 1 ≤ cap) (hne : vb ≠ g) :
    Calls Try.prog 21 #[.slice (some ⟨g, 0, none⟩) es.length cap, .int .i64 (i : Int), .slice (some ⟨vb, 0, none⟩) 1 1] w (InsP w B (.slice (some ⟨g, 0, none⟩) es.length cap) (es.take i ++ x :: es.drop i)) := by
  unfold maxLen at hcm
  have hcl : cur.toList.length = cap * 5 := by rw [Array.length_toList, hcs]
  have htd : (cur.toList.take (es.length * 5)).drop (i * 5) = flatI (es.drop i) := by rw [htk, flatI_drop]
  have hdl : (flatI (es.drop i)).length = (es.length - i) * 5 := by rw [flatI_length, List.length_drop]
  obtain ⟨c1, hc1⟩ : ∃ c1 : Array Value, c1 = (cur.toList.take ((i + 1) * 5) ++ flatI (es.drop i) ++ cur.toList.drop ((i + 1) * 5 + (flatI (es.drop i)).length)).toArray := ⟨_, rfl⟩
  have hz1 : c1.size = cap * 5 := by
    rw [hc1, hdl]
    simp only [List.size_toArray, List.length_append, List.length_take, List.length_drop, hcl, flatI_length]
    omega
  have hcell : ∀ j v, (flatI (es.drop i))[j]? = some v → w.cell? ((⟨g, i * 5, none⟩ : Addr).add j) = some v := fun j v hj => by
    rw [addr_add, cell_of_row w g _ cur _ _ hg, ← Array.getElem?_toList]
    rw [← htd, List.getElem?_drop, List.getElem?_take] at hj
    split at hj
    · exact hj
    · cases hj
  have hcpA : ∀ W : World, W.heap = w.heap → ∀ ty dc sc, (Builtin.copy_ #[25, 25] ty #[.slice (some ⟨g, (i + 1) * 5, none⟩) (es.length - i) dc, .slice (some ⟨g, i * 5, none⟩) (es.length + 1 - i) sc]).run Try.prog W = .ok (goInt ((es.length - i : Nat) : Int)) (W.setRow g c1) := fun W hW ty dc sc => by
    rw [hc1]
    exact run_copy_rowN W _ _ ty 32 5 g ((i + 1) * 5) (es.length - i) dc ⟨g, i * 5, none⟩ (es.length + 1 - i) sc cur 32 (flatI (es.drop i)) (es.length - i) Try.underlying25 infoI5 (by rw [hW]; exact hg)
      (by simp only [Nat.min_def]; split <;> omega) hdl (fun j v hj => (World.cell?_of_block (by rw [hW])).trans (hcell j v hj)) (by rw [hdl, hcs]; omega) (flatI_one _)
  have hgl : g < w.heap.size := (Array.getElem?_eq_some_iff.1 hg).1
  obtain ⟨c2, hc2⟩ : ∃ c2 : Array Value, c2 = (c1.toList.take (i * 5) ++ x.cells ++ c1.toList.drop (i * 5 + x.cells.length)).toArray := ⟨_, rfl⟩
  have hz2 : c2.size = cap * 5 := by
    rw [hc2]
    simp only [List.size_toArray, List.length_append, List.length_take, List.length_drop, Array.length_toList, hz1, It.cells_length]
    omega
  have hg1 : (w.setRow g c1).heap[g]? = some (.cells c1 32 (0, 0)) := setRow_heap w g cur c1 _ _ hg
  have hcpB : ∀ W : World, W.heap = (w.setRow g c1).heap → ∀ ty dc, (Builtin.copy_ #[25, 25] ty #[.slice (some ⟨g, i * 5, none⟩) (es.length + 1 - i) dc, .slice (some ⟨vb, 0, none⟩) 1 1]).run Try.prog W = .ok (goInt 1) (W.setRow g c2) := fun W hW ty dc => by
    rw [hc2]
    refine run_copy_rowN W _ _ ty 32 5 g (i * 5) _ dc ⟨vb, 0, none⟩ 1 1 c1 32 x.cells 1 Try.underlying25 infoI5 (by rw [hW]; exact hg1)
      (by simp only [Nat.min_def]; split <;> omega) rfl (fun j v hj => ?_) (by rw [hz1, It.cells_length]; omega) x.cells_one
    rw [addr_add, Nat.zero_add]
    have : (w.setRow g c1).heap[vb]? = w.heap[vb]? := setRow_other w g vb c1 hne
    refine (World.cell?_of_block (w := w) (by rw [hW]; exact this)).trans (hx.cell j v (by rw [← Array.getElem?_toList]; exact hj))
  have hfin : ∀ W : World, W.heap = (w.setRow g c2).heap → W.os = w.os → W.tape = w.tape → W.output = w.output → RowP w B (.slice (some ⟨g, 0, none⟩) es.length cap) (es.take i ++ x :: es.drop i) (.slice (some ⟨g, 0, none⟩) (es.length + 1) cap) W := by
    intro W hW h1 h2 h3
    have hlen : (es.take i ++ x :: es.drop i).length = es.length + 1 := by
      rw [List.length_append, List.length_cons, List.length_take, List.length_drop]; omega
    refine ⟨?_, ⟨h1, h2, h3, by rw [hW, setRow_size]; exact Nat.le_refl _, fun k hk hn => ?_⟩, fun k hk => .inl hk⟩
    · unfold Its
      rw [hlen]
      refine ⟨by rw [flatI_length, hlen], .inr ⟨g, cap, c2, rfl, hB, by rw [hW]; exact setRow_heap w g cur c2 _ _ hg, hroom, by unfold maxLen; exact hcm, hz2, ?_⟩⟩
      have e1 : c1.toList.take (i * 5) = flatI (es.take i) := by
        rw [hc1, List.toList_toArray, List.append_assoc, List.take_append_of_le_length (by rw [List.length_take, hcl]; omega), List.take_take, ← flatI_take, ← htk, List.take_take]
        congr 1
        omega
      have e2 : c1.toList.drop (i * 5 + 5) = flatI (es.drop i) ++ cur.toList.drop ((i + 1) * 5 + (flatI (es.drop i)).length) := by
        rw [hc1, List.toList_toArray, List.append_assoc, List.drop_append, List.drop_eq_nil_of_le (by rw [List.length_take, hcl]; omega), List.nil_append, List.length_take, hcl]
        rw [show i * 5 + 5 - min ((i + 1) * 5) (cap * 5) = 0 by omega, List.drop_zero]
      rw [hc2, List.toList_toArray, e1, It.cells_length, e2, List.append_assoc, ← List.append_assoc x.cells, ← List.append_assoc (flatI (es.take i)), laid_between (Nat.le_of_lt hi)]
      refine List.take_left' ?_
      rw [flatI_length, hlen]
    · rw [hW]
      exact setRow_other w g k c2 (fun e => hn (by rw [e]; rfl))
  have hsv : w.shape? vb = some (32, 5) := by
    have : w.heap[vb]? = some (.cells x.cells.toArray 32 (0, 0)) := hx
    simp [World.shape?, this]
    rfl
  have hsg : w.shape? g = some (32, cap * 5) := by
    simp [World.shape?, hg, hcs]
  have hov : ∀ lb cb, (callFunc 30 #[.slice (some ⟨vb, 0, none⟩) 1 1, .slice (some ⟨g, (i + 1) * 5, none⟩) lb cb]).run Try.prog w = .ok (.value (.bool false)) w := fun lb cb => by
    rw [run_callFunc_extern Try.func30 (by kernel_rfl) (by kernel_rfl) (by kernel_rfl) (e := Extern.SlicesOverlaps.overlaps #[25, 25] #[4]) (by kernel_rfl),
      Lib.run_overlaps_apart w 25 4 32 Try.underlying25 5 (fun w => by kernel_rfl) ⟨vb, 0, none⟩ ⟨g, (i + 1) * 5, none⟩ 1 1 lb cb hne _ _ _ _ hsv hsg (by omega) (hx.frozen 0) (hx.frozen 5)]
    rfl
  have hb1 : ¬ ((i : Int) = (es.length : Int)) := by omega
  have hb2 : (i : Int) ≤ (es.length : Int) := by omega
  have hb3 : (i : Int) ≤ (es.length : Int) + 1 := by omega
  have hb0 : (0 : Int) ≤ (i : Int) + 1 := by omega
  have hb4 : ¬ (cap = i) := by omega
  have hb5 : ¬ (cap = i + 1) := by omega
  have hb6 : ¬ (cap : Int) < (es.length : Int) + 1 := by omega
  have hw1 : IntKind.i64.wrap ((i : Int) + 1) = (i : Int) + 1 := by rw [IntKind.wrap_i64]; omega
  have htn : ((i : Int) + 1).toNat = i + 1 := by omega
  have HF := hide hfin
  have HA := hide hcpA
  have HBB := hide hcpB
  clear hfin hcpA hcpB hc1 hc2 hz1 hz2 hcell htd hdl hcl hcs htk hsv hsg hg1 hg hx
  go_enter Try.func21, Try.ntmps21
  go_wp2_with (simp only [hov])
  go_region_law (refine step_copy_runI rfl (.tmp 73) (.tmp 76) 25 25 rfl (.slice (some ⟨g, (i + 1) * 5, none⟩) (es.length - i) (cap - (i + 1))) (.slice (some ⟨g, i * 5, none⟩) (es.length + 1 - i) (cap - i)) (by simp [Act.eval, Act.put]) (by simp [Act.eval, Act.put]) (HA.out w.drew rfl 3 (cap - (i + 1)) (cap - i)) ?_)
  have h2 := HBB.out (w.drew.setRow g c1) rfl 3 (cap - i)
  go_wp2
  go_ret
  exact ⟨_, rfl, HF.out _ (by rw [setRow_setRow]; rfl) rfl rfl rfl⟩
theorem insert_grow {w : World} {B vb g i cap : Nat} {cur : Array Value} {es : List It} {x : It} (hBw : B ≤ w.heap.size) (hB : B ≤ g) (hg : w.heap[g]? = some (.cells cur 32 (0, 0))) (hcm : cap ≤ maxLen) (hcs : cur.size = cap * 5) (htk : cur.toList.take (es.length * 5) = flatI es)
    (hl : es.length ≤ 100000) (hx : Blk w vb 32 x.cells.toArray) (hi : i < es.length) (hnc : es.length ≤ cap) (hroom : ¬ es.length + 1 ≤ cap) :
    Calls Try.prog 21 #[.slice (some ⟨g, 0, none⟩) es.length cap, .int .i64 (i : Int), .slice (some ⟨vb, 0, none⟩) 1 1] w (InsP w B (.slice (some ⟨g, 0, none⟩) es.length cap) (es.take i ++ x :: es.drop i)) := by
  obtain rfl : cap = es.length := by omega
  clear hroom hnc hcm
  obtain ⟨i0, hi0, hz0, hzs, hzb⟩ := info_parts infoI
  have hgl : g < w.heap.size := (Array.getElem?_eq_some_iff.1 hg).1
  have hcl : cur.toList.length = es.length * 5 := by rw [Array.length_toList, hcs]
  have hcur : cur.toList = flatI es := by rw [← htk, List.take_of_length_le (by omega)]
  have htl : (flatI (es.take i)).length = i * 5 := by rw [flatI_length, List.length_take]; omega
  have hdl : (flatI (es.drop i)).length = (es.length - i) * 5 := by rw [flatI_length, List.length_drop]
  have hat : ∀ j, w.cell? ⟨g, j, none⟩ = (flatI es)[j]? := fun j => by rw [cell_of_row w g _ cur _ _ hg, ← Array.getElem?_toList, hcur]
  have hold : (Builtin.firstCells i0.size i (.slice (some ⟨g, 0, none⟩) i es.length)).run Try.prog w.drew = .ok (flatI (es.take i)).toArray w.drew := by
    refine run_firstCells_some (P := Try.prog) w.drew i0.size i ⟨g, 0, none⟩ i es.length (flatI (es.take i)) (by rw [hzs, htl]) (fun j v hj => ?_)
    rw [addr_add, Nat.zero_add]
    show w.cell? _ = _
    rw [hat]
    rw [← flatI_take, List.getElem?_take] at hj
    split at hj
    · exact hj
    · cases hj
  have hik : i + (es.length + 1 - i) = es.length + 1 := by omega
  obtain ⟨G, hG⟩ : ∃ G, G = grownCap w (es.length + 1) es.length 32 := ⟨_, rfl⟩
  obtain ⟨zs, hzz⟩ : ∃ zs : Array Value, zs = (Value.agg #[.int .i64 0, .string ⟨#[]⟩, .string ⟨#[]⟩, .int .i64 0, .int .i64 0]).cells := ⟨_, rfl⟩
  have hz5 : zs.size = 5 := by rw [hzz]; rfl
  obtain ⟨ROW, hROW⟩ : ∃ ROW : Array Value, ROW = (flatI (es.take i)).toArray ++ Builtin.zeroCells zs (es.length + 1 - i) ++ Builtin.zeroCells zs (G - (es.length + 1)) := ⟨_, rfl⟩
  have hGn : es.length + 1 ≤ G := by rw [hG]; exact grownCap_ge w _ _ _
  have hG63 : G ≤ maxLen := by rw [hG]; exact grownCap_le_maxLen w _ _ _ (by unfold maxLen; omega)
  have hRs : ROW.size = G * 5 := by
    rw [hROW]
    simp only [Array.size_append, size_zeroCells, hz5, List.size_toArray, htl]
    omega
  have hrz : ∀ ty, (Builtin.append_ #[25, 3] ty #[.slice (some ⟨g, 0, none⟩) i es.length, .int .i64 ((es.length : Int) + 1 - (i : Int))]).run Try.prog w =
      .ok (.slice (some ⟨w.heap.size, 0, none⟩) (es.length + 1) G) (w.drew.alloc (.cells ROW 32)) := fun ty => by
    have h := Lib.run_append_grow_zeros w 25 3 ty 32 i0 _ .i64 .i64 Try.underlying25 Try.underlying3 hi0 hz0 (some ⟨g, 0, none⟩) i es.length (flatI (es.take i)) hold (es.length + 1 - i) (by omega) (by omega) (by omega) (by omega) (by rw [hzb]; omega)
      (by rw [hzb, hik]; exact growslice_fits (by omega) (by omega))
    rw [hik, ← hG, ← hzz, ← hROW] at h
    rw [show (es.length : Int) + 1 - (i : Int) = ((es.length + 1 - i : Nat) : Int) by omega]
    exact h
  obtain ⟨c1, hc1⟩ : ∃ c1 : Array Value, c1 = (ROW.toList.take (i * 5) ++ x.cells ++ ROW.toList.drop (i * 5 + x.cells.length)).toArray := ⟨_, rfl⟩
  obtain ⟨c2, hc2⟩ : ∃ c2 : Array Value, c2 = (c1.toList.take ((i + 1) * 5) ++ flatI (es.drop i) ++ c1.toList.drop ((i + 1) * 5 + (flatI (es.drop i)).length)).toArray := ⟨_, rfl⟩
  have hRl : ROW.toList.length = G * 5 := by rw [Array.length_toList, hRs]
  have hz1 : c1.toList.length = G * 5 := by
    rw [hc1]
    simp only [List.toList_toArray, List.length_append, List.length_take, List.length_drop, hRl, It.cells_length]
    omega
  have hz2 : c2.toList.length = G * 5 := by
    rw [hc2]
    simp only [List.toList_toArray, List.length_append, List.length_take, List.length_drop, hz1, hdl]
    omega
  obtain ⟨W1, hW1⟩ : ∃ W1, W1 = w.drew.alloc (.cells ROW 32) := ⟨_, rfl⟩
  have hN : W1.heap[w.heap.size]? = some (.cells ROW 32 (0, 0)) := by rw [hW1]; exact heap_new w.drew _
  have hN1 : (W1.setRow w.heap.size c1).heap[w.heap.size]? = some (.cells c1 32 (0, 0)) := setRow_heap W1 _ ROW c1 _ _ hN
  have hvl : vb < w.heap.size := hx.lt
  have hOb : ∀ k, k < w.heap.size → W1.heap[k]? = w.heap[k]? := fun k hk => by rw [hW1]; exact heap_alloc_old w.drew _ hk
  have hcpA : ∀ W : World, W.heap = W1.heap → ∀ ty dc, (Builtin.copy_ #[25, 25] ty #[.slice (some ⟨w.heap.size, i * 5, none⟩) (es.length + 1 - i) dc, .slice (some ⟨vb, 0, none⟩) 1 1]).run Try.prog W = .ok (goInt 1) (W.setRow w.heap.size c1) := fun W hW ty dc => by
    rw [hc1]
    refine run_copy_rowN W _ _ ty 32 5 w.heap.size (i * 5) _ dc ⟨vb, 0, none⟩ 1 1 ROW 32 x.cells 1 Try.underlying25 infoI5 (by rw [hW]; exact hN)
      (by simp only [Nat.min_def]; split <;> omega) rfl (fun j v hj => ?_) (by rw [hRs, It.cells_length]; omega) x.cells_one
    rw [addr_add, Nat.zero_add]
    refine (World.cell?_of_block (w := w) (by rw [hW]; exact hOb vb hvl)).trans (hx.cell j v (by rw [← Array.getElem?_toList]; exact hj))
  have hcpB : ∀ W : World, W.heap = (W1.setRow w.heap.size c1).heap → ∀ ty dc sc, (Builtin.copy_ #[25, 25] ty #[.slice (some ⟨w.heap.size, (i + 1) * 5, none⟩) (es.length - i) dc, .slice (some ⟨g, i * 5, none⟩) (es.length - i) sc]).run Try.prog W = .ok (goInt ((es.length - i : Nat) : Int)) (W.setRow w.heap.size c2) := fun W hW ty dc sc => by
    rw [hc2]
    refine run_copy_rowN W _ _ ty 32 5 w.heap.size ((i + 1) * 5) (es.length - i) dc ⟨g, i * 5, none⟩ (es.length - i) sc c1 32 (flatI (es.drop i)) (es.length - i) Try.underlying25 infoI5 (by rw [hW]; exact hN1)
      (by simp only [Nat.min_def]; split <;> omega) hdl (fun j v hj => ?_) (by rw [hdl, ← Array.length_toList, hz1]; omega) (flatI_one _)
    rw [addr_add]
    refine (World.cell?_of_block (w := w) (by rw [hW]; exact (setRow_other W1 _ g c1 (by omega)).trans (hOb g hgl))).trans ?_
    rw [hat, ← List.getElem?_drop, flatI_drop]
    exact hj
  have hfin : ∀ W : World, W.heap = (W1.setRow w.heap.size c2).heap → W.os = w.os → W.tape = w.tape → W.output = w.output → RowP w B (.slice (some ⟨g, 0, none⟩) es.length es.length) (es.take i ++ x :: es.drop i) (.slice (some ⟨w.heap.size, 0, none⟩) (es.length + 1) G) W := by
    intro W hW h1 h2 h3
    have hlen : (es.take i ++ x :: es.drop i).length = es.length + 1 := by
      rw [List.length_append, List.length_cons, List.length_take, List.length_drop]; omega
    have hs1 : W1.heap.size = w.heap.size + 1 := by rw [hW1]; simp
    refine ⟨?_, ⟨h1, h2, h3, by rw [hW, setRow_size, hs1]; omega, fun k hk hn => ?_⟩, fun k hk => ?_⟩
    · unfold Its
      rw [hlen]
      refine ⟨by rw [flatI_length, hlen], .inr ⟨w.heap.size, G, c2, rfl, hBw, by rw [hW]; exact setRow_heap W1 _ ROW c2 _ _ hN, hGn, hG63, by rw [← Array.length_toList, hz2], ?_⟩⟩
      have e1 : c1.toList.take ((i + 1) * 5) = flatI (es.take i) ++ x.cells := by
        have e0 : ROW.toList.take (i * 5) = flatI (es.take i) := by
          rw [hROW]
          simp only [Array.toList_append, List.toList_toArray, List.append_assoc]
          exact List.take_left' htl
        rw [hc1, List.toList_toArray, e0]
        exact List.take_left' (by rw [List.length_append, htl, It.cells_length]; omega)
      rw [hc2, List.toList_toArray, e1, List.append_assoc (flatI (es.take i)), laid_between (Nat.le_of_lt hi)]
      refine List.take_left' ?_
      rw [flatI_length, hlen]
    · rw [hW]
      exact (setRow_other W1 _ k c2 (by omega)).trans (hOb k hk)
    · injection hk with hk
      exact .inr (by show w.heap.size ≤ k; rw [← hk]; exact Nat.le_refl _)
  have hb1 : ¬ ((i : Int) = (es.length : Int)) := by omega
  have hb2 : (i : Int) ≤ (es.length : Int) := by omega
  have hb3 : (i : Int) ≤ (es.length : Int) + 1 := by omega
  have hb0 : (0 : Int) ≤ (i : Int) + 1 := by omega
  have hb4 : ¬ (es.length = i) := by omega
  have hb5 : ¬ (G = i + 1) := by omega
  have hb7 : ¬ (G = i) := by omega
  have hb6 : (es.length : Int) < (es.length : Int) + 1 := by omega
  have hw1 : IntKind.i64.wrap ((i : Int) + 1) = (i : Int) + 1 := by rw [IntKind.wrap_i64]; omega
  have htn : ((i : Int) + 1).toNat = i + 1 := by omega
  have hGm : G ≤ 9223372036854775807 := by unfold maxLen at hG63; omega
  have HF := hide hfin
  have HA := hide hcpA
  have HBB := hide hcpB
  have H1 := hide hW1
  have h1 := HA.out (w.alloc (.cells ROW 32)).drew (by rw [H1.out]; rfl) 3 (G - i)
  have HW := hide (show (w.drew.alloc (.cells ROW 32)) = (w.alloc (.cells ROW 32)).drew from rfl)
  clear hfin hcpA hcpB hc1 hc2 hz1 hz2 hat htl hdl hcl hcs htk hg hx hW1 hN hN1 hOb hold hzs hzb hi0 hz0 hRl hRs hROW hG hzz hz5 hcur hik hG63
  go_enter Try.func21, Try.ntmps21
  go_wp2_with (at_builtin; refine Lib.wpList_append_run _ rfl (.tmp 34) (.tmp 39) _ _ rfl _ _ rfl rfl _ _ (hrz _) ?_)
  go_region_law (refine step_copy_runI rfl (.tmp 50) (.tmp 53) 25 25 rfl (.slice (some ⟨w.heap.size, (i + 1) * 5, none⟩) (es.length - i) (G - (i + 1))) (.slice (some ⟨g, i * 5, none⟩) (es.length - i) (es.length - i)) (by simp [Act.eval, Act.put]) (by simp [Act.eval, Act.put]) (HBB.out ((w.alloc (.cells ROW 32)).drew.setRow w.heap.size c1).drew (by rw [H1.out]; rfl) 3 (G - (i + 1)) (es.length - i)) ?_)
  go_wp2
  go_ret
  refine ⟨_, rfl, HF.out _ ?_ rfl rfl rfl⟩
  have h9 := setRow_setRow (w.drew.alloc (.cells ROW 32)) w.heap.size c1 c2
  rw [H1.out, ← h9]
  rfl
/-- Wherever it is laid. -/
theorem insert_any {w : World} {B vb i : Nat} {v : Value} {es : List It} {x : It} (h : Its 32 w B v es) (hl : es.length ≤ 100000) (hB : B ≤ w.heap.size) (hx : Blk w vb 32 x.cells.toArray) (hi : i ≤ es.length) (hne : ∀ k, v.ownBlock = some k → vb ≠ k) :
    Calls Try.prog 21 #[v, .int .i64 (i : Int), .slice (some ⟨vb, 0, none⟩) 1 1] w (InsP w B v (es.take i ++ x :: es.drop i)) := by
  rcases Nat.lt_or_ge i es.length with hlt | hge
  · obtain ⟨g, cap, cur, rfl, hBg, hg, hnc, hcm, hcs, htk⟩ := h.open (by omega)
    by_cases hroom : es.length + 1 ≤ cap
    · exact insert_room hBg hg hcm hcs htk hl hx hlt hroom (hne g rfl)
    · exact insert_grow hB hBg hg hcm hcs htk hl hx hlt hnc hroom
  · obtain rfl : i = es.length := by omega
    have := insert_end h hl hB hx
    rw [List.take_length, List.drop_length]
    exact this
end Go.Proofs.Ytkcomkllnhdohaa
