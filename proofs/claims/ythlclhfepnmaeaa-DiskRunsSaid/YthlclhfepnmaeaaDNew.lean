/-
  Contract: a new disk.
-/
import Derived.Test.YthlclhfepnmaeaaDGet
import Derived.Deep.OwnRows
import Derived.RegionTactic
import Derived.BigRegion
namespace Go.Proofs.Ythlclhfepnmaeaa
open Go.RowKit

theorem infoRg : (Try.prog.info? 56).map (fun i => (i.zero, i.size, i.bytes)) = some (some (.agg #[.slice none 0 0, .slice none 0 0, .bool false, .int .i64 0]), 4, 64) := by kernel_rfl
theorem infoSc : (Try.prog.info? 60).map (fun i => (i.zero, i.size, i.bytes)) = some (some (.agg (blk8 zsec)), 64, 64) := by kernel_rfl
theorem infoCh : (Try.prog.info? 64).map (fun i => (i.zero, i.size, i.bytes)) = some (some (.agg (ccells ⟨0, zsec, zsec⟩).toArray), 129, 136) := by kernel_rfl

/-- make([]T, n), T of any number of cells. -/
theorem run_make_many {P : Program} (t e : TypeId) (cells : Array Value) (size bytes : Nat) (ht : P.underlying t = some (.slice e)) (hinfo : (P.info? e).map (fun i => (i.zero, i.size, i.bytes)) = some (some (.agg cells), size, bytes))
    (n : Nat) (hbytes : bytes * n ≤ 281474976710656) (h63 : n ≤ 281474976710656) (w : World) :
    (Instr.makeSlice t (.int .i64 (n : Int)) (.int .i64 (n : Int))).run P w = .ok (.slice (some ⟨w.heap.size, 0, none⟩) n n) (w.alloc (.cells (madeCells cells (n * size)) e)) := by
  obtain ⟨i, hi, hz, hs, hb⟩ := info_parts hinfo
  have hb' : (i.bytes : Int) * (n : Int) ≤ 281474976710656 := by
    have h : ((i.bytes * n : Nat) : Int) ≤ 281474976710656 := by rw [hb]; omega
    rwa [Int.natCast_mul] at h
  have hr := run_make (P := P) w t e i (.agg cells) ht hi hz .i64 .i64 n n (by omega) (Int.le_refl _) hb' (by omega)
  simp only [Int.toNat_natCast, hs] at hr
  exact hr
/-- The row of regions, k of them given their sectors, which lie from block B on. -/
def newCell (B size k j : Nat) : Value :=
  if j % 4 = 0 then (if j / 4 < k then .slice (some ⟨B + j / 4, 0, none⟩) size size else .slice none 0 0) else if j % 4 = 1 then .slice none 0 0 else if j % 4 = 2 then .bool false else .int .i64 0
def newRow (B n size k : Nat) : Array Value := (Array.range (n * 4)).map (newCell B size k)
theorem newRow_get (B n size k j : Nat) (h : j < n * 4) : (newRow B n size k)[j]? = some (newCell B size k j) := by simp [newRow, h]
theorem newRow_size (B n size k : Nat) : (newRow B n size k).size = n * 4 := by simp [newRow]
theorem newRow_made (B n size : Nat) : madeCells #[.slice none 0 0, .slice none 0 0, .bool false, .int .i64 0] (n * 4) = newRow B n size 0 := by
  apply Array.ext
  · simp [madeCells, newRow]
  · intro j h1 h2
    have hj : j % 4 = 0 ∨ j % 4 = 1 ∨ j % 4 = 2 ∨ j % 4 = 3 := by omega
    rcases hj with e | e | e | e <;> simp [madeCells, newRow, newCell, e]
theorem newRow_set (B n size k : Nat) (hk : k < n) : (newRow B n size k).setIfInBounds (k * 4) (.slice (some ⟨B + k, 0, none⟩) size size) = newRow B n size (k + 1) := by
  apply Array.ext_getElem?
  intro j
  rw [Array.getElem?_setIfInBounds, newRow_size]
  by_cases hj : j < n * 4
  · rw [newRow_get _ _ _ _ _ hj, newRow_get _ _ _ _ _ hj]
    by_cases e : k * 4 = j
    · subst e
      rw [if_pos rfl, if_pos hj]
      simp [newCell]
    · rw [if_neg e]
      unfold newCell
      by_cases e0 : j % 4 = 0
      · have h1 : j / 4 < k ↔ j / 4 < k + 1 := by omega
        simp only [e0, if_true, h1]
      · simp only [e0, if_false]
  · rw [Array.getElem?_eq_none (by rw [newRow_size]; omega), Array.getElem?_eq_none (by rw [newRow_size]; omega), if_neg (by omega)]
theorem made_zeros (n : Nat) : madeCells (blk8 zsec) (n * 64) = blk8 (List.replicate (n * 64) 0) := by
  apply Array.ext
  · simp [madeCells, blk8_size]
  · intro j h1 h2
    have e1 : (blk8 zsec)[j % 64]? = some (.int .u8 0) := by
      have hz : ∀ i (h : i < zsec.length), zsec[i] = 0 := fun i h => List.getElem_replicate ..
      rw [blk8_get _ _ (by simp [zsec]; omega), hz]
      rfl
    have e2 : (blk8 (List.replicate (n * 64) 0))[j]? = some (.int .u8 0) := by
      have hj : j < n * 64 := by simpa [madeCells] using h1
      rw [blk8_get _ _ (by simpa using hj)]
      simp
    rw [Array.getElem?_eq_getElem h2] at e2
    injection e2 with e2
    rw [e2]
    have hs : (blk8 zsec).size = 64 := by rw [blk8_size]; rfl
    simp only [madeCells, Array.getElem_map, Array.getElem_range, hs]
    rw [Array.getElem!_eq_getD, Array.getD_eq_getD_getElem?, e1]
    rfl
/-- A new disk's label. -/
def newLab (B n k : Nat) : Nat := if k = B + 1 then 1 else if k = B then 2 else if B + 2 ≤ k ∧ k < B + 2 + n then 3 + (k - (B + 2)) * 2 else 0

set_option maxHeartbeats 2000000 in
theorem new_yes (n size : Nat) (w : World) (h1 : 1 ≤ n) (h2 : n ≤ 64) (h3 : 1 ≤ size) (h4 : size ≤ 65536) :
    Calls Try.prog 5 #[.int .i64 (n : Int), .int .i64 (size : Int)] w fun e w' => ∃ g lab, e = .returned (ptr g) ∧ DkAt w' lab g ⟨size, List.replicate n (Rg.new size), 0⟩ ∧ (∀ k, lab k ≠ 0 → w.heap.size ≤ k) ∧ Below w.heap.size w w' := by
  have hm1 := fun w => run_make_many (P := Try.prog) 50 56 _ 4 64 Try.underlying50 infoRg n (by omega) (by omega) w
  have hm2 := fun w => run_make_many (P := Try.prog) 53 60 _ 64 64 Try.underlying53 infoSc size (by omega) (by omega) w
  have d1 : decide ((n : Int) < 1) = false := by simp; omega
  have d2 : decide ((64 : Int) < (n : Int)) = false := by simp; omega
  have d3 : decide ((size : Int) < 1) = false := by simp; omega
  have d4 : decide ((65536 : Int) < (size : Int)) = false := by simp; omega
  rw [newRow_made (w.heap.size + 2) n size] at hm1
  simp only [made_zeros] at hm2
  go_enter Try.func5, Try.ntmps5
  go_wp2
  go_loopw [30] (fun i wr => ∃ k : Nat, k ≤ n ∧ i = .int .i64 k ∧ wr.heap.size = w.heap.size + 2 + k ∧ Blk wr (w.heap.size + 1) 52 #[.slice (some ⟨w.heap.size, 0, none⟩) n n, .int .i64 0] ∧ Blk wr w.heap.size 56 (newRow (w.heap.size + 2) n size k) ∧
      (∀ j, j < k → Blk wr (w.heap.size + 2 + j) 60 (blk8 (List.replicate (size * 64) 0))) ∧ Below w.heap.size w wr) (fun i _ => n - (intOf i).toNat)
  case atStart =>
    refine ⟨0, by omega, rfl, by simp, ?_, ?_, fun j hj => absurd hj (by omega), ((Below.refl _ w).alloc (Nat.le_refl _) _).alloc (by simp) _⟩
    · exact Blk.new_ _ _ _ (by simp)
    · exact (Blk.new_ w _ _ rfl).alloc _
  case round =>
    obtain ⟨k, hk, rfl, hsz, hb1, hb2, hbs, hbe⟩ := hrel
    by_cases hlt : k < n
    · have hc0 := hb1.cell 0 _ rfl
      have hc1 := hb2.cell (k * 4) _ (newRow_get _ _ _ _ _ (by omega))
      have hf1 := hb2.frozen (k * 4)
      have hk1 : (k : Int) < (n : Int) := by omega
      have ha0 := (hb1.alloc (.cells (blk8 (List.replicate (size * 64) 0)) 60)).cell 0 _ rfl
      have ha1 := (hb2.alloc (.cells (blk8 (List.replicate (size * 64) 0)) 60)).cell (k * 4) _ (newRow_get _ _ _ _ _ (by omega))
      have haf := (hb2.alloc (.cells (blk8 (List.replicate (size * 64) 0)) 60)).frozen (k * 4)
      have HB1 := hide hb1
      have HB2 := hide hb2
      have HBS := hide hbs
      have HBE := hide hbe
      have HSZ := hide hsz
      clear hb1 hb2 hbs hbe hsz
      go_wp2
      go_region
      all_goals
        go_wp2
        go_round
        case rel =>
          have hB := HB2.out.alloc (.cells (blk8 (List.replicate (size * 64) 0)) 60)
          refine ⟨k + 1, by omega, by go_num, ?_, ?_, ?_, ?_, ?_⟩
          · have := HSZ.out; simp [World.setCell]; omega
          · exact ((HB1.out.alloc _).far (p := ⟨w.heap.size, k * 4, none⟩) (by simp) _).drew
          · have h2 := hB.set_ (k * 4) (.slice (some ⟨w.heap.size + 2 + k, 0, none⟩) size size)
            rw [newRow_set _ _ _ _ hlt, ← HSZ.out] at h2
            exact h2.drew
          · intro j hj
            by_cases e : j = k
            · subst e
              rw [← HSZ.out]
              exact (Blk.far (p := ⟨w.heap.size, j * 4, none⟩) (Blk.new_ wr _ _ rfl) (by have := HSZ.out; simp; omega) _).drew
            · exact (((HBS.out j (by omega)).alloc _).far (p := ⟨w.heap.size, k * 4, none⟩) (by simp; omega) _).drew
          · exact ((HBE.out.alloc HBE.out.size _).setCell (p := ⟨w.heap.size, k * 4, none⟩) (Nat.le_refl _) _).drew
        case measure => simp [intOf]; omega
    · obtain rfl : k = n := by omega
      go_wp2
      go_ret
      refine ⟨w.heap.size + 1, newLab w.heap.size k, rfl, ?_, ?_, hbe⟩
      · refine ⟨fun i hi => ?_, by simp [newLab], ⟨h3, h4, by simpa using h1, by simpa using h2⟩, w.heap.size, _, by simp [newLab], by simpa using hb1, hb2, by simp [newRow_size], fun i r hi => ?_⟩
        · rw [hsz]
          unfold newLab at hi
          split at hi
          · omega
          · split at hi
            · omega
            · split at hi
              · omega
              · exact absurd rfl hi
        · have hik : i < k := by simpa using (List.getElem?_eq_some_iff.1 hi).1
          obtain rfl : Rg.new size = r := by
            rw [List.getElem?_replicate, if_pos hik] at hi
            exact Option.some.inj hi
          refine ⟨w.heap.size + 2 + i, .slice none 0 0, ?_, ?_, ?_, ?_, ?_, ?_, ⟨rfl, .inl ⟨rfl, rfl⟩⟩, (fun _ h => by cases h), Rg.new_fit size⟩
          · rw [newRow_get _ _ _ _ _ (by omega)]
            simp [newCell, hik]
          · rw [newRow_get _ _ _ _ _ (by omega)]
            simp [newCell, show (i * 4 + 1) % 4 = 1 by omega]
          · rw [newRow_get _ _ _ _ _ (by omega)]
            simp [newCell, show (i * 4 + 2) % 4 = 2 by omega, Rg.new]
          · rw [newRow_get _ _ _ _ _ (by omega)]
            simp [newCell, show (i * 4 + 3) % 4 = 3 by omega, Rg.new]
          · unfold newLab
            rw [if_neg (by omega), if_neg (by omega), if_pos (by omega)]
            omega
          · have := hbs i hik
            rw [← zeros_flat] at this
            exact this
      · intro i hi
        unfold newLab at hi
        split at hi
        · omega
        · split at hi
          · omega
          · split at hi
            · omega
            · exact absurd rfl hi
/-- A disk that there can't be. -/
theorem new_no (n size : Int) (w : World) (h : n < 1 ∨ 64 < n ∨ size < 1 ∨ 65536 < size) :
    Calls Try.prog 5 #[.int .i64 n, .int .i64 size] w fun e w' => e = .returned (.pointer none) ∧ w = w' := by
  by_cases h1 : n < 1
  · clear h
    go_enter Try.func5, Try.ntmps5
    go_wp2
    go_ret
    exact ⟨rfl, rfl⟩
  by_cases h2 : 64 < n
  · clear h
    go_enter Try.func5, Try.ntmps5
    go_wp2
    go_ret
    exact ⟨rfl, rfl⟩
  by_cases h3 : size < 1
  · clear h
    go_enter Try.func5, Try.ntmps5
    go_wp2
    go_ret
    exact ⟨rfl, rfl⟩
  have h4 : 65536 < size := by omega
  clear h
  go_enter Try.func5, Try.ntmps5
  go_wp2
  go_ret
  exact ⟨rfl, rfl⟩
end Go.Proofs.Ythlclhfepnmaeaa
