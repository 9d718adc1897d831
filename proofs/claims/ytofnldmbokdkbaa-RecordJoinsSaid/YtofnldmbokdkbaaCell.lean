/-
  Contract of what the statements of stage 6 make of a byte: cell; copy of numbers.
-/
import Derived.Test.YtofnldmbokdkbaaArg
import Derived.Test.YtofnldmbokdkbaaTake
import Derived.Test.YtofnldmbokdkbaaCRead
import Derived.Lib.SliceRun
import Derived.Laws.CopyRow
import Derived.Test.YtofnldmbokdkbaaTurns
import Derived.Test.YtofnldmbokdkbaaCopy
namespace Go.Proofs.Ytofnldmbokdkbaa
open Go.RowKit

set_option linter.unusedSimpArgs false
set_option linter.unusedVariables false

theorem conv_blk {w : World} {g : Nat} {t : TypeId} {l : List UInt8} (n : Nat) (hn : l.length = n) (h : Blk w g t (blk8 l)) : (convert 25 9 (.slice (some ⟨g, 0, none⟩) n n)).run Try.prog w = .ok (.string ⟨l.toArray⟩) w := by
  subst hn
  exact conv_rd (h.rd8 rfl (Nat.le_refl _))
def z40 : List UInt8 := List.replicate 40 0
def z256 : List UInt8 := List.replicate 256 0
theorem z40_length : z40.length = 40 := List.length_replicate
theorem z256_length : z256.length = 256 := List.length_replicate
theorem run_make40 (W : World) : (Instr.makeSlice 25 (.int .i64 40) (.int .i64 40)).run Try.prog W = .ok (.slice (some ⟨W.heap.size, 0, none⟩) 40 40) (W.alloc (.cells (blk8 z40) 5)) :=
  run_make8 (P := Try.prog) 25 5 Try.underlying25 info8 40 (by omega) W
theorem run_make256 (W : World) : (Instr.makeSlice 25 (.int .i64 256) (.int .i64 256)).run Try.prog W = .ok (.slice (some ⟨W.heap.size, 0, none⟩) 256 256) (W.alloc (.cells (blk8 z256) 5)) :=
  run_make8 (P := Try.prog) 25 5 Try.underlying25 info8 256 (by omega) W
/-- A slot's bytes of a byte. -/
def cellL (x : UInt8) : List UInt8 := (z40.set 0 1).set 7 x
theorem cellL_length (x : UInt8) : (cellL x).length = 40 := by rw [cellL, List.length_set, List.length_set, z40_length]
def cellB (x : UInt8) : ByteArray := if x = 0 then ⟨#[]⟩ else ⟨(cellL x).toArray⟩
theorem cellB_size (x : UInt8) : (cellB x).size = 0 ∨ (cellB x).size = 40 := by
  unfold cellB
  split
  · exact .inl rfl
  · exact .inr (by show (cellL x).toArray.size = 40; simp [cellL_length])
/-- An image's bytes of a byte. -/
def imgL (x : UInt8) : List UInt8 := (z256.set 3 x).set 200 x
theorem imgL_length (x : UInt8) : (imgL x).length = 256 := by rw [imgL, List.length_set, List.length_set, z256_length]
def imgB (x : UInt8) : ByteArray := if x = 0 then ⟨#[]⟩ else ⟨(imgL x).toArray⟩
theorem imgB_size (x : UInt8) : (imgB x).size = 0 ∨ (imgB x).size = 256 := by
  unfold imgB
  split
  · exact .inl rfl
  · exact .inr (by show (imgL x).toArray.size = 256; simp [imgL_length])
theorem zero_byte {x : UInt8} (h : ¬ x = 0) : ((x.toNat : Int) == 0) = false ∧ 0 < x.toNat := by
  have : x.toNat ≠ 0 := fun e => h (UInt8.toNat_inj.1 (by rw [e]; rfl))
  exact ⟨by rw [beq_eq_false_iff_ne]; omega, by omega⟩
theorem cell_any (x : UInt8) (w : World) : Calls Try.prog 19 #[.int .u8 (x.toNat : Int)] w fun e w' => e = .returned (.string (cellB x)) ∧ Below w.heap.size w w' := by
  unfold cellB
  by_cases h : x = 0
  · subst h
    rw [if_pos rfl]
    go_enter Try.func19, Try.ntmps19
    go_wp2
    go_ret
    exact ⟨rfl, Below.refl _ _⟩
  · rw [if_neg h]
    obtain ⟨h1, h2⟩ := zero_byte h
    have hmk := run_make40
    have B0 : Blk (w.alloc (.cells (blk8 z40) 5)) w.heap.size 5 (blk8 z40) := heap_new w _
    have c0 := B0.cell 0 _ (blk8_get z40 0 (by rw [z40_length]; omega))
    have c7 := B0.cell 7 _ (blk8_get z40 7 (by rw [z40_length]; omega))
    have f0 := B0.frozen 0
    have f7 := B0.frozen 7
    have hB := hide ((Below.refl w.heap.size w).alloc (Nat.le_refl _) (.cells (blk8 z40) 5))
    have hcells : ((blk8 z40).setIfInBounds 0 (.int .u8 1)).setIfInBounds 7 (.int .u8 (x.toNat : Int)) = blk8 (cellL x) := by
      have e := blk8_set z40 0 1
      rw [show ((1 : UInt8).toNat : Int) = 1 from rfl] at e
      rw [e, blk8_set]
      rfl
    have B2 : Blk (w.alloc (.cells (((blk8 z40).setIfInBounds 0 (.int .u8 1)).setIfInBounds 7 (.int .u8 (x.toNat : Int))) 5)) w.heap.size 5 (blk8 (cellL x)) := by
      rw [hcells]
      exact heap_new w _
    have hcv := conv_blk 40 (by simp [cellL_length]) B2
    clear h hcells
    go_enter Try.func19, Try.ntmps19
    go_wp2
    go_ret
    exact ⟨rfl, (Below.refl _ _).alloc (Nat.le_refl _) _⟩
theorem oneCell_u64s (l : List Nat) : ∀ u ∈ u64s l, u.oneCell' = true := by
  intro u hu
  simp only [u64s, List.mem_map] at hu
  obtain ⟨x, _, rfl⟩ := hu
  rfl
/-- copy of numbers into a block of the call's own. -/
theorem run_copy64 {w : World} {g : Nat} {l m : List Nat} {A : Option Addr} {n c : Nat} (hb : Blk w g 44 (u64s l).toArray) (hl : l.length = 6) (hx : Rd w (.slice A n c) (u64s m)) (hm : m.length = n) :
    ∃ w', (Builtin.copy_ #[22, 22] 3 #[.slice (some ⟨g, 0, none⟩) 6 6, .slice A n c]).run Try.prog w = .ok (.int .i64 (min n 6 : Nat)) w' ∧ Blk w' g 44 (u64s (m.take 6 ++ l.drop (min n 6))).toArray ∧ Turns (· = g) w w' := by
  obtain ⟨i, hi, hz0, hz1, hz2⟩ := info_parts infoU64
  have hfirst := run_firstCells_rd (P := Try.prog) hx (Nat.min_le_left n 6)
  have ht : (u64s m).take (min n 6) = u64s (m.take 6) := by
    rw [u64s, u64s, List.map_take]
    apply List.ext_getElem?
    intro j
    rw [List.getElem?_take, List.getElem?_take]
    by_cases h1 : j < 6
    · by_cases h2 : j < n
      · rw [if_pos (by omega), if_pos h1]
      · rw [if_neg (by omega), if_pos h1, List.getElem?_eq_none (by simp; omega)]
    · rw [if_neg (by omega), if_neg h1]
  rw [ht] at hfirst
  have hlt : (u64s (m.take 6)).length = min n 6 := by rw [u64s_length, List.length_take, hm]; omega
  have hst := run_storeCells_at Try.prog g 0 44 (u64s (m.take 6)) 0 (u64s l).toArray w hb (by rw [hlt, List.size_toArray, u64s_length, hl]; omega) (oneCell_u64s _)
  have hlen := run_lenOf_slice (P := Try.prog) (w := w) A n c
  have hmin : Nat.min n 6 = min n 6 := rfl
  refine ⟨w.setRow g (((u64s l).toArray.toList.take (0 + 0) ++ u64s (m.take 6) ++ (u64s l).toArray.toList.drop (0 + 0 + (u64s (m.take 6)).length)).toArray), ?_, ?_, ?_⟩
  · rw [← hmin] at hfirst ⊢
    simp [Builtin.copy_, run_underlying Try.underlying22, sizeOf, typeInfo, hi, hz1, hlen, hfirst, hst, goInt]
  · refine Eq.trans (setRow_heap w g (u64s l).toArray _ 44 _ hb) ?_
    congr 2
    rw [hlt, u64s_append]
    simp [u64s]
  · exact ⟨rfl, rfl, rfl, by simp [World.setRow], fun k _ hk => setRow_other w g k _ hk⟩
def z6 : List Nat := List.replicate 6 0
theorem z6_length : z6.length = 6 := rfl
/-- make([]uint64, 6). -/
theorem run_make6 (W : World) : (Instr.makeSlice 22 (.int .i64 6) (.int .i64 6)).run Try.prog W = .ok (.slice (some ⟨W.heap.size, 0, none⟩) 6 6) (W.alloc (.cells (u64s z6).toArray 44)) := by
  have := run_make_row' (P := Try.prog) 22 44 (.int .u64 0) 8 Try.underlying22 infoU64 rfl .i64 .i64 6 (by omega) (by omega) W
  have e : madeCells #[Value.int .u64 0] 6 = (u64s z6).toArray := by
    apply Array.ext'
    rw [toList_madeCells_one]
    simp [u64s, z6]
  rw [e] at this
  exact this
end Go.Proofs.Ytofnldmbokdkbaa
