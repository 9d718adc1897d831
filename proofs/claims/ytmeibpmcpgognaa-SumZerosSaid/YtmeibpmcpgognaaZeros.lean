/-
  The walk of SumZeros.
-/
import Derived.Test.YtmeibpmcpgognaaFit
namespace Go.Proofs.Ytmeibpmcpgognaa
open Go.RowKit Crc

theorem w32_byteOf (c : BitVec 32) (k : Nat) (n : Int) (hn : n = 2 ^ (8 * k)) : w32 c / n % 256 = ((Crc.byteOf c k).toNat : Int) := by
  unfold w32 Crc.byteOf
  rw [UInt8.toNat_ofBitVec, BitVec.toNat_setWidth, BitVec.toNat_ushiftRight, Nat.shiftRight_eq_div_pow, hn]
  simp
theorem byteOf0 (c : BitVec 32) : w32 c % 256 = ((Crc.byteOf c 0).toNat : Int) := by
  have := w32_byteOf c 0 1 (by decide)
  rwa [Int.ediv_one] at this
theorem byteOf1 (c : BitVec 32) : w32 c / 256 % 256 = ((Crc.byteOf c 1).toNat : Int) := w32_byteOf c 1 256 (by decide)
theorem byteOf2 (c : BitVec 32) : w32 c / 65536 % 256 = ((Crc.byteOf c 2).toNat : Int) := w32_byteOf c 2 65536 (by decide)
theorem byteOf3 (c : BitVec 32) : w32 c / 16777216 % 256 = ((Crc.byteOf c 3).toNat : Int) := w32_byteOf c 3 16777216 (by decide)

set_option maxHeartbeats 1000000 in
theorem zeros_walk (v : Value) (l : List UInt8) (w : World) (hm : l.length ≤ maxLen) (hv : Rd w v (u8s l)) :
    Calls Try.prog 5 #[v] w fun e w' => e = .returned (.bool true) ∧ Below w.heap.size w w' := by
  obtain ⟨A, c, rfl, hc, hA⟩ := id hv
  rw [u8s_length] at hA hc hv ⊢
  have hm' := hm
  unfold maxLen at hm
  by_cases hlong : 300 < l.length
  · go_enter Try.func5, Try.ntmps5
    go_wp2_with (go_at_call 8; refine (fit_any _).mono ?_; rintro e w1 ⟨rfl, hb1⟩)
    go_ret
    exact ⟨rfl, hb1⟩
  · go_enter Try.func5, Try.ntmps5
    go_wp2_with (go_at_call 8; refine (fit_any _).mono ?_; rintro e w1 ⟨rfl, hb1⟩)
    have hr1 := hide (hv.below hb1)
    have ha1 := hide (show Abv w w1 from hb1)
    clear hb1 hv hA
    (with_reducible refine (of_blk1 (v := .slice A l.length c) (l := l) ?_ ?_ ?_).mono ?_)
    · exact heap_at _ _ (by simp)
    · exact hm'
    · exact hr1.out.alloc _
    rintro e w' ⟨rfl, rfl⟩
    have HO := hide (crc_own l)
    have HD := hide (crc_last_other l (a := 1) (b := 0) (by decide))
    generalize hC : crc l = C at *
    have k0 := byteOf0 C
    have k1 := byteOf1 C
    have k2 := byteOf2 C
    have k3 := byteOf3 C
    clear hC
    go_wp2_with fail
    (with_reducible refine (of_blk2 (v := .slice A l.length c) (v2 := .slice (some ⟨w1.heap.size + 1, 0, none⟩) 4 4) (l := l) (l2 := [Crc.byteOf C 0, Crc.byteOf C 1, Crc.byteOf C 2, Crc.byteOf C 3]) ?_ ?_ ?_ ?_ ?_).mono ?_)
    · exact heap_at _ _ (by simp)
    · exact hm'
    · exact (by unfold maxLen; simp)
    · exact ((hr1.out.alloc _).alloc _).alloc _
    · exact (Rd.new_ _ _ _ _ (by simp) rfl (Nat.le_refl _) rfl).alloc _
    rintro e w' ⟨rfl, rfl⟩
    rw [HO.out]
    have hne1 : (w32 (crc (l ++ [1])) != w32 (crc (l ++ [0]))) = true := by
      rw [bne_iff_ne]; exact fun h => HD.out (w32_inj.1 h)
    have hres : w32 (0x2144DF1C#32) = (558161692 : Int) := by decide
    rw [hres]
    clear k0 k1 k2 k3 HO HD hres
    go_wp2_with fail
    (with_reducible refine (of_blk2 (v := .slice A l.length c) (v2 := .slice (some ⟨w1.heap.size + 1 + 1 + 1, 0, none⟩) 1 1) (l := l) (l2 := [1]) ?_ ?_ ?_ ?_ ?_).mono ?_)
    · exact heap_at _ _ (by simp)
    · exact hm'
    · exact (by unfold maxLen; simp)
    · exact ((((hr1.out.alloc _).alloc _).alloc _).alloc _).alloc _
    · exact (Rd.new_ _ _ _ _ (by simp) rfl (Nat.le_refl _) rfl).alloc _
    rintro e w' ⟨rfl, rfl⟩
    go_wp2_with fail
    (with_reducible refine (of_blk2 (v := .slice A l.length c) (v2 := .slice (some ⟨w1.heap.size + 1 + 1 + 1 + 1 + 1, 0, none⟩) 1 1) (l := l) (l2 := [0]) ?_ ?_ ?_ ?_ ?_).mono ?_)
    · exact heap_at _ _ (by simp)
    · exact hm'
    · exact (by unfold maxLen; simp)
    · exact ((((((hr1.out.alloc _).alloc _).alloc _).alloc _).alloc _).alloc _).alloc _
    · exact (Rd.new_ _ _ _ _ (by simp) rfl (Nat.le_refl _) rfl).alloc _
    rintro e w' ⟨rfl, rfl⟩
    go_wp2_with fail
    go_ret
    exact ⟨rfl, by repeat (first | exact ha1.out | refine Abv.alloc ?_ _)⟩
end Go.Proofs.Ytmeibpmcpgognaa
