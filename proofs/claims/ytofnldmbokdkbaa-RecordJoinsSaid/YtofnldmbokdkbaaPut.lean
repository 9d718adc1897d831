/-
  Contracts: Put and Text of package pack.
-/
import Derived.Test.YtofnldmbokdkbaaClone
import Derived.Lib.AppendStr
namespace Go.Proofs.Ytofnldmbokdkbaa
open Go.RowKit

theorem Mine.alloc {w : World} {base : Nat} {v : Value} {l : List UInt8} (h : Mine w base v l) (o : Obj) : Mine (w.alloc o) base v l := World.ownsRow.alloc h o
theorem byte_shift (x m : Nat) : (x : Int) / 2 ^ (8 * m) % 256 = ((UInt8.ofNat (x / 256 ^ m)).toNat : Int) := by
  rw [UInt8.toNat_ofNat', show (256 : Nat) ^ m = 2 ^ (8 * m) by rw [Nat.pow_mul]]
  simp
theorem be_step (l : List UInt8) (n i x : Nat) (h : i < n) : (l ++ be i (x / 256 ^ (n - i))) ++ [UInt8.ofNat (x / 256 ^ (n - 1 - i))] = l ++ be (i + 1) (x / 256 ^ (n - (i + 1))) := by
  rw [List.append_assoc, be_snoc n i x h]

set_option maxHeartbeats 1000000 in
/-- A number behind bytes. -/
theorem put_any (v : Value) (l : List UInt8) (n x : Nat) (w : World) (hm : l.length ≤ 70368744177000) (hn1 : 1 ≤ n) (hn8 : n ≤ 8) (hv : Rd w v (u8s l)) :
    Calls Try.prog 21 #[v, .int .i64 (n : Int), .int .u64 (x : Int)] w fun e w' => ∃ v', e = .returned v' ∧ Mine w' w.heap.size v' (l ++ be n x) ∧ Below w.heap.size w w' := by
  obtain ⟨i0, hi, hz0, hz1, hz2⟩ := info_parts info8
  go_enter Try.func21, Try.ntmps21
  go_wp2_with (go_at_call 32; refine (clone_any v l _ (by omega) hv).mono ?_; rintro e w1 ⟨v1, rfl, hown, hb1⟩)
  go_loopw [7, 16] (fun u i wr => ∃ k : Nat, k ≤ n ∧ i = .int .i64 k ∧ Mine wr w.heap.size u (l ++ be k (x / 256 ^ (n - k))) ∧ Below w.heap.size w wr) (fun _ i _ => n - (intOf i).toNat)
  case atStart => exact ⟨0, by omega, rfl, by simpa [be] using hown, hb1⟩
  case round =>
    obtain ⟨k, hk, rfl, hmine, hbe⟩ := hrel
    by_cases hlt : k < n
    · have HS := hide (be_step l n k x hlt)
      have HB := byte_shift x (n - 1 - k)
      generalize UInt8.ofNat (x / 256 ^ (n - 1 - k)) = y at *
      have hll : (l ++ be k (x / 256 ^ (n - k))).length = l.length + k := by simp [be_length]
      generalize l ++ be k (x / 256 ^ (n - k)) = lk at *
      have ho := hide (hmine.alloc (.cells #[.int .u8 (y.toNat : Int)] 5))
      have hr := hide (show Rd (wr.alloc (.cells #[.int .u8 (y.toNat : Int)] 5)) (.slice (some ⟨wr.heap.size, 0, none⟩) 1 1) (u8s [y]) from Rd.new_ wr _ _ _ rfl rfl (Nat.le_refl _) rfl)
      have hl := hide (show lk.length + (u8s [y]).length ≤ maxLen by rw [u8s_length, hll]; unfold maxLen; simp; omega)
      have hl2 := hide (show (lk.length + (u8s [y]).length) * 1 ≤ 140737488355328 by rw [u8s_length, hll]; simp; omega)
      have hbs := hide (show w.heap.size ≤ (wr.alloc (.cells #[.int .u8 (y.toNat : Int)] 5)).heap.size by simp; have := hbe.size; omega)
      have hbe' := hide (hbe.alloc hbe.size (.cells #[.int .u8 (y.toNat : Int)] 5))
      have hbk := hide (show ∀ k, u7.ownBlock = some k → w.heap.size ≤ k from fun k hk => (World.ownsRow.lt hmine k hk).1)
      clear hmine hbe hown hb1
      go_wp2_with (at_builtin; refine wpList_append_rd rfl (.tmp 19) (.tmp 28) 25 rfl (base := w.heap.size) 5 i0 (.int .u8 0) 1 Try.underlying25 hi hz0 hz1 hz2 rfl u7 lk.length (u8s lk) rfl ho.out (.slice (some ⟨wr.heap.size, 0, none⟩) 1 1) (u8s [y]) rfl hr.out (oneCell_u8s [y]) hl.out hl2.out hbs.out ?_; intro v2 w2 hown hgrow hat_)
      have hown2 : Mine w2 w.heap.size v2 (lk ++ [y]) := by
        unfold Mine; rw [u8s_append, List.length_append, ← u8s_length [y]]; exact hown
      have hbe2 := hbe'.out.grown hgrow hbs.out hbk.out
      go_round
      case rel => exact ⟨k + 1, by omega, by go_num, by rw [← HS.out]; exact hown2, hbe2⟩
      case measure => simp [intOf]; omega
    · obtain rfl : k = n := by omega
      rw [Nat.sub_self, Nat.pow_zero, Nat.div_one] at hmine
      go_wp2
      go_ret
      exact ⟨_, rfl, hmine, hbe⟩

theorem strCells_u8s (s : ByteArray) : Lib.strCells s = u8s s.data.toList := rfl
theorem put_one (v : Value) (l : List UInt8) (x : Nat) (w : World) (hm : l.length ≤ 70368744177000) (hv : Rd w v (u8s l)) :
    Calls Try.prog 21 #[v, .int .i64 1, .int .u64 (x : Int)] w fun e w' => ∃ v', e = .returned v' ∧ Mine w' w.heap.size v' (l ++ [UInt8.ofNat x]) ∧ Below w.heap.size w w' :=
  put_any v l 1 x w hm (by omega) (by omega) hv

set_option maxHeartbeats 1000000 in
/-- A text behind bytes. -/
theorem text_any (v : Value) (l : List UInt8) (s : ByteArray) (w : World) (hm : l.length ≤ 70368744176000) (hs : s.size ≤ 255) (hv : Rd w v (u8s l)) :
    Calls Try.prog 31 #[v, .string s] w fun e w' => ∃ v', e = .returned v' ∧ Mine w' w.heap.size v' (l ++ UInt8.ofNat s.size :: s.data.toList) ∧ Below w.heap.size w w' := by
  obtain ⟨i0, hi, hz0, hz1, hz2⟩ := info_parts info8
  go_enter Try.func31, Try.ntmps31
  go_wp2_with (first
    | (go_at_call 21; refine (put_one v l s.size _ (by omega) hv).mono ?_; rintro e w1 ⟨v1, rfl, hown, hb1⟩; have hl := hide (show (l ++ [UInt8.ofNat s.size]).length + s.size ≤ maxLen by unfold maxLen; simp; omega); have hl2 := hide (show (l ++ [UInt8.ofNat s.size]).length + s.size ≤ 140737488355328 by simp; omega))
    | (at_builtin; refine Lib.wpList_append_own_string _ rfl (.tmp 9) (.tmp 10) 25 9 rfl w.heap.size 5 i0 Try.underlying25 Try.underlying9 hi hz0 hz1 hz2 v1 (l ++ [UInt8.ofNat s.size]).length (u8s (l ++ [UInt8.ofNat s.size])) rfl hown s rfl hl.out hl2.out hb1.size ?_; intro v2 w2 hown2 hgrow hat_))
  go_ret
  refine ⟨_, rfl, ?_, hb1.grown hgrow hb1.size fun k hk => (World.ownsRow.lt hown k hk).1⟩
  rw [strCells_u8s, ← u8s_append] at hown2
  unfold Mine
  rw [show l ++ UInt8.ofNat s.size :: s.data.toList = (l ++ [UInt8.ofNat s.size]) ++ s.data.toList by simp, show ((l ++ [UInt8.ofNat s.size]) ++ s.data.toList).length = (l ++ [UInt8.ofNat s.size]).length + s.size by rw [List.length_append, Array.length_toList]; rfl]
  exact hown2
end Go.Proofs.Ytofnldmbokdkbaa
