/-
  The model of DiskRuns in memory: reading a sector.
-/
import Derived.Test.YthlclhfepnmaeaaAppC
import Derived.Test.YthlclhfepnmaeaaConv
namespace Go.Proofs.Ythlclhfepnmaeaa
open Go.RowKit

/-- What is read of a sector: the last call of those that wait, or what lasts. -/
def rdl (l0 : List UInt8) (cs : List CallD) (s : Int) : List UInt8 := cs.foldl (fun acc x => if x.s = s then x.data else acc) l0
theorem rdl_next (l0 : List UInt8) {cs : List CallD} {k : Nat} (h : k < cs.length) (s : Int) {x : CallD} (hx : cs[k] = x) : rdl l0 (cs.take (k + 1)) s = if x.s = s then x.data else rdl l0 (cs.take k) s := by
  subst hx
  unfold rdl
  rw [List.take_succ_eq_append_getElem h, List.foldl_append]
  rfl
theorem rdl_len (l0 : List UInt8) (s : Int) (h0 : l0.length ≤ 64) : ∀ cs : List CallD, (∀ x ∈ cs, x.data.length ≤ 64) → (rdl l0 cs s).length ≤ 64 := by
  intro cs
  unfold rdl
  induction cs generalizing l0 with
  | nil => intro _; exact h0
  | cons x r ih =>
    intro h
    rw [List.foldl_cons]
    refine ih _ ?_ (fun y hy => h y (List.mem_cons_of_mem _ hy))
    split
    · exact h x (List.mem_cons_self ..)
    · exact h0

set_option maxRecDepth 100000 in
set_option maxHeartbeats 8000000 in
theorem mread {w : World} {gm r s B : Nat} (hr : r < 3) (hs : s < 8) {l0 : List UInt8} (h0 : w.cell? ⟨gm, r * 8 + s, none⟩ = some (.string ⟨l0.toArray⟩)) (hl0 : l0.length ≤ 64) {A : Option Addr} {n c : Nat} {cs : List CallD} (h1 : w.cell? ⟨gm, 24 + r, none⟩ = some (.slice A n c)) (hn : n = cs.length) (hc : CallsIn w A n cs)
    (hf : ∀ x ∈ cs, x.Fit w B) (hB : B ≤ w.heap.size) (h64 : ∀ x ∈ cs, x.data.length ≤ 64) (hn2 : n ≤ 200) :
    Calls Try.prog 12 #[ptr gm, .int .i64 (r : Int), .int .i64 (s : Int)] w fun e w' => e = .returned (.string ⟨(pad (rdl l0 cs (s : Int))).toArray⟩) ∧ Below w.heap.size w w' := by
  have hr0 : (0 : Int) ≤ (r : Int) := by omega
  have hr1 : (r : Int) < 3 := by omega
  have hs0 : (0 : Int) ≤ (s : Int) := by omega
  have hs1 : (s : Int) < 8 := by omega
  have HC := hide hc
  have HF := hide hf
  have H64 := hide h64
  have HN := hide hn
  clear hc hf h64 hn
  unfold ptr
  go_enter Try.func12, Try.ntmps12
  go_wp2
  go_loopw [7, 25] (fun u i wr => ∃ k : Nat, k ≤ n ∧ i = .int .i64 k ∧ u = .string ⟨(rdl l0 (cs.take k) (s : Int)).toArray⟩ ∧ Below w.heap.size w wr) (fun _ i _ => n - (intOf i).toNat)
  case atStart => exact ⟨0, Nat.zero_le _, rfl, rfl, Below.refl _ _⟩
  case round =>
    obtain ⟨k, hk, rfl, rfl, hb⟩ := hrel
    by_cases hlt : k < n
    · obtain ⟨gq, hA, kd, cr, csv, A2, n2, c2, l, mask, hck, hln, hn3, hrange, hrow⟩ := (HC.out.below hb).at HN.out hlt HF.out (hb.mono hB)
      subst hA
      have HNX := hide (rdl_next l0 (HN.out ▸ hlt) (s : Int) hck)
      have HB := hide hb
      have HLN := hide hln
      have HRG := hide hrange
      have HRW := hide hrow
      have XIC := hide infoCall
      have XAC := hide (all_call kd cr csv A2 n2 c2 (mask : Int))
      have hk0 : (0 : Int) ≤ (k : Int) := by omega
      have hk1 : (k : Int) < (n : Int) := by omega
      have hk2 : (k : Int) < 200 := by omega
      clear hb hln hrange hrow hck
      by_cases heq : csv = (s : Int)
      · subst heq
        go_wp2_with (first
          | ((with_reducible refine wpList_load_mid rfl 36 (.tmp 27) rfl gq (k * 5) rfl [.int .i64 kd, .int .i64 cr, .int .i64 (s : Int), .slice A2 n2 c2, .int .u64 (mask : Int)] _ ?_ Try.underlying36 ?_ ?_ ?_); exact HRG.out; rfl; exact XIC.out)
          | ((with_reducible refine store_box 36 (.tmp 9) (.tmp 28) 5 _ #[.int .i64 kd, .int .i64 cr, .int .i64 (s : Int), .slice A2 n2 c2, .int .u64 (mask : Int)] rfl rfl ?_ ?_ rfl rfl ?_ ?_ ?_); rfl; rfl; exact XIC.out; exact XAC.out; intro W2 hb2 hs2 hx2; have hc2 := hx2.cell 2 _ rfl; have hc3 := hx2.cell 3 _ rfl; have hcv := conv_rdn HLN.out (((HRW.out.below (hb2.mono (Nat.le_trans hB HB.out.size)))).more (Nat.le_trans (Nat.le_trans hB HB.out.size) hb2.size)); have HBW := hide (HB.out.trans (hb2.mono HB.out.size)); clear hb2 hs2 hx2))
        go_roundw
        case rel =>
          refine ⟨k + 1, by omega, by go_num, ?_, HBW.out⟩
          rw [HNX.out, if_pos rfl]
        case measure => simp [intOf]; omega
      · go_wp2_with (first
          | ((with_reducible refine wpList_load_mid rfl 36 (.tmp 27) rfl gq (k * 5) rfl [.int .i64 kd, .int .i64 cr, .int .i64 csv, .slice A2 n2 c2, .int .u64 (mask : Int)] _ ?_ Try.underlying36 ?_ ?_ ?_); exact HRG.out; rfl; exact XIC.out)
          | ((with_reducible refine store_box 36 (.tmp 9) (.tmp 28) 5 _ #[.int .i64 kd, .int .i64 cr, .int .i64 csv, .slice A2 n2 c2, .int .u64 (mask : Int)] rfl rfl ?_ ?_ rfl rfl ?_ ?_ ?_); rfl; rfl; exact XIC.out; exact XAC.out; intro W2 hb2 hs2 hx2; have hc2 := hx2.cell 2 _ rfl; have HBW := hide (HB.out.trans (hb2.mono HB.out.size)); clear hb2 hs2 hx2))
        go_roundw
        case rel =>
          refine ⟨k + 1, by omega, by go_num, ?_, HBW.out⟩
          rw [HNX.out, if_neg (by show ¬ csv = (s : Int); exact heq)]
        case measure => simp [intOf]; omega
    · have hkN : n = k := by omega
      subst hkN
      have e : cs.take n = cs := by rw [HN.out, List.take_length]
      rw [e]
      have hlen := rdl_len l0 (s : Int) hl0 cs H64.out
      obtain ⟨out, hout⟩ : ∃ out, rdl l0 cs (s : Int) = out := ⟨_, rfl⟩
      rw [hout] at hlen ⊢
      have HB := hide hb
      have HOUT := hide hout
      clear hb e hout
      obtain ⟨N, hN⟩ : ∃ N, out.length = N := ⟨_, rfl⟩
      have hz : (64 : Int) - (N : Int) = ((64 - N : Nat) : Int) := by omega
      have hmk0 := fun w => run_make8 (P := Try.prog) 33 5 Try.underlying33 info8 (64 - N) (by omega) w
      rw [← hz] at hmk0
      have hcz : ∀ w : World, (convert 33 9 (.slice (some ⟨w.heap.size, 0, none⟩) (64 - N) (64 - N))).run Try.prog (w.alloc (.cells (blk8 (List.replicate (64 - N) 0)) 5)) = .ok (.string ⟨(List.replicate (64 - N) (0 : UInt8)).toArray⟩) (w.alloc (.cells (blk8 (List.replicate (64 - N) 0)) 5)) := fun w => conv_blk (64 - N) (List.length_replicate ..) (Blk.new_ w _ _ rfl)
      clear hz
      go_wp2
      go_ret
      refine ⟨?_, HB.out.alloc HB.out.size _⟩
      have e1 : (⟨Array.replicate (64 - N) 0⟩ : ByteArray) = ⟨(List.replicate (64 - N) (0 : UInt8)).toArray⟩ := by rw [List.toArray_replicate]
      rw [HOUT.out, e1, str_app]
      unfold pad
      rw [hN]
      rfl
end Go.Proofs.Ythlclhfepnmaeaa
