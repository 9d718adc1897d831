/-
  Contract of package page: said.
-/
import Derived.Test.YtajpjffjhnmfmaaSlot
import Derived.Deep.LoopGhost
namespace Go.Proofs.Ytajpjffjhnmfmaa
open Go.RowKit

set_option linter.unusedSimpArgs false
set_option linter.unusedVariables false

/-- A slot's forty bytes. -/
def padS (s : ByteArray) : List UInt8 := s.data.toList ++ List.replicate (40 - s.size) 0
/-- What a page says up to its slot k. -/
def Pg.part (p : Pg) : Nat → List UInt8
  | 0 => be 2 p.ten ++ be 2 p.num
  | k + 1 => p.part k ++ padS (p.s k)
def Pg.saidL (p : Pg) : List UInt8 := p.part 5 ++ List.replicate 20 0
def Pg.sized (p : Pg) : Prop := ∀ j, j < 5 → (p.s j).size ≤ 40
theorem padS_length {s : ByteArray} (h : s.size ≤ 40) : (padS s).length = 40 := by
  simp [padS]; omega
theorem Pg.part_length {p : Pg} (h : p.sized) : ∀ k, k ≤ 5 → (p.part k).length = 4 + 40 * k
  | 0, _ => by simp [Pg.part, be_length]
  | k + 1, hk => by
    rw [Pg.part, List.length_append, Pg.part_length h k (by omega), padS_length (h k (by omega))]
    omega
theorem Pg.said_length {p : Pg} (h : p.sized) : p.saidL.length = 224 := by
  rw [Pg.saidL, List.length_append, Pg.part_length h 5 (by omega), List.length_replicate]
theorem put_2 (v : Value) (l : List UInt8) (x : Nat) (w : World) (hm : l.length ≤ 1000) (hv : Rd w v (u8s l)) :
    Calls Try.prog 23 #[v, .int .i64 2, .int .u64 (x : Int)] w fun e w' => ∃ v', e = .returned v' ∧ Mine w' w.heap.size v' (l ++ be 2 x) ∧ Below w.heap.size w w' :=
  put_any v l 2 x w (by omega) (by omega) (by omega) hv
theorem put_2n (x : Nat) (w : World) :
    Calls Try.prog 23 #[.slice none 0 0, .int .i64 2, .int .u64 (x : Int)] w fun e w' => ∃ v', e = .returned v' ∧ Mine w' w.heap.size v' (be 2 x) ∧ Below w.heap.size w w' :=
  put_2 (.slice none 0 0) [] x w (by simp) (Rd.nil_ _ _ _)

/-- The slots' array, an element of it. -/
theorem run_index5 (p : Pg) (k : Nat) (hk : k < 5) (W : World) : (Instr.index 33 (.agg #[.string (p.s 0), .string (p.s 1), .string (p.s 2), .string (p.s 3), .string (p.s 4)]) (.int .i64 (k : Int))).run Try.prog W = .ok (.string (p.s k)) W := by
  match k, hk with
  | 0, _ => simp [go_sem, Instr.index]
  | 1, _ => simp [go_sem, Instr.index]
  | 2, _ => simp [go_sem, Instr.index]
  | 3, _ => simp [go_sem, Instr.index]
  | 4, _ => simp [go_sem, Instr.index]
set_option maxRecDepth 20000 in
set_option maxHeartbeats 1000000 in
theorem said_any {w : World} {g : Nat} {p : Pg} (h : PgB w g p) (hs : p.sized) (ht : p.ten < 65536) (hn : p.num < 65536) :
    Calls Try.prog 22 #[ptr g] w fun e w' => ∃ v', e = .returned v' ∧ Mine w' w.heap.size v' p.saidL ∧ Below w.heap.size w w' := by
  obtain ⟨i0, hi, hz0, hz1, hz2⟩ := info_parts info8
  have d1 := h.tenC
  have HP := hide h
  clear h
  unfold ptr
  go_enter Try.func22, Try.ntmps22
  go_wp2_with (first
    | (go_at_call 23; (with_reducible refine (put_2n p.ten _).mono ?_); rintro e w1 ⟨v1, rfl, hown1, hb1⟩; have P1 := HP.out.below hb1; have d2 := P1.numC)
    | (go_at_call 23; (with_reducible refine (put_2 v1 _ p.num _ (by simp [be_length]) hown1.rd).mono ?_); rintro e w2 ⟨v2, rfl, hown2, hb2⟩; have P2 := P1.below hb2; obtain ⟨c0, c1, c2, c3, c4⟩ := P2.slots; have PP := hide P2; clear P2 P1))
  have HB := hide (hb1.trans (hb2.mono hb1.size))
  have HM := hide hown2
  have HS := hide hb1.size
  clear hown1 hown2 hb1 hb2
  go_loopg [3, 23] 5 (fun n v i wr => ∃ k : Nat, k + n = 5 ∧ i = .int .i64 k ∧ Hid (Mine wr w.heap.size v (p.part k)) ∧ Hid (Below w.heap.size w wr))
  case atStart => exact ⟨0, by omega, rfl, hide (HM.out.more HS.out), HB⟩
  case round =>
    obtain ⟨k, hk, rfl, hm, hbe⟩ := hrel
    have hsz := hbe.out.size
    cases gk with
    | zero =>
      obtain rfl : k = 5 := by omega
      have hl : (p.part 5).length = 204 := p.part_length hs 5 (by omega)
      obtain ⟨A, c, rfl⟩ := hm.out.form
      have HO : Hid (wr.ownsRow w.heap.size 5 1 (.slice A 204 c) 204 (u8s (p.part 5))) := by have := hm.out; unfold Mine at this; rw [hl] at this; exact hide this
      have HK := hide (fun k hk => (World.ownsRow.lt HO.out k hk).1)
      rw [hl]
      clear hm hl
      go_wp2_with (at_builtin; refine wpList_append_zeros rfl (.tmp 35) (.tmp 38) 31 3 rfl w.heap.size 5 i0 .i64 .i64 Try.underlying31 Try.underlying3 hi hz0 hz1 hz2 _ 204 (u8s (p.part 5)) rfl HO.out 20 rfl (by decide) (by decide) hsz ?_; intro v2 w2 hown2 hgrow)
      go_ret
      refine ⟨_, rfl, ?_, hbe.out.grown hgrow hsz HK.out⟩
      unfold Mine
      rw [p.said_length hs, Pg.saidL, u8s_append]
      exact hown2
    | succ n =>
      have hlt : k < 5 := by omega
      have hix := run_index5 p k hlt
      have hl : (p.part k).length = 4 + 40 * k := p.part_length hs k (by omega)
      have hsz2 := hs k hlt
      obtain ⟨A, c, rfl⟩ := hm.out.form
      have hsub := hide (show (40 : Int) - ((p.s k).size : Int) = ((40 - (p.s k).size : Nat) : Int) by omega)
      go_wp2_with (first
        | (at_builtin; refine Lib.wpList_append_own_string _ rfl (.tmp 26) (.tmp 27) 31 9 rfl w.heap.size 5 i0 Try.underlying31 Try.underlying9 hi hz0 hz1 hz2 _ (p.part k).length (u8s (p.part k)) rfl hm.out (p.s k) rfl (by unfold maxLen; omega) (by omega) hsz ?_; intro v2 w2 hown2 hgrow hat_; have hbe2 := hbe.out.grown hgrow hsz (fun k hk => (World.ownsRow.lt hm.out k hk).1))
        | (at_builtin; refine wpList_append_zeros rfl (.tmp 29) (.tmp 32) 31 3 rfl w.heap.size 5 i0 .i64 .i64 Try.underlying31 Try.underlying3 hi hz0 hz1 hz2 v2 _ _ rfl hown2 (40 - (p.s k).size) (congrArg (Value.int .i64) hsub.out) (by unfold maxLen; omega) (by omega) hbe2.size ?_; intro v3 w3 hown3 hgrow3; have hbe3 := hbe2.grown hgrow3 hbe2.size (fun k hk => (World.ownsRow.lt hown2 k hk).1)))
      go_roundg n
      case rel =>
        refine ⟨k + 1, by omega, by go_num, hide ?_, hide hbe3⟩
        unfold Mine
        rw [Pg.part, padS, List.length_append, List.length_append, List.length_replicate, u8s_append, u8s_append, ← Nat.add_assoc, ← List.append_assoc, size_data]
        exact hown3
      case measure => omega
end Go.Proofs.Ytajpjffjhnmfmaa
