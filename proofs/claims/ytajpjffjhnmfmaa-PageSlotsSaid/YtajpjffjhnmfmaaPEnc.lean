/-
  Contract of package page: Encode.
-/
import Derived.Test.YtajpjffjhnmfmaaSaid
import Derived.Deep.LoopGhost
namespace Go.Proofs.Ytajpjffjhnmfmaa
open Go.RowKit

set_option linter.unusedSimpArgs false
set_option linter.unusedVariables false

/-- A page's first k sectors. -/
def Pg.secs (p : Pg) : Nat → List UInt8
  | 0 => []
  | k + 1 => p.secs k ++ be 8 p.mark ++ (p.saidL.drop (k * 56)).take 56
def z256 : List UInt8 := List.replicate 256 0
theorem z256_length : z256.length = 256 := List.length_replicate
/-- A page's bytes. -/
def Pg.encL (p : Pg) : List UInt8 := if p.mark = 0 then z256 else p.secs 4
theorem Pg.secs_length {p : Pg} (h : p.sized) : ∀ k, k ≤ 4 → (p.secs k).length = 64 * k
  | 0, _ => rfl
  | k + 1, hk => by
    rw [Pg.secs, List.length_append, List.length_append, Pg.secs_length h k (by omega), be_length, List.length_take, List.length_drop, p.said_length h]
    omega
theorem Pg.encL_length {p : Pg} (h : p.sized) : p.encL.length = 256 := by
  unfold Pg.encL
  split
  · exact z256_length
  · rw [Pg.secs_length h 4 (by omega)]
theorem put_8 (v : Value) (l : List UInt8) (x : Nat) (w : World) (hm : l.length ≤ 1000) (hv : Rd w v (u8s l)) :
    Calls Try.prog 23 #[v, .int .i64 8, .int .u64 (x : Int)] w fun e w' => ∃ v', e = .returned v' ∧ Mine w' w.heap.size v' (l ++ be 8 x) ∧ Below w.heap.size w w' :=
  put_any v l 8 x w (by omega) (by omega) (by omega) hv
theorem run_make256 (W : World) : (Instr.makeSlice 31 (.int .i64 256) (.int .i64 256)).run Try.prog W = .ok (.slice (some ⟨W.heap.size, 0, none⟩) 256 256) (W.alloc (.cells (blk8 z256) 5)) :=
  run_make8 (P := Try.prog) 31 5 Try.underlying31 info8 256 (by omega) W
theorem mine_new {w : World} {b g n : Nat} (l : List UInt8) (hb : b ≤ g) (hg : w.heap.size = g) (hn : l.length = n) (hl : n ≤ 1000) : Mine (w.alloc (.cells (blk8 l) 5)) b (.slice (some ⟨g, 0, none⟩) n n) l := by
  subst hn hg
  refine ⟨by rw [u8s_length, Nat.mul_one], .inr ⟨w.heap.size, l.length, blk8 l, rfl, hb, heap_new _ _, Nat.le_refl _, by unfold maxLen; omega, by rw [blk8_size, Nat.mul_one], ?_⟩⟩
  show List.take (l.length * 1) (u8s l) = u8s l
  rw [Nat.mul_one, ← u8s_length, List.take_length]
set_option maxRecDepth 20000 in
theorem enc_zero {p : Pg} (w : World) (hz : p.mark = 0) :
    Calls Try.prog 14 #[p.val] w fun e w' => ∃ v', e = .returned v' ∧ Mine w' w.heap.size v' p.encL ∧ Below w.heap.size w w' := by
  have hmk := run_make256
  have HE := hide (show p.encL = z256 from if_pos hz)
  unfold Pg.val
  unfold Pg.cells
  rw [hz]
  clear hz
  go_enter Try.func14, Try.ntmps14
  go_wp2
  go_ret
  rw [HE.out]
  exact ⟨_, rfl, mine_new z256 (Nat.le_succ _) (by simp) z256_length (by omega), ((Below.refl w.heap.size w).alloc (Nat.le_refl _) _).alloc (by simp) _⟩
theorem said_told {w : World} {g : Nat} {p : Pg} (h : PgB w g p) (hs : p.sized) (ht : p.ten < 65536) (hn : p.num < 65536) :
    Calls Try.prog 22 #[ptr g] w fun e w' => ∃ A c, e = .returned (.slice A 224 c) ∧ 224 ≤ c ∧ Rd w' (.slice A 224 c) (u8s p.saidL) ∧ PgB w' g p ∧ Below w.heap.size w w' := by
  refine (said_any h hs ht hn).mono ?_
  rintro e w' ⟨v, rfl, hm, hb⟩
  obtain ⟨A, c, rfl⟩ := hm.form
  have hl := p.said_length hs
  have hr := hm.rd
  have hc : 224 ≤ c := by obtain ⟨_, _, he, hc, _⟩ := hm.rd; injection he with _ e2 e3; rw [u8s_length, hl] at hc; omega
  rw [hl] at hr ⊢
  exact ⟨A, c, rfl, hc, hr, h.below hb, hb⟩
theorem run_from {A : Option Addr} {c k : Nat} (hk : k < 4) (W : World) : (Instr.slice 31 (.slice A 224 c) (some (.int .i64 ((k : Int) * 56))) none none).run Try.prog W = .ok (.slice (hiA A c (k * 56)) (224 - k * 56) (c - k * 56)) W := by
  have := run_high (P := Try.prog) slice8 size8 A 224 c (k * 56) (by omega) W
  rwa [show ((k * 56 : Nat) : Int) = (k : Int) * 56 by omega] at this
theorem run_to {A : Option Addr} {n c : Nat} (hc : 56 ≤ c) (W : World) : (Instr.slice 31 (.slice A n c) none (some (.int .i64 56)) none).run Try.prog W = .ok (.slice A 56 c) W :=
  run_low (P := Try.prog) slice8 size8 A n c 56 hc W
theorem rd_sec {w : World} {A : Option Addr} {c k : Nat} {l : List UInt8} (hk : k < 4) (h : Rd w (.slice A 224 c) (u8s l)) : Rd w (.slice (hiA A c (k * 56)) 56 (c - k * 56)) (u8s ((l.drop (k * 56)).take 56)) :=
  Rd.low (Rd.high (k := k * 56) h (by omega)) (by omega)
set_option maxRecDepth 20000 in
set_option maxHeartbeats 1000000 in
theorem enc_some {p : Pg} (w : World) (hs : p.sized) (ht : p.ten < 65536) (hn : p.num < 65536) (hz : p.mark ≠ 0) :
    Calls Try.prog 14 #[p.val] w fun e w' => ∃ v', e = .returned v' ∧ Mine w' w.heap.size v' p.encL ∧ Below w.heap.size w w' := by
  obtain ⟨i0, hi, hz0, hz1, hz2⟩ := info_parts info8
  have HE := hide (show p.encL = p.secs 4 from if_neg hz)
  have B0 : PgB (w.alloc (.cells p.cells 35)) w.heap.size p := heap_new w _
  have hbw := hide ((Below.refl w.heap.size w).alloc (Nat.le_refl _) (.cells p.cells 35))
  have hzi : ¬ ((p.mark : Int) = 0) := by omega
  have hsa := said_told B0 hs ht hn
  clear B0
  unfold Pg.val
  unfold Pg.cells ptr at *
  generalize hW : w.alloc (.cells #[.int .u64 (p.mark : Int), .int .i64 (p.ten : Int), .int .i64 (p.num : Int), .string (p.s 0), .string (p.s 1), .string (p.s 2), .string (p.s 3), .string (p.s 4)] 35) = W0 at hsa hbw
  have hW2 := hide hW
  subst hW
  go_enter Try.func14, Try.ntmps14
  go_wp2_with (go_at_call 22; refine hsa.mono ?_; rintro e ws ⟨A, c, rfl, hcc, HM, P1, HB1⟩)
  have hs1 := hide HB1.size
  have HB := hide (hbw.out.trans (HB1.mono (by simp)))
  have HM := hide HM
  have HP1 := hide P1
  have hs2 := hide (show w.heap.size ≤ ws.heap.size from HB.out.size)
  clear P1 HB1 hsa hbw hW2
  go_loopg [4, 11] 4 (fun n v i wr => ∃ k : Nat, k + n = 4 ∧ i = .int .i64 k ∧ Hid (Mine wr ws.heap.size v (p.secs k)) ∧ Hid (Below ws.heap.size ws wr))
  case atStart => exact ⟨0, by omega, rfl, hide (own_nil _ _ _), hide (Below.refl _ _)⟩
  case round =>
    obtain ⟨k, hk, rfl, hm, hbe⟩ := hrel
    cases gk with
    | zero =>
      obtain rfl : k = 4 := by omega
      go_wp2
      go_ret
      rw [HE.out]
      exact ⟨_, rfl, hm.out.more hs2.out, HB.out.trans (hbe.out.mono hs2.out)⟩
    | succ n =>
      have hlt : k < 4 := by omega
      have P2 := HP1.out.below hbe.out
      have d0 := P2.markC
      have hM2 := hide (HM.out.below hbe.out)
      have hlk := p.secs_length hs k (by omega)
      have hfr := fun W => run_from (A := A) (c := c) hlt W
      have hto := fun W => run_to (A := hiA A c (k * 56)) (n := 224 - k * 56) (c := c - k * 56) (by omega) W
      have hsz := hide (hbe.out.size)
      clear P2
      go_wp2_with (first
        | (go_at_call 23; (with_reducible refine (put_8 _ _ p.mark _ (by rw [hlk]; omega) hm.out.rd).mono ?_); rintro e w2 ⟨v2, rfl, hown2, hb2⟩; have hM3 := hide (rd_sec hlt (hM2.out.below hb2)); have hown3 := hide (hown2.more hsz.out); have hbe3 := hide (hbe.out.trans (hb2.mono hsz.out)); clear hown2 hb2)
        | (at_builtin; refine wpList_append_rd rfl (.tmp 18) (.tmp 23) 31 rfl (base := ws.heap.size) 5 i0 (.int .u8 0) 1 Try.underlying31 hi hz0 hz1 hz2 rfl v2 _ _ rfl hown3.out (.slice (hiA A c (k * 56)) 56 (c - k * 56)) _ rfl hM3.out (oneCell_u8s _) (by simp [u8s_length, hlk, be_length]; unfold maxLen; omega) (by simp [u8s_length, hlk, be_length]; omega) hbe3.out.size ?_; intro v4 w4 hown4 hgrow hat_))
      go_roundg n
      case rel =>
        refine ⟨k + 1, by omega, by go_num, hide ?_, hide (hbe3.out.grown hgrow hbe3.out.size fun k hk => (World.ownsRow.lt hown3.out k hk).1)⟩
        unfold Mine
        rw [Pg.secs, List.length_append, u8s_append, ← u8s_length ((p.saidL.drop (k * 56)).take 56)]
        exact hown4
      case measure => omega
theorem encode_pg {p : Pg} (w : World) (hs : p.sized) (ht : p.ten < 65536) (hn : p.num < 65536) :
    Calls Try.prog 14 #[p.val] w fun e w' => ∃ v', e = .returned v' ∧ Mine w' w.heap.size v' p.encL ∧ Below w.heap.size w w' := by
  by_cases hz : p.mark = 0
  · exact enc_zero w hz
  · exact enc_some w hs ht hn hz
end Go.Proofs.Ytajpjffjhnmfmaa
