/-
  Contract of package page: read.
-/
import Derived.Test.YtajpjffjhnmfmaaPEnc
import Derived.Test.YtajpjffjhnmfmaaNumber
import Derived.Deep.LoopGhost
namespace Go.Proofs.Ytajpjffjhnmfmaa
open Go.RowKit

set_option linter.unusedSimpArgs false
set_option linter.unusedVariables false

/-- What is read of a page's bytes: the reader behind k sectors, the last mark, what they say. -/
def rdSt (l : List UInt8) : Nat → St
  | 0 => ⟨l, false⟩
  | k + 1 => ((rdSt l k).numSt 8).take 56
def rdMark (l : List UInt8) : Nat → Nat
  | 0 => 0
  | k + 1 => (rdSt l k).num 8
def rdSaid (l : List UInt8) : Nat → List UInt8
  | 0 => []
  | k + 1 => rdSaid l k ++ ((rdSt l k).numSt 8).got 56
def slSt (m : List UInt8) : Nat → St
  | 0 => ((⟨m, false⟩ : St).numSt 2).numSt 2
  | k + 1 => (slSt m k).take 40
def rdPg (l : List UInt8) : Nat → Pg
  | 0 => ⟨rdMark l 4, (⟨rdSaid l 4, false⟩ : St).num 2, ((⟨rdSaid l 4, false⟩ : St).numSt 2).num 2, fun _ => ⟨#[]⟩⟩
  | k + 1 => (rdPg l k).put k ⟨((slSt (rdSaid l 4) k).got 40).toArray⟩
def readP (l : List UInt8) : Pg := rdPg l 5
def pZ : Pg := ⟨0, 0, 0, fun _ => ⟨#[]⟩⟩
theorem St.got_le_n (s : St) (n : Nat) : (s.got n).length ≤ n := by
  unfold St.got
  split
  · rw [List.length_take]; simp; omega
  · simp
theorem rdSt_length (l : List UInt8) : ∀ k, (rdSt l k).rest.length ≤ l.length
  | 0 => Nat.le_refl _
  | k + 1 => Nat.le_trans (St.take_length _ _) (Nat.le_trans (St.numSt_length _ _) (rdSt_length l k))
theorem rdSaid_length (l : List UInt8) : ∀ k, (rdSaid l k).length ≤ 56 * k
  | 0 => Nat.le_refl _
  | k + 1 => by
    have : (((rdSt l k).numSt 8).got 56).length ≤ 56 := ((rdSt l k).numSt 8).got_le_n 56
    have := rdSaid_length l k
    rw [rdSaid, List.length_append]
    omega
theorem slSt_length (m : List UInt8) : ∀ k, (slSt m k).rest.length ≤ m.length
  | 0 => Nat.le_trans (St.numSt_length _ _) (St.numSt_length _ _)
  | k + 1 => Nat.le_trans (St.take_length _ _) (slSt_length m k)
theorem rdMark_lt (l : List UInt8) (k : Nat) : rdMark l k < 18446744073709551616 := by
  cases k with
  | zero => show 0 < _; omega
  | succ k => exact St.num_lt _ _
theorem St.num2_lt (s : St) : s.num 2 < 65536 := by
  unfold St.num
  rw [if_pos (by omega)]
  have h1 := val_lt (s.got 2)
  have h3 : (s.got 2).length ≤ 2 := s.got_le_n 2
  have h2 : 256 ^ (s.got 2).length ≤ 256 ^ 2 := Nat.pow_le_pow_right (by omega) h3
  omega
theorem Pg.put_head (p : Pg) (k : Nat) (s : ByteArray) : (p.put k s).mark = p.mark ∧ (p.put k s).ten = p.ten ∧ (p.put k s).num = p.num := by
  unfold Pg.put
  split <;> exact ⟨rfl, rfl, rfl⟩

/-- What 'read' holds: a reader, the page that it fills, the page that it will answer. -/
def RdS (w wr : World) (lo g2 g3 g4 : Nat) (s : St) (p : Pg) : Prop :=
  Rdr wr lo g3 s ∧ PgB wr g4 p ∧ PgB wr g2 pZ ∧ Below w.heap.size w wr ∧ w.heap.size ≤ g2 ∧ w.heap.size ≤ lo ∧ g2 < lo ∧ g2 < g4 ∧ (g4 < lo ∨ g3 < g4)
theorem RdS.rdr {w wr : World} {lo g2 g3 g4 : Nat} {s : St} {p : Pg} (h : RdS w wr lo g2 g3 g4 s p) : Rdr wr lo g3 s := h.1
theorem RdS.pg {w wr : World} {lo g2 g3 g4 : Nat} {s : St} {p : Pg} (h : RdS w wr lo g2 g3 g4 s p) : PgB wr g4 p := h.2.1
theorem RdS.res {w wr : World} {lo g2 g3 g4 : Nat} {s : St} {p : Pg} (h : RdS w wr lo g2 g3 g4 s p) : PgB wr g2 pZ := h.2.2.1
theorem RdS.bel {w wr : World} {lo g2 g3 g4 : Nat} {s : St} {p : Pg} (h : RdS w wr lo g2 g3 g4 s p) : Below w.heap.size w wr := h.2.2.2.1
theorem RdS.step {w wr wr' : World} {lo g2 g3 g4 : Nat} {s s' : St} {p : Pg} (h : RdS w wr lo g2 g3 g4 s p) (hg : wr.grownBy wr' (some g3)) (hr : Rdr wr' lo g3 s') : RdS w wr' lo g2 g3 g4 s' p := by
  obtain ⟨h1, h2, h3, h4, h5, h6, h7, h8, h9⟩ := h
  have := h1.lo_le
  refine ⟨hr, h2.grown hg (fun e => by injection e with e; omega), h3.grown hg (fun e => by injection e with e; omega), h4.grown hg h4.size (fun k hk => by injection hk with hk; omega), h5, h6, h7, h8, h9⟩
theorem RdS.own {w wr wr' : World} {lo g2 g3 g4 : Nat} {s : St} {p : Pg} {row : Option Nat} (h : RdS w wr lo g2 g3 g4 s p) (hg : wr.grownBy wr' row) (hk : ∀ k, row = some k → g3 < k ∧ g4 < k) : RdS w wr' lo g2 g3 g4 s p := by
  obtain ⟨h1, h2, h3, h4, h5, h6, h7, h8, h9⟩ := h
  have := h1.lo_le
  refine ⟨h1.keep hg (fun k e => .inr (hk k e).1), h2.grown hg (fun e => by have := hk _ e; omega), h3.grown hg (fun e => by have := hk _ e; omega), h4.grown hg h4.size (fun k e => by have := hk k e; omega), h5, h6, h7, h8, h9⟩
theorem RdS.page {w wr wr' : World} {lo g2 g3 g4 : Nat} {s : St} {p p' : Pg} (h : RdS w wr lo g2 g3 g4 s p) (hg : wr.grownBy wr' (some g4)) (hp : PgB wr' g4 p') : RdS w wr' lo g2 g3 g4 s p' := by
  obtain ⟨h1, h2, h3, h4, h5, h6, h7, h8, h9⟩ := h
  have := h1.lo_le
  refine ⟨h1.keep hg (fun k e => by injection e with e; omega), hp, h3.grown hg (fun e => by injection e with e; omega), h4.grown hg h4.size (fun k e => by injection e with e; omega), h5, h6, h7, h8, h9⟩
theorem RdS.renew {w wr wr' : World} {lo g2 g3 g4 g5 : Nat} {s s' : St} {p : Pg} (h : RdS w wr lo g2 g3 g4 s p) (hr : Rdr wr' wr.heap.size g5 s') (hb : Below wr.heap.size wr wr') : RdS w wr' wr.heap.size g2 g5 g4 s' p := by
  obtain ⟨h1, h2, h3, h4, h5, h6, h7, h8, h9⟩ := h
  have := h2.lt
  exact ⟨hr, h2.below hb, h3.below hb, h4.trans (hb.mono h4.size), h5, h4.size, by omega, h8, .inl this⟩
theorem Mine.grown {w w' : World} {base : Nat} {v : Value} {l : List UInt8} {row : Option Nat} (h : Mine w base v l) (hg : w.grownBy w' row) (hr : ∀ k, row = some k → k < base) : Mine w' base v l := by
  refine World.ownsRow.kept (row := row) h hg ?_
  cases hv : v.ownBlock with
  | none => exact .inl rfl
  | some k => refine .inr fun e => ?_; have := hr k e.symm; have := (World.ownsRow.lt h k hv).1; omega
theorem PgB.set_mark {w : World} {g : Nat} {p : Pg} (h : PgB w g p) (m : Nat) : PgB (w.setCell ⟨g, 0, none⟩ (.int .u64 (m : Int))) g ⟨m, p.ten, p.num, p.s⟩ := Blk.set_ h 0 _
theorem PgB.set_who {w : World} {g : Nat} {p : Pg} (h : PgB w g p) (t n : Nat) : PgB ((w.setCell ⟨g, 1, none⟩ (.int .i64 (t : Int))).setCell ⟨g, 2, none⟩ (.int .i64 (n : Int))) g ⟨p.mark, t, n, p.s⟩ := Blk.set_ (Blk.set_ h 1 _) 2 _
theorem grownBy_refl (w : World) (row : Option Nat) : w.grownBy w row := ⟨rfl, rfl, rfl, Nat.le_refl _, fun _ _ _ => rfl⟩
theorem num_8 {w : World} {lo g : Nat} {s : St} (h : Rdr w lo g s) (hm : s.rest.length ≤ 70368744177664) :
    Calls Try.prog 31 #[ptr g, .int .i64 8] w fun e w' => e = .returned (.int .u64 (s.num 8 : Int)) ∧ Rdr w' lo g (s.numSt 8) ∧ w.grownBy w' (some g) := num_any 8 h hm
theorem num_2 {w : World} {lo g : Nat} {s : St} (h : Rdr w lo g s) (hm : s.rest.length ≤ 70368744177664) :
    Calls Try.prog 31 #[ptr g, .int .i64 2] w fun e w' => e = .returned (.int .u64 (s.num 2 : Int)) ∧ Rdr w' lo g (s.numSt 2) ∧ w.grownBy w' (some g) := num_any 2 h hm
theorem take_56 {w : World} {lo g : Nat} {s : St} (h : Rdr w lo g s) (hm : s.rest.length ≤ 70368744177664) :
    Calls Try.prog 32 #[ptr g, .int .i64 56] w fun e w' => ∃ A c, e = .returned (.slice A (s.got 56).length c) ∧ Rd w' (.slice A (s.got 56).length c) (u8s (s.got 56)) ∧ Rdr w' lo g (s.take 56) ∧ w.grownBy w' (some g) :=
  (take_told 56 h hm).mono fun _ _ ⟨A, c, h1, h2, h3, h4, _⟩ => ⟨A, c, h1, h2, h3, h4⟩
theorem take_40 {w : World} {lo g : Nat} {s : St} (h : Rdr w lo g s) (hm : s.rest.length ≤ 70368744177664) :
    Calls Try.prog 32 #[ptr g, .int .i64 40] w fun e w' => ∃ A c, e = .returned (.slice A (s.got 40).length c) ∧ Rdr w' lo g (s.take 40) ∧ w.grownBy w' (some g) ∧
      (convert 31 9 (.slice A (s.got 40).length c)).run Try.prog w' = .ok (.string ⟨(s.got 40).toArray⟩) w' :=
  (take_told 40 h hm).mono fun _ _ ⟨A, c, h1, _, h3, h4, h5⟩ => ⟨A, c, h1, h3, h4, h5⟩
theorem pgb_zero (w : World) : PgB (w.alloc (.cells #[.int .u64 0, .int .i64 0, .int .i64 0, .string ⟨#[]⟩, .string ⟨#[]⟩, .string ⟨#[]⟩, .string ⟨#[]⟩, .string ⟨#[]⟩] 35)) w.heap.size pZ := heap_new w _
theorem rds_new {w w2 : World} {g3 : Nat} {s : St} (hr : Rdr w2 (w.alloc (.cells #[.int .u64 0, .int .i64 0, .int .i64 0, .string ⟨#[]⟩, .string ⟨#[]⟩, .string ⟨#[]⟩, .string ⟨#[]⟩, .string ⟨#[]⟩] 35)).heap.size g3 s) (hb : Below (w.alloc (.cells #[.int .u64 0, .int .i64 0, .int .i64 0, .string ⟨#[]⟩, .string ⟨#[]⟩, .string ⟨#[]⟩, .string ⟨#[]⟩, .string ⟨#[]⟩] 35)).heap.size (w.alloc (.cells #[.int .u64 0, .int .i64 0, .int .i64 0, .string ⟨#[]⟩, .string ⟨#[]⟩, .string ⟨#[]⟩, .string ⟨#[]⟩, .string ⟨#[]⟩] 35)) w2) :
    RdS w (w2.alloc (.cells #[.int .u64 0, .int .i64 0, .int .i64 0, .string ⟨#[]⟩, .string ⟨#[]⟩, .string ⟨#[]⟩, .string ⟨#[]⟩, .string ⟨#[]⟩] 35)) (w.heap.size + 1) w.heap.size g3 w2.heap.size s pZ := by
  have hs : (w.alloc (.cells #[.int .u64 0, .int .i64 0, .int .i64 0, .string ⟨#[]⟩, .string ⟨#[]⟩, .string ⟨#[]⟩, .string ⟨#[]⟩, .string ⟨#[]⟩] 35)).heap.size = w.heap.size + 1 := by simp
  have hb0 := (Below.refl w.heap.size w).alloc (Nat.le_refl _) (.cells #[.int .u64 0, .int .i64 0, .int .i64 0, .string ⟨#[]⟩, .string ⟨#[]⟩, .string ⟨#[]⟩, .string ⟨#[]⟩, .string ⟨#[]⟩] 35)
  have h2 := hb.size
  have hlt := hr.lt
  rw [hs] at hr h2
  refine ⟨hr.alloc _, pgb_zero w2, ((pgb_zero w).below hb).alloc _, ?_, Nat.le_refl _, by omega, by omega, by omega, .inr hlt⟩
  exact (hb0.trans (hb.mono (by rw [hs]; omega))).alloc (by omega) _
set_option maxRecDepth 20000 in
set_option maxHeartbeats 2000000 in
theorem read_pg (v : Value) (l : List UInt8) (w : World) (hm : l.length ≤ 1000000) (hv : Rd w v (u8s l)) :
    Calls Try.prog 24 #[v] w fun e w' => e = .returned (readP l).val ∧ Below w.heap.size w w' := by
  obtain ⟨i0, hi, hz0, hz1, hz2⟩ := info_parts info8
  have hv1 := hide (hv.alloc (.cells #[.int .u64 0, .int .i64 0, .int .i64 0, .string ⟨#[]⟩, .string ⟨#[]⟩, .string ⟨#[]⟩, .string ⟨#[]⟩, .string ⟨#[]⟩] 35))
  clear hv
  go_enter Try.func24, Try.ntmps24
  go_wp2_with (first
    | (go_at_call 30; (with_reducible refine (new_any _ l _ (by omega) hv1.out).mono ?_); rintro e w2 ⟨g3, rfl, hr2, hb2⟩; have R0 := hide (rds_new hr2 hb2); clear hr2 hb2))
  have hB := hide (show w2.heap.size < (w2.alloc (.cells #[.int .u64 0, .int .i64 0, .int .i64 0, .string ⟨#[]⟩, .string ⟨#[]⟩, .string ⟨#[]⟩, .string ⟨#[]⟩, .string ⟨#[]⟩] 35)).heap.size by simp)
  generalize w2.alloc (.cells #[.int .u64 0, .int .i64 0, .int .i64 0, .string ⟨#[]⟩, .string ⟨#[]⟩, .string ⟨#[]⟩, .string ⟨#[]⟩, .string ⟨#[]⟩] 35) = w3 at *
  generalize w2.heap.size = g4 at *
  go_loopg [5, 9] 4 (fun n v i wr => ∃ k : Nat, k + n = 4 ∧ i = .int .i64 k ∧ Hid (RdS w wr (w.heap.size + 1) w.heap.size g3 g4 (rdSt l k) ⟨rdMark l k, 0, 0, fun _ => ⟨#[]⟩⟩) ∧ Hid (Mine wr w3.heap.size v (rdSaid l k)) ∧ Hid (w3.heap.size ≤ wr.heap.size))
  case atStart => exact ⟨0, by omega, rfl, R0, hide (own_nil _ _ _), hide (Nat.le_refl _)⟩
  case round =>
    obtain ⟨k, hk, rfl, hr, hmi, hsz⟩ := hrel
    cases gk with
    | zero =>
      obtain rfl : k = 4 := by omega
      have hl4 := rdSaid_length l 4
      have hl6 : (⟨rdSaid l 4, false⟩ : St).rest.length ≤ 70368744177664 := Nat.le_trans hl4 (by omega)
      have hl7 : ((⟨rdSaid l 4, false⟩ : St).numSt 2).rest.length ≤ 70368744177664 := Nat.le_trans (St.numSt_length _ 2) hl6
      go_wp2_with (first
        | (go_at_call 30; (with_reducible refine (new_any _ (rdSaid l 4) _ (by omega) hmi.out.rd).mono ?_); rintro e w5 ⟨g5, rfl, hr5, hb5⟩; have R5 := hide (hr.out.renew hr5 hb5); clear hr5 hb5)
        | (go_at_call 31; (with_reducible refine (num_2 R5.out.rdr hl6).mono ?_); rintro e w6 ⟨rfl, hr6, hg6⟩; have R6 := hide (R5.out.step hg6 hr6); have n6 := St.num2_lt ⟨rdSaid l 4, false⟩; clear hr6 hg6)
        | (go_at_call 31; (with_reducible refine (num_2 R6.out.rdr hl7).mono ?_); rintro e w7 ⟨rfl, hr7, hg7⟩; have R7 := hide (R6.out.step hg7 hr7); have n7 := St.num2_lt ((⟨rdSaid l 4, false⟩ : St).numSt 2); have d1 := R7.out.pg.tenC; have d2 := R7.out.pg.numC; have f1 := R7.out.pg.frozen 1; have f2 := R7.out.pg.frozen 2; clear hr7 hg7))
      have R8 := hide (R7.out.page (grownBy_own (grownBy_own (grownBy_refl w7 (some g4)) 1 (.int .i64 ((⟨rdSaid l 4, false⟩ : St).num 2 : Int))) 2 (.int .i64 (((⟨rdSaid l 4, false⟩ : St).numSt 2).num 2 : Int))) (R7.out.pg.set_who ((⟨rdSaid l 4, false⟩ : St).num 2) (((⟨rdSaid l 4, false⟩ : St).numSt 2).num 2)))
      have HS := hide (slSt_length (rdSaid l 4))
      clear R7 R6 R5 n6 n7 d1 d2 f1 f2 hr hmi hsz
      go_loopg [29] 5 (fun n i wr2 => ∃ k : Nat, k + n = 5 ∧ i = .int .i64 k ∧ Hid (RdS w wr2 wr.heap.size w.heap.size g5 g4 (slSt (rdSaid l 4) k) (rdPg l k)))
      case atStart => exact ⟨0, by omega, rfl, R8⟩
      case round =>
        obtain ⟨k, hk, rfl, hr9⟩ := hrel
        cases gk with
        | zero =>
          obtain rfl : k = 5 := by omega
          have P9 := hr9.out.pg
          have Z9 := hr9.out.res
          have c0 := P9.markC
          have c1 := P9.tenC
          have c2 := P9.numC
          obtain ⟨c3, c4, c5, c6, c7⟩ := P9.slots
          have z0 := Z9.markC
          have z1 := Z9.tenC
          have z2 := Z9.numC
          obtain ⟨z3, z4, z5, z6, z7⟩ := Z9.slots
          have hfr := fun i => Z9.frozen i
          have HR := hide (show readP l = rdPg l 5 from rfl)
          clear P9 Z9
          go_wp2
          refine bodyPost_ret (v := (rdPg l 5).val) (by simp [results, Try.results24, go_sem, z0, z1, z2, z3, z4, z5, z6, z7, Pg.val, Pg.cells]) rfl ⟨by rw [HR.out], ?_⟩
          exact set8_below (p := rdPg l 5) hr9.out.bel (Nat.le_refl _)
        | succ n =>
          have hlt : k < 5 := by omega
          have hl8 : (slSt (rdSaid l 4) k).rest.length ≤ 70368744177664 := Nat.le_trans (HS.out k) hl6
          go_wp2_with (first
            | (go_at_call 32; (with_reducible refine (take_40 hr9.out.rdr hl8).mono ?_); rintro e w8 ⟨A, c, rfl, hr8, hg8, hcv⟩; have R9 := hide (hr9.out.step hg8 hr8); clear hr8 hg8)
            | (go_at_call 19; refine (set_any R9.out.pg k hlt ⟨((slSt (rdSaid l 4) k).got 40).toArray⟩).mono ?_; rintro e w9 ⟨rfl, hp9, hg9⟩; have R10 := hide (R9.out.page hg9 hp9); clear hp9 hg9))
          go_roundg n
          case rel => exact ⟨k + 1, by omega, by go_num, R10⟩
          case measure => omega
    | succ n =>
      have hlt : k < 4 := by omega
      have hl0 := rdSt_length l k
      have hl1 := Nat.le_trans ((rdSt l k).numSt_length 8) hl0
      have hls := rdSaid_length l k
      have hl5 : (((rdSt l k).numSt 8).got 56).length ≤ 56 := ((rdSt l k).numSt 8).got_le_n 56
      have g3lt := hide (show g3 < w3.heap.size from R0.out.rdr.lt)
      go_wp2_with (first
        | (go_at_call 31; (with_reducible refine (num_8 hr.out.rdr (by omega)).mono ?_); rintro e w4 ⟨rfl, hr4, hg4⟩; have R4 := hr.out.step hg4 hr4; have hm4 := hmi.out.grown hg4 (fun k hk => by injection hk with hk; have := g3lt.out; omega); have d0 := R4.pg.markC; have f0 := R4.pg.frozen 0; have hg5 := grownBy_own (grownBy_refl w4 (some g4)) 0 (.int .u64 ((rdSt l k).num 8 : Int)); have R5 := hide (R4.page hg5 (R4.pg.set_mark ((rdSt l k).num 8))); have hm5 := hide (hm4.grown hg5 (fun k hk => by injection hk with hk; have := hB.out; omega)); have hB5 := hide (Nat.le_trans hsz.out (Nat.le_trans hg4.size hg5.size)); clear hr4 hg4 hg5 hm4 R4)
        | (go_at_call 32; (with_reducible refine (take_56 R5.out.rdr (by omega)).mono ?_); rintro e w6 ⟨A, c, rfl, hrd6, hr6, hg6⟩; have R6 := hide (R5.out.step hg6 hr6); have hm6 := hide (hm5.out.grown hg6 (fun k hk => by injection hk with hk; have := g3lt.out; omega)); have hrd := hide hrd6; have hB6 := hide (Nat.le_trans hB5.out hg6.size); clear hr6 hg6 hrd6)
        | (at_builtin; refine wpList_append_rd rfl (.tmp 14) (.tmp 16) 31 rfl (base := w3.heap.size) 5 i0 (.int .u8 0) 1 Try.underlying31 hi hz0 hz1 hz2 rfl u5 _ _ rfl hm6.out (.slice A (((rdSt l k).numSt 8).got 56).length c) _ rfl hrd.out (oneCell_u8s _) (by rw [u8s_length]; unfold maxLen; omega) (by rw [u8s_length]; omega) hB6.out ?_; intro v7 w7 hown7 hgrow hat_))
      go_roundg n
      case rel =>
        refine ⟨k + 1, by omega, by go_num, hide (R6.out.own hgrow fun k hk => ?_), hide ?_, hide (Nat.le_trans hB6.out hgrow.size)⟩
        · have := (World.ownsRow.lt hm6.out k hk).1; have := g3lt.out; have := hB.out; omega
        · unfold Mine
          rw [rdSaid, List.length_append, u8s_append, ← u8s_length (((rdSt l k).numSt 8).got 56)]
          exact hown7
      case measure => omega
end Go.Proofs.Ytajpjffjhnmfmaa
