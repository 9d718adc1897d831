/-
  Package roll: known, Read, Write, Wipe, Settle, as functions of the disk's data.
-/
import Derived.Test.YtlplibgcfhamgaaWip15
namespace Go.Proofs.Ytlplibgcfhamgaa
open Go.RowKit
set_option maxRecDepth 20000
set_option linter.unusedSimpArgs false
set_option linter.unusedVariables false

/-- A state as it counts. -/
def knN (z : Int) : Nat := if z = 1 then 1 else if z = 2 then 2 else 0
theorem knN_le (z : Int) : knN z ≤ 2 := by unfold knN; split <;> (try split) <;> omega
theorem known_any (z : Int) (w : World) : Calls Try.prog 22 #[.int .i64 z] w fun e w' => e = .returned (.int .i64 (knN z : Int)) ∧ w = w' := by
  unfold knN
  by_cases h1 : z = 1
  · subst h1
    rw [if_pos rfl]
    go_enter Try.func22, Try.ntmps22
    go_wp2
    go_ret
    exact ⟨rfl, rfl⟩
  · rw [if_neg h1]
    have e1 : (z == 1) = false := by rw [beq_eq_false_iff_ne]; exact h1
    by_cases h2 : z = 2
    · subst h2
      rw [if_pos rfl]
      clear h1 e1
      go_enter Try.func22, Try.ntmps22
      go_wp2
      go_ret
      exact ⟨rfl, rfl⟩
    · rw [if_neg h2]
      have e2 : (z == 2) = false := by rw [beq_eq_false_iff_ne]; exact h2
      go_enter Try.func22, Try.ntmps22
      go_wp2
      go_ret
      exact ⟨rfl, rfl⟩
/-- A line's bytes; what a sector tells. -/
def lineB (s c : Nat) : List UInt8 := be 1 s ++ be 4 c
theorem lineB_length (s c : Nat) : (lineB s c).length = 5 := by simp [lineB, be_length]
def staB (b : Sec) : Nat := knN ((⟨b, false⟩ : St).num 1 : Nat)
def cntB (b : Sec) : Nat := ((⟨b, false⟩ : St).numSt 1).num 4
theorem staB_pad (s c : Nat) (h : s ≤ 2) : staB (pad (lineB s c)) = s := by
  unfold staB St.num St.got St.can
  have h1 : (1 : Int) ≤ ((pad (lineB s c)).length : Int) := by rw [pad_length _ (by rw [lineB_length]; omega)]; omega
  rw [if_pos (by omega)]
  simp only [Bool.not_false, Bool.true_and, h1, decide_true, if_true, show (0 : Int) ≤ 1 from by decide]
  rw [show (1 : Int).toNat = 1 from rfl, show (pad (lineB s c)).take 1 = be 1 s from by unfold pad lineB; rw [List.append_assoc, List.take_append_of_le_length (by simp [be_length])]; exact List.take_of_length_le (by simp [be_length]), val_be]
  have : s = 0 ∨ s = 1 ∨ s = 2 := by omega
  rcases this with rfl | rfl | rfl <;> rfl
theorem cntB_pad (s c : Nat) (h : c < 4294967296) : cntB (pad (lineB s c)) = c := by
  have hl : (pad (lineB s c)).length = 64 := pad_length _ (by rw [lineB_length]; omega)
  have h1 : (⟨pad (lineB s c), false⟩ : St).numSt 1 = ⟨(pad (lineB s c)).drop 1, false⟩ := by
    unfold St.numSt St.take St.can
    rw [if_pos (by omega)]
    simp [hl]
  unfold cntB
  rw [h1]
  unfold St.num St.got St.can
  have h4 : (4 : Int) ≤ (((pad (lineB s c)).drop 1).length : Int) := by rw [List.length_drop, hl]; decide
  rw [if_pos (by omega)]
  simp only [Bool.not_false, Bool.true_and, h4, decide_true, if_true, show (0 : Int) ≤ 4 from by decide]
  rw [show (4 : Int).toNat = 4 from rfl, show ((pad (lineB s c)).drop 1).take 4 = be 4 c from by
    unfold pad lineB
    rw [List.append_assoc, List.drop_append_of_le_length (by simp [be_length]), List.drop_of_length_le (by simp [be_length]), List.nil_append, List.take_append_of_le_length (by simp [be_length])]
    exact List.take_of_length_le (by simp [be_length]), val_be]
  omega
theorem staB_zero : staB zsec = 0 := by decide +kernel
theorem cntB_zero : cntB zsec = 0 := by decide +kernel
/-- What a line's writing makes of a disk, and what it answers. -/
def writeL (d : Ds) (r : Int) (s c : Nat) : Ds × Int :=
  if d.wrCode r 0 5 = 0 then ((d.wr r 0 (lineB s c)).br r, (d.wr r 0 (lineB s c)).brCode r) else (d.wr r 0 (lineB s c), d.wrCode r 0 5)
def settleL (d : Ds) (r : Int) (b : Sec) (full : List Nat) : (Nat × Nat) × Int × Ds :=
  if staB b = 1 then ((1, cntB b), 0, d) else
  if (wipeL d r full).2 = 0 then
    if staB b = 0 then ((0, cntB b), 0, (wipeL d r full).1) else
    if (writeL (wipeL d r full).1 r 0 (cntB b)).2 = 0 then ((0, cntB b), 0, (writeL (wipeL d r full).1 r 0 (cntB b)).1) else ((0, 0), (writeL (wipeL d r full).1 r 0 (cntB b)).2, (writeL (wipeL d r full).1 r 0 (cntB b)).1)
  else ((0, 0), (wipeL d r full).2, (wipeL d r full).1)
theorem put_1r (s : Nat) (w : World) : Calls Try.prog 21 #[.slice none 0 0, .int .i64 1, .int .u64 (s : Int)] w fun e w' => ∃ v', e = .returned v' ∧ Mine w' w.heap.size v' (be 1 s) ∧ Below w.heap.size w w' := put_any (.slice none 0 0) [] 1 s w (by decide) (by decide) (by decide) (Rd.nil_ _ _ _)
theorem put_4r {w : World} {v : Value} (s c : Nat) (hv : Rd w v (u8s (be 1 s))) : Calls Try.prog 21 #[v, .int .i64 4, .int .u64 (c : Int)] w fun e w' => ∃ v', e = .returned v' ∧ Mine w' w.heap.size v' (lineB s c) ∧ Below w.heap.size w w' := put_any v (be 1 s) 4 c w (by rw [be_length]; decide) (by decide) (by decide) hv
theorem blk_up {w w' : World} {o : Obj} {g : Nat} {t : TypeId} {cs : Array Value} (h : Blk (w.alloc o) g t cs) (hb : Below (w.heap.size + 1) (w.alloc o) w') : Blk w' g t cs := h.below (by rw [World.size_alloc]; exact hb)
theorem below_up {w w' : World} {o : Obj} (hb : Below (w.heap.size + 1) (w.alloc o) w') : Below w.heap.size w w' := ((Below.refl _ w).alloc (Nat.le_refl _) o).trans (hb.mono (by omega))
theorem num_1r {w : World} {lo g : Nat} {s : St} (h : Rdr w lo g s) (hm : s.rest.length ≤ 70368744177664) :
    Calls Try.prog 26 #[.pointer (some ⟨g, 0, none⟩), .int .i64 1] w fun e w' => e = .returned (.int .u64 (s.num 1 : Int)) ∧ Rdr w' lo g (s.numSt 1) ∧ w.grownBy w' (some g) := num_any 1 h hm
theorem num_4r {w : World} {lo g : Nat} {s : St} (h : Rdr w lo g s) (hm : s.rest.length ≤ 70368744177664) :
    Calls Try.prog 26 #[.pointer (some ⟨g, 0, none⟩), .int .i64 4] w fun e w' => e = .returned (.int .u64 (s.num 4 : Int)) ∧ Rdr w' lo g (s.numSt 4) ∧ w.grownBy w' (some g) := num_any 4 h hm
section
variable {w : World} {X : Nat → Prop} {dg : Nat} {d : Ds} {r : Int} {b : Sec}
theorem rread_no (h : Many w X [(dg, d)]) (hb : d.rd? r 0 = none) : Calls Try.prog 13 #[.pointer (some ⟨dg, 0, none⟩), .int .i64 r] w fun e w' => e = .returned (.tuple #[.agg #[.int .i64 0, .int .u64 0], .int .i64 1]) ∧ Below w.heap.size w w' := by
  have hread := read_many_bad (h.alloc (.cells #[.int .i64 0, .int .u64 0] 35)) (i := 0) rfl r 0 hb
  unfold ptr at hread
  clear h
  go_enter Try.func13, Try.ntmps13
  go_wp2_with (go_at_call 14; ((with_reducible refine hread.mono ?_); rintro e w2 ⟨rfl, rfl⟩))
  refine bodyPost_ret (v := .tuple #[.agg #[.int .i64 0, .int .u64 0], .int .i64 1]) (by simp [results, Try.results13, go_sem]) rfl ⟨rfl, ?_⟩
  exact (Below.refl _ _).alloc (Nat.le_refl _) _
set_option maxHeartbeats 1000000 in
theorem rread_any (h : Many w X [(dg, d)]) (hb : d.rd? r 0 = some b) (h64 : b.length = 64) : Calls Try.prog 13 #[.pointer (some ⟨dg, 0, none⟩), .int .i64 r] w fun e w' => e = .returned (.tuple #[.agg #[.int .i64 (staB b : Int), .int .u64 (cntB b : Int)], .int .i64 0]) ∧ Below w.heap.size w w' := by
  have hread := read_many (h.alloc (.cells #[.int .i64 0, .int .u64 0] 35)) (i := 0) rfl r 0 hb
  unfold ptr at hread
  simp only [World.size_alloc] at hread
  clear h hb
  unfold staB cntB
  have hn1 := (⟨b, false⟩ : St).num1_lt
  have hn4 := ((⟨b, false⟩ : St).numSt 1).num_lt 4
  have hl1 := (⟨b, false⟩ : St).numSt_length 1
  have HL := hide hl1
  clear hl1
  obtain ⟨x, hx⟩ : ∃ x, (⟨b, false⟩ : St).num 1 = x := ⟨_, rfl⟩
  obtain ⟨c, hc⟩ : ∃ c, ((⟨b, false⟩ : St).numSt 1).num 4 = c := ⟨_, rfl⟩
  rw [hx] at hn1 ⊢
  rw [hc] at hn4 ⊢
  have HX := hide hx
  have HC := hide hc
  have H64 := hide h64
  clear hx hc h64
  have hkn := fun w => known_any (x : Int) w
  obtain ⟨s, hs⟩ : ∃ s, knN (x : Int) = s := ⟨_, rfl⟩
  rw [hs]
  simp only [hs] at hkn
  clear hs
  have L1 := hide (Blk.new_ w #[.int .i64 0, .int .u64 0] 35 rfl)
  go_enter Try.func13, Try.ntmps13
  go_wp2_with (first
    | (go_at_call 14; ((with_reducible refine hread.mono ?_); rintro e w2 ⟨rfl, _, hblk, hm2, hb2⟩; have h1 := Rd.of_block hblk (n := 64) (c := 64) (by simp [H64.out, blk8_size]) (Nat.le_refl _); have B2 := hide (below_up hb2); have L2 := hide (blk_up L1.out hb2); clear hblk hm2 hb2 hread))
    | (go_at_call 25; ((with_reducible refine (new_any _ b _ (by have := H64.out; omega) h1).mono ?_); rintro e w3 ⟨g, rfl, hr3, hb3⟩; have R3 := hide hr3; have L3 := hide (L2.out.below hb3); have B3 := hide (B2.out.trans (hb3.mono B2.out.size)); have G3 := hide (show w.heap.size < g from by have := hr3.lo_le; have := L2.out.lt; omega); unfold ptr; clear hr3 hb3 h1))
    | (go_at_call 26; ((with_reducible refine (num_1r R3.out (by have := H64.out; show b.length ≤ _; omega)).mono ?_); rintro e w4 ⟨rfl, hr4, hg4⟩; rw [HX.out]; have R4 := hide hr4; have L4 := hide (L3.out.grown hg4 (fun e => by have := Option.some.inj e; have := G3.out; omega)); have B4 := hide (B3.out.grown hg4 B3.out.size (fun k hk => by cases hk; exact Nat.le_of_lt G3.out)); clear hr4 hg4))
    | (go_at_call 22; ((with_reducible refine (hkn _).mono ?_); rintro e w5 ⟨rfl, rfl⟩))
    | (go_at_call 26; ((with_reducible refine (num_4r R4.out (by have := H64.out; have := HL.out; omega)).mono ?_); rintro e w6 ⟨rfl, hr6, hg6⟩; rw [HC.out]; have L6 := hide (L4.out.grown hg6 (fun e => by have := Option.some.inj e; have := G3.out; omega)); have B6 := hide (B4.out.grown hg6 B4.out.size (fun k hk => by cases hk; exact Nat.le_of_lt G3.out)); have c0 := L6.out.cell 0 _ rfl; have c1 := L6.out.cell 1 _ rfl; have f0 := L6.out.frozen 0; have f1 := L6.out.frozen 1; clear hr6 hg6)))
  refine bodyPost_ret (v := .tuple #[.agg #[.int .i64 (s : Int), .int .u64 (c : Int)], .int .i64 0]) (by simp [results, Try.results13, go_sem, c0, c1, f0, f1]) rfl ⟨rfl, ?_⟩
  exact ((B6.out.setCell (Nat.le_refl _) _).setCell (Nat.le_refl _) _)
set_option maxHeartbeats 1000000 in
theorem rwrite_any {k : Nat} {z : Int} {s c : Nat} (h : Many w X [(dg, d)]) (hs : Small d k) (hk : k ≤ 900000) (hz : knN z = s) :
    Calls Try.prog 10 #[.pointer (some ⟨dg, 0, none⟩), .int .i64 r, .agg #[.int .i64 z, .int .u64 (c : Int)]] w fun e w' => e = .returned (.int .i64 (writeL d r s c).2) ∧ Many w' X [(dg, (writeL d r s c).1)] ∧ Out X w w' := by
  have hkn := fun w => known_any z w
  have hs2 := knN_le z
  simp only [hz] at hkn hs2
  have M1 := hide (h.alloc (.cells #[.int .i64 z, .int .u64 (c : Int)] 35))
  have B1 := hide ((Below.refl _ w).alloc (Nat.le_refl _) (.cells #[.int .i64 z, .int .u64 (c : Int)] 35))
  have L1 := hide (Blk.new_ w #[.int .i64 z, .int .u64 (c : Int)] 35 rfl)
  have SM := hide (hs.more (show k ≤ 1000000000000 by omega))
  have S2 := hide (hs.wr r 0 (lineB s c))
  unfold writeL
  obtain ⟨l2, hl2⟩ : ∃ l2, lineB s c = l2 := ⟨_, rfl⟩
  have h5 : l2.length = 5 := by rw [← hl2, lineB_length]
  have H5 := hide h5
  have HL2 := hide hl2
  rw [hl2] at S2 ⊢
  clear hl2 h hs h5 hz
  obtain ⟨cc, hcc⟩ : ∃ cc, d.wrCode r 0 5 = cc := ⟨_, rfl⟩
  rw [hcc]
  have HCC := hide hcc
  clear hcc
  by_cases h0 : cc = 0
  · subst h0
    rw [if_pos rfl]
    obtain ⟨bc, hbc⟩ : ∃ bc, (d.wr r 0 l2).brCode r = bc := ⟨_, rfl⟩
    have HBC := hide hbc
    rw [hbc]
    clear hbc
    go_enter Try.func10, Try.ntmps10
    go_wp2_with (first
      | (go_at_call 22; ((with_reducible refine (hkn _).mono ?_); rintro e w5 ⟨rfl, rfl⟩))
      | (go_at_call 21; ((with_reducible refine (put_1r s _).mono ?_); rintro e w2 ⟨v2, rfl, m2, b2⟩; obtain ⟨A2, c2, rfl⟩ := m2.form; have R2 := m2.rd; have L2 := L1.out.below b2; have d0 := L2.cell 0 _ rfl; have d1 := L2.cell 1 _ rfl; have M2 := hide (M1.out.below b2); have B2 := hide (B1.out.trans (b2.mono B1.out.size)); clear L2 m2 b2))
      | (go_at_call 21; ((with_reducible refine (put_4r s c R2).mono ?_); rintro e w3 ⟨v3, rfl, m3, b3⟩; rw [HL2.out] at m3; obtain ⟨A3, c3, rfl⟩ := m3.form; have hwr := write_many (M2.out.below b3) (i := 0) rfl SM.out r 0 A3 c3 l2 m3.rd; rw [H5.out, HCC.out] at hwr; rw [H5.out]; have B3 := hide (B2.out.trans (b3.mono B2.out.size)); unfold ptr at hwr; clear m3 b3 R2))
      | (go_at_call 8; ((with_reducible refine hwr.mono ?_); rintro e w4 ⟨rfl, hm4, ho4⟩; have M4 := hide hm4; have O4 := hide ((Out.of_below B3.out).trans ho4); clear hm4 ho4 hwr; have hbr := barrier_many M4.out (i := 0) rfl r; rw [HBC.out] at hbr; unfold ptr at hbr))
      | (go_at_call 9; ((with_reducible refine hbr.mono ?_); rintro e w5 ⟨rfl, hm5, ho5⟩; have M5 := hide hm5; have O5 := hide (O4.out.trans ho5); clear hm5 ho5 hbr)))
    go_ret
    exact ⟨rfl, M5.out, O5.out⟩
  · rw [if_neg h0]
    have hcb : (cc == 0) = false := by rw [beq_eq_false_iff_ne]; exact h0
    go_enter Try.func10, Try.ntmps10
    go_wp2_with (first
      | (go_at_call 22; ((with_reducible refine (hkn _).mono ?_); rintro e w5 ⟨rfl, rfl⟩))
      | (go_at_call 21; ((with_reducible refine (put_1r s _).mono ?_); rintro e w2 ⟨v2, rfl, m2, b2⟩; obtain ⟨A2, c2, rfl⟩ := m2.form; have R2 := m2.rd; have L2 := L1.out.below b2; have d0 := L2.cell 0 _ rfl; have d1 := L2.cell 1 _ rfl; have M2 := hide (M1.out.below b2); have B2 := hide (B1.out.trans (b2.mono B1.out.size)); clear L2 m2 b2))
      | (go_at_call 21; ((with_reducible refine (put_4r s c R2).mono ?_); rintro e w3 ⟨v3, rfl, m3, b3⟩; rw [HL2.out] at m3; obtain ⟨A3, c3, rfl⟩ := m3.form; have hwr := write_many (M2.out.below b3) (i := 0) rfl SM.out r 0 A3 c3 l2 m3.rd; rw [H5.out, HCC.out] at hwr; rw [H5.out]; have B3 := hide (B2.out.trans (b3.mono B2.out.size)); unfold ptr at hwr; clear m3 b3 R2))
      | (go_at_call 8; ((with_reducible refine hwr.mono ?_); rintro e w4 ⟨rfl, hm4, ho4⟩; have M4 := hide hm4; have O4 := hide ((Out.of_below B3.out).trans ho4); clear hm4 ho4 hwr)))
    go_ret
    exact ⟨rfl, M4.out, O4.out⟩
end
end Go.Proofs.Ytlplibgcfhamgaa
