/-
  The calls of package roll on one region of a disk; the laws' fit.
-/
import Derived.Test.YtlplibgcfhamgaaRg15
namespace Go.Proofs.Ytlplibgcfhamgaa
open Go.RowKit
set_option maxRecDepth 20000
set_option linter.unusedSimpArgs false
set_option linter.unusedVariables false

section
variable {w : World} {X : Nat → Prop} {dg : Nat} {d : Ds} {g : Rg} {n k : Nat} {r : Int} {b : Sec}
/-- A region in memory; what a call leaves of all others. -/
structure Dr (w : World) (X : Nat → Prop) (dg : Nat) (d : Ds) (r : Int) (g : Rg) (n k : Nat) : Prop where
  m : Many w X [(dg, d)]
  a : At d r g n k
structure DrO (w : World) (X : Nat → Prop) (dg : Nat) (d : Ds) (r : Int) (g' : Rg) (n k' : Nat) (w' : World) (d' : Ds) : Prop where
  dr : Dr w' X dg d' r g' n k'
  e : Else r d d'
  o : Out X w w'
theorem dr_write {z : Int} {s c : Nat} (h : Dr w X dg d r g n k) (hk : k ≤ 900000) (hn : 1 ≤ n) (hz : knN z = s) :
    Calls Try.prog 10 #[.pointer (some ⟨dg, 0, none⟩), .int .i64 r, .agg #[.int .i64 z, .int .u64 (c : Int)]] w fun e w' => e = .returned (.int .i64 (writeG g s c).2) ∧ ∃ d', DrO w X dg d r (writeG g s c).1 n (k + 1) w' d' := by
  refine (rwrite_any h.m h.a.small hk hz).mono ?_
  rintro e w' ⟨rfl, hm, ho⟩
  obtain ⟨h1, h2, h3⟩ := write_at h.a hn s c
  exact ⟨by rw [h1], _, ⟨hm, h2⟩, h3, ho⟩
theorem dr_settle (h : Dr w X dg d r g n k) (hn : n ≤ 60000) (hk : k + n ≤ 800000) (hf : 538 ≤ n) (hb : g.secs[0]? = some b) :
    Calls Try.prog 11 #[.pointer (some ⟨dg, 0, none⟩), .int .i64 r] w fun e w' => e = .returned (.tuple #[.agg #[.int .i64 ((settleG g b (fulls g.secs 1 538)).1.1 : Int), .int .u64 ((settleG g b (fulls g.secs 1 538)).1.2 : Int)], .int .i64 (settleG g b (fulls g.secs 1 538)).2.1]) ∧ ∃ d', DrO w X dg d r (settleG g b (fulls g.secs 1 538)).2.2 n (k + 540) w' d' := by
  refine (settle_any h.m h.a.at_ h.a.fit h.a.size h.a.small hn hk hf hb).mono ?_
  rintro e w' ⟨rfl, hm, ho⟩
  have hl := fulls_length g.secs 1 538
  obtain ⟨h1, h2, h3, h4⟩ := settle_at h.a (by omega) b (fulls g.secs 1 538) (fun s hs => by have := fulls_lt hs; omega)
  exact ⟨by rw [h1, h2], _, ⟨hm, h3.more (by omega)⟩, h4, ho⟩
theorem dr_read (h : Dr w X dg d r g n k) (hn : 1 ≤ n) (hb : g.secs[0]? = some b) :
    Calls Try.prog 13 #[.pointer (some ⟨dg, 0, none⟩), .int .i64 r] w fun e w' => e = .returned (.tuple #[.agg #[.int .i64 (staB b : Int), .int .u64 (cntB b : Int)], .int .i64 0]) ∧ Below w.heap.size w w' := by
  obtain ⟨b', h1, h2, h3⟩ := rd_at h.a.at_ h.a.fit h.a.size (s := 0) (by omega)
  obtain rfl : b' = b := by rw [hb] at h2; exact (Option.some.inj h2).symm
  exact rread_any h.m h1 h3
theorem dr_crash (h : Dr w X dg d r g n k) (hk : k ≤ 900000) (mask : Nat) :
    Calls Try.prog 12 #[.pointer (some ⟨dg, 0, none⟩), .int .u64 (mask : Int)] w fun e w' => e = .returned (.tuple #[]) ∧ Dr w' X dg (d.crash (bitOf mask)) r (g.crash (bitOf mask)) n k ∧ Out X w w' := by
  refine (crash_many h.m (i := 0) rfl (h.a.small.more (by omega)) mask).mono ?_
  rintro e w' ⟨rfl, hm, ho⟩
  refine ⟨rfl, ⟨hm, ?_, h.a.fit.crash _, h.a.size, h.a.small.crash _⟩, ho⟩
  obtain ⟨i, rfl, hi, hri⟩ := at_some h.a.at_
  rw [at_nat]
  show (d.regs.map (Rg.crash (bitOf mask)))[i]? = _
  rw [List.getElem?_map, hri]
  rfl
theorem at_crash (d : Ds) (r : Int) (m : Nat → Bool) : (d.crash m).at? r = (d.at? r).map (Rg.crash m) := by
  unfold Ds.at?
  split
  · rfl
  · show (d.regs.map (Rg.crash m))[r.toNat]? = _
    rw [List.getElem?_map]
theorem dr_arm (h : Dr w X dg d r g n k) (z : Int) (hz : z < 9223372036854775808) :
    Calls Try.prog 15 #[.pointer (some ⟨dg, 0, none⟩), .int .i64 r, .int .i64 z] w fun e w' => e = .returned (.tuple #[]) ∧ ∃ d', DrO w X dg d r (g.arm z) n k w' d' := by
  refine (arm_many h.m (i := 0) rfl r z).mono ?_
  rintro e w' ⟨rfl, hm, ho⟩
  have e1 : d.ar r z = ⟨d.size, d.regs.set r.toNat (g.arm z), d.writes⟩ := by unfold Ds.ar; rw [h.a.at_]; rfl
  obtain ⟨h3, h4⟩ := at_set (g' := g.arm z) (wr := d.writes) h.a.at_
  refine ⟨rfl, _, ⟨hm, ?_, h.a.fit.arm z, ?_, h.a.small.ar r z hz⟩, ?_, ho⟩
  · rw [e1]; exact h3
  · rw [e1]; exact h.a.size
  · rw [e1]; exact h4
theorem dr_wr {bs : List UInt8} {A : Option Addr} {m c s : Nat} (h : Dr w X dg d r g n k) (hk : k ≤ 900000) (hs : s < n) (hm : bs.length = m) (hb : m ≤ 64) (hd : g.armed = false) (hv : Rd w (.slice A m c) (u8s bs)) :
    Calls Try.prog 8 #[.pointer (some ⟨dg, 0, none⟩), .int .i64 r, .int .i64 (s : Int), .slice A m c] w fun e w' => e = .returned (.int .i64 0) ∧ ∃ d', DrO w X dg d r (g.write s (pad bs)) n (k + 1) w' d' := by
  subst hm
  refine (write_many h.m (i := 0) rfl (h.a.small.more (by omega)) r (s : Int) A c bs hv).mono ?_
  rintro e w' ⟨rfl, hm, ho⟩
  obtain ⟨h1, h2, h3⟩ := h.a.wr hs rfl hb (down_up hd)
  exact ⟨by rw [h1], _, ⟨hm, h2⟩, h3, ho⟩
theorem dr_bar (h : Dr w X dg d r g n k) (hd : g.armed = false) :
    Calls Try.prog 9 #[.pointer (some ⟨dg, 0, none⟩), .int .i64 r] w fun e w' => e = .returned (.int .i64 0) ∧ ∃ d', DrO w X dg d r g.barrier n k w' d' := by
  refine (barrier_many h.m (i := 0) rfl r).mono ?_
  rintro e w' ⟨rfl, hm, ho⟩
  obtain ⟨h1, h2, h3⟩ := h.a.br (down_up hd)
  exact ⟨by rw [h1], _, ⟨hm, h2⟩, h3, ho⟩
theorem Dr.below {w' : World} (h : Dr w X dg d r g n k) (hb : Below w.heap.size w w') : Dr w' X dg d r g n k := ⟨h.m.below hb, h.a⟩
theorem Dr.alloc (h : Dr w X dg d r g n k) (o : Obj) : Dr (w.alloc o) X dg d r g n k := ⟨h.m.alloc o, h.a⟩
theorem Dr.wider {w' : World} (h : Dr w X dg d r g n k) (hb : Below w.heap.size w w') : Dr w' (Ext2 X w.heap.size w'.heap.size) dg d r g n k := ⟨h.m.more hb (fun k hk => hk), h.a⟩
theorem knN_nat {s : Nat} (h : s < 3) : knN (s : Int) = s := by
  have : s = 0 ∨ s = 1 ∨ s = 2 := by omega
  rcases this with rfl | rfl | rfl <;> rfl
/-- Another region of that disk. -/
theorem Dr.at {q : Int} {g' : Rg} (h : Dr w X dg d r g n k) (hq : d.at? q = some g') (hf : g'.Fit n) : Dr w X dg d q g' n k := ⟨h.m, hq, hf, h.a.size, h.a.small⟩
end
/-- A new disk. -/
theorem dr_new (m : Nat) (w : World) (h1 : 1 ≤ m) (h2 : m ≤ 64) : Calls Try.prog 7 #[.int .i64 (m : Int), .int .i64 538] w fun e w' => ∃ dg d, e = .returned (.pointer (some ⟨dg, 0, none⟩)) ∧ (∀ i : Nat, i < m → Dr w' (fun k => k < w.heap.size) dg d (i : Int) (Rg.new 538) 538 0) ∧ d.at? (m : Int) = none ∧ Below w.heap.size w w' := by
  refine (new_many (X := fun k => k < w.heap.size) (Many.nil (fun k hk => hk)) m 538 h1 h2 (by omega) (by omega)).mono ?_
  rintro e w' ⟨dg, rfl, hm, hb⟩
  refine ⟨dg, _, rfl, fun i hi => ⟨hm, ?_, Rg.new_fit 538, rfl, Small.new m 538⟩, ?_, hb⟩
  · rw [at_nat]
    show (List.replicate m (Rg.new 538))[i]? = _
    rw [List.getElem?_replicate, if_pos hi]
  · rw [at_nat]
    show (List.replicate m (Rg.new 538))[m]? = _
    rw [List.getElem?_replicate, if_neg (by omega)]
theorem new_sec (n i : Nat) (h : i < n) : (Rg.new n).secs[i]? = some zsec := by
  show (List.replicate n zsec)[i]? = _
  rw [List.getElem?_replicate, if_pos h]
theorem secs_barrier (g : Rg) : g.barrier.secs = g.secs := rfl
theorem line_sec {g : Rg} {n : Nat} (hf : g.Fit n) (hn : 1 ≤ n) (b : Sec) : (g.write 0 b).barrier.secs[0]? = some b := by
  rw [secs_barrier, Rg.secs_write, List.getElem?_set_self (by rw [hf.secs_length]; omega)]
theorem dr_new1 (w : World) : Calls Try.prog 7 #[.int .i64 1, .int .i64 538] w fun e w' => ∃ dg d, e = .returned (.pointer (some ⟨dg, 0, none⟩)) ∧ Dr w' (fun k => k < w.heap.size) dg d 0 (Rg.new 538) 538 0 ∧ Below w.heap.size w w' :=
  (dr_new 1 w (by omega) (by omega)).mono fun _ _ ⟨dg, d, he, h1, _, h3⟩ => ⟨dg, d, he, h1 0 (by omega), h3⟩
theorem dr_new2 (w : World) : Calls Try.prog 7 #[.int .i64 2, .int .i64 538] w fun e w' => ∃ dg d, e = .returned (.pointer (some ⟨dg, 0, none⟩)) ∧ Dr w' (fun k => k < w.heap.size) dg d 1 (Rg.new 538) 538 0 ∧ Below w.heap.size w w' :=
  (dr_new 2 w (by omega) (by omega)).mono fun _ _ ⟨dg, d, he, h1, _, h3⟩ => ⟨dg, d, he, h1 1 (by omega), h3⟩
theorem dr_new3 (w : World) : Calls Try.prog 7 #[.int .i64 3, .int .i64 538] w fun e w' => ∃ dg d, e = .returned (.pointer (some ⟨dg, 0, none⟩)) ∧ Dr w' (fun k => k < w.heap.size) dg d 0 (Rg.new 538) 538 0 ∧ Dr w' (fun k => k < w.heap.size) dg d 1 (Rg.new 538) 538 0 ∧ Dr w' (fun k => k < w.heap.size) dg d 2 (Rg.new 538) 538 0 ∧ d.at? 3 = none ∧ Below w.heap.size w w' :=
  (dr_new 3 w (by omega) (by omega)).mono fun _ _ ⟨dg, d, he, h1, h2, h3⟩ => ⟨dg, d, he, h1 0 (by omega), h1 1 (by omega), h1 2 (by omega), h2, h3⟩
theorem fit_any (w : World) : Calls Try.prog 6 #[] w fun e w' => e = .returned (.bool true) ∧ Below w.heap.size w w' := by
  have hnew := dr_new1 w
  have HL := hide (line_sec (g := Rg.new 538) (Rg.new_fit 538) (by omega) (pad (lineB 1 3)))
  go_enter Try.func6, Try.ntmps6
  go_wp2_with (first
    | (go_at_call 7; ((with_reducible refine hnew.mono ?_); rintro e w1 ⟨dg, d, rfl, hd1, hb1⟩; have B1 := hide hb1; have hwr := dr_write (z := 1) (s := 1) (c := 3) hd1 (by omega) (by omega) rfl; rw [writeG_up rfl, show ((3 : Nat) : Int) = 3 from rfl] at hwr; dsimp only at hwr; clear hb1 hd1 hnew))
    | (go_at_call 10; ((with_reducible refine hwr.mono ?_); rintro e w2 ⟨rfl, d2, hd2⟩; have O2 := hide hd2.o; have hrd := dr_read hd2.dr (by omega) HL.out; rw [staB_pad 1 3 (by omega), cntB_pad 1 3 (by omega)] at hrd; clear hd2 hwr))
    | (go_at_call 13; ((with_reducible refine hrd.mono ?_); rintro e w3 ⟨rfl, hb3⟩; have B3 := hide hb3; clear hb3 hrd)))
  go_ret
  have B2 := B1.out.trans (O2.out.below B1.out.size (fun k hk => hk))
  have B4 := B2.trans (B3.out.mono B2.size)
  exact ⟨rfl, B4.alloc B4.size _⟩
end Go.Proofs.Ytlplibgcfhamgaa
