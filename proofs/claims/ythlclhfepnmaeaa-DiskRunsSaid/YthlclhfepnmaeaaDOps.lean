/-
  Contracts: a disk's Write, Barrier, Arm, Read, Waits, Writes, Down.
-/
import Derived.Test.YthlclhfepnmaeaaDPut
import Derived.Laws.CopyOwn
namespace Go.Proofs.Ythlclhfepnmaeaa
open Go.RowKit

/-- The region that there is. -/
def Ds.at? (d : Ds) (r : Int) : Option Rg := if r < 0 then none else d.regs[r.toNat]?
/-- What Write answers. -/
def Ds.wrCode (d : Ds) (r s : Int) (n : Nat) : Int :=
  match d.at? r with
  | none => 1
  | some g => if s < 0 ∨ (d.size : Int) ≤ s ∨ 64 < n then 1 else if g.down then 10 else 0
def Ds.wr (d : Ds) (r s : Int) (l : List UInt8) : Ds :=
  match d.at? r with
  | none => d
  | some g => if s < 0 ∨ (d.size : Int) ≤ s ∨ 64 < l.length then d else if g.down then d else d.write r.toNat g s.toNat (pad l)
/-- What a call of a disk's leaves: its answer, the disk, the rest. -/
def DkRet (w : World) (lab : Nat → Nat) (g : Nat) (v : Value) (d' : Ds) (e : Ending) (w' : World) : Prop := e = .returned v ∧ ∃ lab', DkAt w' lab' g d' ∧ DkStep w w' lab lab'

theorem pad_splice (l : List UInt8) : splice (u8s zsec) 0 (u8s l) = u8s (pad l) := by
  unfold splice pad
  rw [u8s_append, List.take_zero, List.nil_append, Nat.zero_add, u8s_length, ← u8s_drop]
  congr 2
  exact List.drop_replicate ..

theorem write_bad0 {w : World} {lab : Nat → Nat} {g : Nat} {d : Ds} (h : DkAt w lab g d) (r s : Int) (A : Option Addr) (n c : Nat) (hr : d.at? r = none) :
    Calls Try.prog 6 #[ptr g, .int .i64 r, .int .i64 s, .slice A n c] w fun e w' => e = .returned (.int .i64 1) ∧ w = w' := by
  obtain ⟨_, _, _, g2, cs, _, hb, _⟩ := id h
  have hout : r < 0 ∨ (d.regs.length : Int) ≤ r := by
    unfold Ds.at? at hr
    split at hr
    · exact .inl ‹_›
    · right; rw [List.getElem?_eq_none_iff] at hr; omega
  go_enter Try.func6, Try.ntmps6
  go_wp2_with (first
    | (go_at_call 16; refine (region_out hb r hout).mono ?_; rintro e w1 ⟨rfl, rfl⟩)
    | (go_at_call 17; refine (has_nil s _).mono ?_; rintro e w1 ⟨rfl, rfl⟩))
  go_ret
  exact ⟨rfl, rfl⟩
theorem write_nil (r s : Int) (A : Option Addr) (n c : Nat) (w : World) : Calls Try.prog 6 #[.pointer none, .int .i64 r, .int .i64 s, .slice A n c] w fun e w' => e = .returned (.int .i64 1) ∧ w = w' := by
  go_enter Try.func6, Try.ntmps6
  go_wp2_with (first
    | (go_at_call 16; refine (region_nil r _).mono ?_; rintro e w1 ⟨rfl, rfl⟩)
    | (go_at_call 17; refine (has_nil s _).mono ?_; rintro e w1 ⟨rfl, rfl⟩))
  go_ret
  exact ⟨rfl, rfl⟩
theorem at_some {d : Ds} {r : Int} {rg : Rg} (h : d.at? r = some rg) : ∃ i : Nat, r = (i : Int) ∧ i < d.regs.length ∧ d.regs[i]? = some rg := by
  unfold Ds.at? at h
  split at h
  · cases h
  · refine ⟨r.toNat, by omega, (List.getElem?_eq_some_iff.1 h).1, h⟩
theorem write_bad1 {w : World} {lab : Nat → Nat} {g : Nat} {d : Ds} (h : DkAt w lab g d) (r s : Int) (A : Option Addr) (n c : Nat) {rg : Rg} (hr : d.at? r = some rg) (hs : s < 0 ∨ (d.size : Int) ≤ s) :
    Calls Try.prog 6 #[ptr g, .int .i64 r, .int .i64 s, .slice A n c] w fun e w' => e = .returned (.int .i64 1) ∧ w = w' := by
  obtain ⟨i, rfl, hi, hri⟩ := at_some hr
  obtain ⟨_, _, _, g2, cs, _, hb, hb2, hcs, hall⟩ := id h
  obtain ⟨sb, pv, c0, _⟩ := hall i rg hri
  have hc := hb2.cell _ _ c0
  go_enter Try.func6, Try.ntmps6
  go_wp2_with (first
    | (go_at_call 16; refine (region_some hb i hi).mono ?_; rintro e w1 ⟨rfl, rfl⟩)
    | (go_at_call 17; refine (has_no hc s hs).mono ?_; rintro e w1 ⟨rfl, rfl⟩))
  go_ret
  exact ⟨rfl, rfl⟩
theorem write_bad2 {w : World} {lab : Nat → Nat} {g : Nat} {d : Ds} (h : DkAt w lab g d) (r : Int) (s : Nat) (A : Option Addr) (n c : Nat) {rg : Rg} (hr : d.at? r = some rg) (hs : s < d.size) (hn : 64 < n) :
    Calls Try.prog 6 #[ptr g, .int .i64 r, .int .i64 (s : Int), .slice A n c] w fun e w' => e = .returned (.int .i64 1) ∧ w = w' := by
  obtain ⟨i, rfl, hi, hri⟩ := at_some hr
  obtain ⟨_, _, _, g2, cs, _, hb, hb2, hcs, hall⟩ := id h
  obtain ⟨sb, pv, c0, _⟩ := hall i rg hri
  have hc := hb2.cell _ _ c0
  have hn' : (64 : Int) < (n : Int) := by omega
  go_enter Try.func6, Try.ntmps6
  go_wp2_with (first
    | (go_at_call 16; refine (region_some hb i hi).mono ?_; rintro e w1 ⟨rfl, rfl⟩)
    | (go_at_call 17; refine (has_yes hc s hs).mono ?_; rintro e w1 ⟨rfl, rfl⟩))
  go_ret
  exact ⟨rfl, rfl⟩
theorem write_down {w : World} {lab : Nat → Nat} {g : Nat} {d : Ds} (h : DkAt w lab g d) (r : Int) (s : Nat) (A : Option Addr) (n c : Nat) {rg : Rg} (hr : d.at? r = some rg) (hs : s < d.size) (hn : n ≤ 64) (hd : rg.down = true) :
    Calls Try.prog 6 #[ptr g, .int .i64 r, .int .i64 (s : Int), .slice A n c] w fun e w' => e = .returned (.int .i64 10) ∧ w = w' := by
  obtain ⟨i, rfl, hi, hri⟩ := at_some hr
  obtain ⟨_, _, _, g2, cs, _, hb, hb2, hcs, hall⟩ := id h
  obtain ⟨sb, pv, c0, c1, c2, c3, _⟩ := hall i rg hri
  have hc := hb2.cell _ _ c0
  have hdn := down_any rg.armed rg.left (hb2.cell _ _ c2) (hb2.cell _ _ c3)
  unfold Rg.down at hd
  rw [hd] at hdn
  have hdec : decide ((64 : Int) < (n : Int)) = false := by simp; omega
  clear hd
  go_enter Try.func6, Try.ntmps6
  go_wp2_with (first
    | (go_at_call 16; refine (region_some hb i hi).mono ?_; rintro e w1 ⟨rfl, rfl⟩)
    | (go_at_call 17; refine (has_yes hc s hs).mono ?_; rintro e w1 ⟨rfl, rfl⟩)
    | (go_at_call 18; refine hdn.mono ?_; rintro e w1 ⟨rfl, rfl⟩))
  go_ret
  exact ⟨rfl, rfl⟩

set_option maxRecDepth 100000 in
set_option maxHeartbeats 2000000 in
theorem write_ok {w : World} {lab : Nat → Nat} {g : Nat} {d : Ds} (h : DkAt w lab g d) (r : Int) (s : Nat) (A : Option Addr) (c : Nat) (l : List UInt8) {rg : Rg} (hr : d.at? r = some rg) (hs : s < d.size) (hn : l.length ≤ 64) (hd : rg.down = false)
    (hv : Rd w (.slice A l.length c) (u8s l)) (hw : d.writes ≤ 1000000) (hm : rg.ws.length ≤ 1000000) (hl2 : rg.left < 9223372036854775808) :
    Calls Try.prog 6 #[ptr g, .int .i64 r, .int .i64 (s : Int), .slice A l.length c] w (DkRet w lab g (.int .i64 0) (d.write r.toNat rg s (pad l))) := by
  obtain ⟨i, rfl, hi, hri⟩ := at_some hr
  obtain ⟨hl, hg, hz, g2, cs, hg2, hb, hb2, hcs, hall⟩ := id h
  obtain ⟨sb, pv, c0, c1, c2, c3, hlsb, hsb, hown, hpl, hfit⟩ := hall i rg hri
  have hc := hb2.cell _ _ c0
  have hdn := down_any rg.armed rg.left (hb2.cell _ _ c2) (hb2.cell _ _ c3)
  have hd' : (rg.armed && rg.left == 0) = false := hd
  rw [hd'] at hdn
  have hdec : decide ((64 : Int) < (l.length : Int)) = false := by simp; omega
  have hleft : rg.armed = true → 0 < rg.left := by
    intro ha
    rw [ha, Bool.true_and, beq_eq_false_iff_ne] at hd'
    omega
  have hA : ∀ O, 0 < (u8s l).length → ∃ ad, A = some ad ∧ ∀ j v, (u8s l)[j]? = some v → (w.alloc O).cell? (ad.add j) = some v := by
    intro O hp
    obtain ⟨A', c', he, hcc, hcell⟩ := hv
    injection he with e1 e2 e3
    subst e1
    obtain ⟨b, o, rfl, hbl, hce⟩ := hcell hp
    refine ⟨_, rfl, fun j v hj => ?_⟩
    rw [addr_add]
    exact (World.cell?_alloc_lt w O ⟨b, o + j, none⟩ hbl).trans (hce j v hj)
  have HA := hide hA
  have HN := hide hn
  have hpad := pad_length l hn
  have HPAD := hide hpad
  have ne2 : g2 ≠ sb := fun e => by rw [e, hlsb] at hg2; omega
  have np2 : ∀ k, pv.ownBlock = some k → k ≠ g2 ∧ k ≠ sb := fun k hk => ⟨fun e => by have := hpl k hk; rw [e, hg2] at this; omega, fun e => by have := hpl k hk; rw [e, hlsb] at this; omega⟩
  have nS : ¬ (fun k => k = g2 ∨ k = sb ∨ pv.ownBlock = some k) g := by
    rintro (e | e | e)
    · rw [← e, hg] at hg2; cases hg2
    · rw [← e, hg] at hlsb; omega
    · have := hpl g e; omega
  have CC : ∀ w2, Below w.heap.size w w2 → Blk w2 w.heap.size 60 (u8s (pad l)).toArray →
      Calls Try.prog 19 #[.pointer (some ⟨g2, i * 4, none⟩), .int .i64 (s : Int), .agg (u8s (pad l)).toArray] w2 (fun e w3 => e = .returned (.tuple #[]) ∧ w3.cell? ⟨g, 1, none⟩ = some (.int .i64 (d.writes : Int)) ∧ w3.frozen? ⟨g, 1, none⟩ = false ∧
        Hid (∃ lab', DkAt (w3.setCell ⟨g, 1, none⟩ (.int .i64 ((d.writes + 1 : Nat) : Int))) lab' g (d.write i rg s (pad l)) ∧ DkStep w (w3.setCell ⟨g, 1, none⟩ (.int .i64 ((d.writes + 1 : Nat) : Int))) lab lab')) := by
    intro w2 hB2 _
    have hkb := Kept.of_below (S := fun _ => False) hB2
    refine (write_any w2 g2 (i * 4) sb s d.size rg.ws.length cs rg.secs pv (pcells rg.pend) rg.armed rg.left _ (pad l) (hb2.below hB2) c0 c1 c2 c3 (hsb.below hB2) hfit.secs_full hfit.secs_length hs rfl hpad (hkb.own hown (fun _ _ h => h)) hm ne2 np2 hleft (by omega)).mono ?_
    rintro e w3 ⟨rfl, v, hrow, hsec, hown3, hat3, hk3⟩
    have hk : Kept (fun k => k = g2 ∨ k = sb ∨ pv.ownBlock = some k) w w3 := (Kept.of_below hB2).trans_same hk3
    have hbg := hk.blk hb nS
    refine ⟨rfl, hbg.cell 1 _ rfl, hbg.frozen 1, ?_⟩
    refine dk_written h hri hs hpad hg2 hb hcs hall c0 c2 hlsb hpl hrow c3 hsec hown3 ?_ hk hfit
    rcases hat3 with h | ⟨k, h, hle⟩
    · exact .inl h
    · exact .inr ⟨k, h, Nat.le_trans hB2.size hle⟩
  have HH := hide h
  have HDR := hide hri
  clear hd hd' h hown hsb hall hfit hb2 hA nS np2 ne2 hpad hv
  unfold ptr
  go_enter Try.func6, Try.ntmps6
  go_wp2_with (first
    | (go_at_call 16; refine (region_some hb i hi).mono ?_; rintro e w1 ⟨rfl, rfl⟩)
    | (go_at_call 17; refine (has_yes hc s hs).mono ?_; rintro e w1 ⟨rfl, rfl⟩)
    | (go_at_call 18; refine hdn.mono ?_; rintro e w1 ⟨rfl, rfl⟩)
    | ((with_reducible refine wpList_copy_splice rfl (.tmp 25) (.tmp 26) 33 33 rfl 5 Try.underlying33 (by kernel_rfl) (some ⟨w.heap.size, 0, none⟩) A 64 64 l.length c rfl rfl w.heap.size 0 (u8s zsec) 60 ?_ (u8s l) ?_ ?_ ?_ (oneCell_u8s l) w.heap.size w ?_ (Nat.le_refl _) ?_); exact Blk.new_ w (u8s zsec).toArray _ rfl; (rw [u8s_length]; exact (Nat.min_eq_left HN.out).symm); exact (fun hp => ⟨rfl, HA.out _ hp⟩); (rw [u8s_length, u8s_length]; simpa [zsec] using HN.out); exact (Below.refl _ w).alloc (Nat.le_refl _) _; intro w2 HG2 hB2; have HB2 := hide hB2; have HG3 := hide (show Blk w2 w.heap.size 60 (u8s (pad l)).toArray by rw [← pad_splice l]; exact HG2.out); clear HG2 hB2)
    | ((with_reducible refine wpList_load_row rfl 60 (.tmp 10) rfl w.heap.size rfl 60 (u8s (pad l)).toArray (0, 0) _ ?_ Try.underlying60 ?_ ?_ ?_); exact HG3.out; rfl; (rw [List.size_toArray]; exact secInfo (pad l) HPAD.out))
    | (go_at_call 19; refine (CC w2 HB2.out HG3.out).mono ?_; rintro e w3 ⟨rfl, hc31, hf31, H3⟩))
  go_ret
  exact ⟨rfl, by simpa using H3.out⟩
end Go.Proofs.Ythlclhfepnmaeaa
