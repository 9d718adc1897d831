/-
  Contracts: a disk's Barrier, Arm, Waits, Writes, Down, Read.
-/
import Derived.Test.YthlclhfepnmaeaaDOps
namespace Go.Proofs.Ythlclhfepnmaeaa
open Go.RowKit

/-- Region i has turned, and nothing else. -/
theorem dk_turned {w w' : World} {lab : Nat → Nat} {g : Nat} {d : Ds} {i : Nat} {r r' : Rg} {S : Nat → Prop} (h : DkAt w lab g d) (hi : d.regs[i]? = some r) {g2 : Nat} {cs cs' : Array Value} (hg2 : lab g2 = 2)
    (hbg : Blk w g 52 #[.slice (some ⟨g2, 0, none⟩) d.regs.length d.regs.length, .int .i64 (d.writes : Int)]) (hcs : cs.size = d.regs.length * 4) (hall : ∀ i r, d.regs[i]? = some r → RgAt w lab cs i d.size r)
    (hk : Kept S w w') (hS : ∀ k, S k → lab k = 2 ∨ lab k = 3 + i * 2 ∨ lab k = 4 + i * 2) (hrow : Blk w' g2 56 cs') (hsize : cs'.size = cs.size) (hout : ∀ p, p < i * 4 ∨ i * 4 + 4 ≤ p → cs'[p]? = cs[p]?) (hri : RgAt w' lab cs' i d.size r') :
    DkAt w' lab g ⟨d.size, d.regs.set i r', d.writes⟩ ∧ DkStep w w' lab lab := by
  obtain ⟨hl, hg, hz, _⟩ := h
  have hilt : i < d.regs.length := (List.getElem?_eq_some_iff.1 hi).1
  refine ⟨⟨fun k hk' => Nat.lt_of_lt_of_le (hl k hk') hk.size, hg, by simpa using hz, g2, cs', hg2, by simpa using hk.blk hbg (fun hc => by have := hS _ hc; omega), hrow, by simp [hsize, hcs], fun j r'' hj => ?_⟩, hk.mono (fun k hk' => by have := hS _ hk'; left; omega), fun _ h => .inl h⟩
  simp only at hj ⊢
  rw [List.getElem?_set] at hj
  by_cases hji : i = j
  · subst hji
    rw [if_pos rfl, if_pos hilt] at hj
    injection hj with hj
    subst hj
    exact hri
  · rw [if_neg hji] at hj
    exact rg_others (i := i) (hall j r'' hj) (fun e => hji e.symm) hk (fun k hc => by have := hS _ hc; omega) hout (fun _ _ _ _ => rfl)

/-- What Barrier answers, and leaves. -/
def Ds.brCode (d : Ds) (r : Int) : Int := match d.at? r with | none => 1 | some g => if g.down then 10 else 0
def Ds.br (d : Ds) (r : Int) : Ds := match d.at? r with | none => d | some g => if g.down then d else d.barrier r.toNat g
def Ds.ar (d : Ds) (r n : Int) : Ds := match d.at? r with | none => d | some g => d.arm r.toNat g n

theorem out_of {d : Ds} {r : Int} (hr : d.at? r = none) : r < 0 ∨ (d.regs.length : Int) ≤ r := by
  unfold Ds.at? at hr
  split at hr
  · exact .inl ‹_›
  · right; rw [List.getElem?_eq_none_iff] at hr; omega

theorem barrier_bad {w : World} {lab : Nat → Nat} {g : Nat} {d : Ds} (h : DkAt w lab g d) (r : Int) (hr : d.at? r = none) :
    Calls Try.prog 8 #[ptr g, .int .i64 r] w fun e w' => e = .returned (.int .i64 1) ∧ w = w' := by
  obtain ⟨_, _, _, g2, cs, _, hb, _⟩ := id h
  have hout := out_of hr
  go_enter Try.func8, Try.ntmps8
  go_wp2_with (go_at_call 16; refine (region_out hb r hout).mono ?_; rintro e w1 ⟨rfl, rfl⟩)
  go_ret
  exact ⟨rfl, rfl⟩
theorem barrier_nil (r : Int) (w : World) : Calls Try.prog 8 #[.pointer none, .int .i64 r] w fun e w' => e = .returned (.int .i64 1) ∧ w = w' := by
  go_enter Try.func8, Try.ntmps8
  go_wp2_with (go_at_call 16; refine (region_nil r _).mono ?_; rintro e w1 ⟨rfl, rfl⟩)
  go_ret
  exact ⟨rfl, rfl⟩
theorem barrier_down {w : World} {lab : Nat → Nat} {g : Nat} {d : Ds} (h : DkAt w lab g d) (r : Int) {rg : Rg} (hr : d.at? r = some rg) (hd : rg.down = true) :
    Calls Try.prog 8 #[ptr g, .int .i64 r] w fun e w' => e = .returned (.int .i64 10) ∧ w = w' := by
  obtain ⟨i, rfl, hi, hri⟩ := at_some hr
  obtain ⟨_, _, _, g2, cs, _, hb, hb2, hcs, hall⟩ := id h
  obtain ⟨sb, pv, c0, c1, c2, c3, _⟩ := hall i rg hri
  have hdn := down_any rg.armed rg.left (hb2.cell _ _ c2) (hb2.cell _ _ c3)
  unfold Rg.down at hd
  rw [hd] at hdn
  clear hd
  go_enter Try.func8, Try.ntmps8
  go_wp2_with (first
    | (go_at_call 16; refine (region_some hb i hi).mono ?_; rintro e w1 ⟨rfl, rfl⟩)
    | (go_at_call 18; refine hdn.mono ?_; rintro e w1 ⟨rfl, rfl⟩))
  go_ret
  exact ⟨rfl, rfl⟩
theorem barrier_ok {w : World} {lab : Nat → Nat} {g : Nat} {d : Ds} (h : DkAt w lab g d) (r : Int) {rg : Rg} (hr : d.at? r = some rg) (hd : rg.down = false) :
    Calls Try.prog 8 #[ptr g, .int .i64 r] w (DkRet w lab g (.int .i64 0) (d.barrier r.toNat rg)) := by
  obtain ⟨i, rfl, hi, hri⟩ := at_some hr
  obtain ⟨_, hg, _, g2, cs, hg2, hb, hb2, hcs, hall⟩ := id h
  obtain ⟨sb, pv, c0, c1, c2, c3, hlsb, hsb, hown, hpl, hfit⟩ := id (hall i rg hri)
  have hdn := down_any rg.armed rg.left (hb2.cell _ _ c2) (hb2.cell _ _ c3)
  have hc1 := hb2.cell _ _ c1
  have hf1 := hb2.frozen (i * 4 + 1)
  unfold Rg.down at hd
  rw [hd] at hdn
  have hlt : i * 4 + 3 < cs.size := (Array.getElem?_eq_some_iff.1 c3).1
  have H := hide (show DkAt (w.setCell ⟨g2, i * 4 + 1, none⟩ (.slice none 0 0)) lab g (d.barrier i rg) ∧ DkStep w (w.setCell ⟨g2, i * 4 + 1, none⟩ (.slice none 0 0)) lab lab by
    have hk := Kept.setCell w ⟨g2, i * 4 + 1, none⟩ (.slice none 0 0)
    refine dk_turned (r' := rg.barrier) (cs' := cs.setIfInBounds (i * 4 + 1) (.slice none 0 0)) h hri hg2 hb hcs hall hk (fun k hc => .inl (by rw [show k = g2 from hc]; exact hg2)) (hb2.set_ _ _) (by simp)
      (fun p hp => by rw [Array.getElem?_setIfInBounds, if_neg (by omega)]) ⟨sb, .slice none 0 0, ?_, ?_, ?_, ?_, hlsb, ?_, ⟨rfl, .inl ⟨rfl, rfl⟩⟩, (fun _ h => by cases h), hfit.barrier⟩
    · rw [Array.getElem?_setIfInBounds, if_neg (by omega)]; exact c0
    · rw [Array.getElem?_setIfInBounds, if_pos rfl, if_pos (by omega)]
    · rw [Array.getElem?_setIfInBounds, if_neg (by omega)]; exact c2
    · rw [Array.getElem?_setIfInBounds, if_neg (by omega)]; exact c3
    · exact hk.blk hsb (fun hc => by have : sb = g2 := hc; rw [this, hg2] at hlsb; omega))
  clear hd hall hown hfit h
  unfold ptr
  go_enter Try.func8, Try.ntmps8
  go_wp2_with (first
    | (go_at_call 16; refine (region_some hb i hi).mono ?_; rintro e w1 ⟨rfl, rfl⟩)
    | (go_at_call 18; refine hdn.mono ?_; rintro e w1 ⟨rfl, rfl⟩))
  go_ret
  exact ⟨rfl, lab, H.out.1, H.out.2⟩
/-- Barrier, whatever region. -/
theorem barrier_any {w : World} {lab : Nat → Nat} {g : Nat} {d : Ds} (h : DkAt w lab g d) (r : Int) : Calls Try.prog 8 #[ptr g, .int .i64 r] w (DkRet w lab g (.int .i64 (d.brCode r)) (d.br r)) := by
  unfold Ds.brCode Ds.br
  cases hr : d.at? r with
  | none => exact (barrier_bad h r hr).mono fun e w' ⟨he, hw⟩ => ⟨he, lab, hw ▸ h, hw ▸ DkStep.refl _ _⟩
  | some rg =>
    simp only
    cases hd : rg.down
    · exact barrier_ok h r hr hd
    · exact (barrier_down h r hr hd).mono fun e w' ⟨he, hw⟩ => ⟨he, lab, hw ▸ h, hw ▸ DkStep.refl _ _⟩

theorem arm_nil (r n : Int) (w : World) : Calls Try.prog 10 #[.pointer none, .int .i64 r, .int .i64 n] w fun e w' => e = .returned (.tuple #[]) ∧ w = w' := by
  go_enter Try.func10, Try.ntmps10
  go_wp2_with (go_at_call 16; refine (region_nil r _).mono ?_; rintro e w1 ⟨rfl, rfl⟩)
  go_end0
  exact ⟨rfl, rfl⟩
theorem arm_bad {w : World} {lab : Nat → Nat} {g : Nat} {d : Ds} (h : DkAt w lab g d) (r n : Int) (hr : d.at? r = none) :
    Calls Try.prog 10 #[ptr g, .int .i64 r, .int .i64 n] w fun e w' => e = .returned (.tuple #[]) ∧ w = w' := by
  obtain ⟨_, _, _, g2, cs, _, hb, _⟩ := id h
  have hout := out_of hr
  go_enter Try.func10, Try.ntmps10
  go_wp2_with (go_at_call 16; refine (region_out hb r hout).mono ?_; rintro e w1 ⟨rfl, rfl⟩)
  go_end0
  exact ⟨rfl, rfl⟩
theorem arm_ok {w : World} {lab : Nat → Nat} {g : Nat} {d : Ds} (h : DkAt w lab g d) (r n : Int) {rg : Rg} (hr : d.at? r = some rg) :
    Calls Try.prog 10 #[ptr g, .int .i64 r, .int .i64 n] w (DkRet w lab g (.tuple #[]) (d.arm r.toNat rg n)) := by
  obtain ⟨i, rfl, hi, hri⟩ := at_some hr
  obtain ⟨_, hg, _, g2, cs, hg2, hb, hb2, hcs, hall⟩ := id h
  obtain ⟨sb, pv, c0, c1, c2, c3, hlsb, hsb, hown, hpl, hfit⟩ := id (hall i rg hri)
  have hlt : i * 4 + 3 < cs.size := (Array.getElem?_eq_some_iff.1 c3).1
  have hc2 := hb2.cell _ _ c2
  have hf2 := hb2.frozen (i * 4 + 2)
  have hc3 := hb2.cell _ _ c3
  have hf3 := hb2.frozen (i * 4 + 3)
  have H : ∀ z : Int, z = ((n.toNat : Nat) : Int) → Hid (DkAt ((w.setCell ⟨g2, i * 4 + 2, none⟩ (.bool true)).setCell ⟨g2, i * 4 + 3, none⟩ (.int .i64 z)) lab g (d.arm i rg n) ∧ DkStep w ((w.setCell ⟨g2, i * 4 + 2, none⟩ (.bool true)).setCell ⟨g2, i * 4 + 3, none⟩ (.int .i64 z)) lab lab) := by
    rintro z rfl
    have hk : Kept (fun k => k = g2) w ((w.setCell ⟨g2, i * 4 + 2, none⟩ (.bool true)).setCell ⟨g2, i * 4 + 3, none⟩ (.int .i64 ((n.toNat : Nat) : Int))) := (Kept.setCell w ⟨g2, i * 4 + 2, none⟩ (.bool true)).trans_same (Kept.setCell _ ⟨g2, i * 4 + 3, none⟩ _)
    refine dk_turned (r' := rg.arm n) (cs' := (cs.setIfInBounds (i * 4 + 2) (.bool true)).setIfInBounds (i * 4 + 3) (.int .i64 ((n.toNat : Nat) : Int))) h hri hg2 hb hcs hall hk (fun k hc => .inl (by rw [show k = g2 from hc]; exact hg2)) ((hb2.set_ _ _).set_ _ _) (by simp)
      (fun p hp => by rw [Array.getElem?_setIfInBounds, if_neg (by omega), Array.getElem?_setIfInBounds, if_neg (by omega)]) ⟨sb, pv, ?_, ?_, ?_, ?_, hlsb, ?_, ?_, hpl, hfit.arm n⟩
    · rw [Array.getElem?_setIfInBounds, if_neg (by omega), Array.getElem?_setIfInBounds, if_neg (by omega)]; exact c0
    · rw [Array.getElem?_setIfInBounds, if_neg (by omega), Array.getElem?_setIfInBounds, if_neg (by omega)]; exact c1
    · rw [Array.getElem?_setIfInBounds, if_neg (by omega), Array.getElem?_setIfInBounds, if_pos rfl, if_pos (by omega)]; rfl
    · rw [Array.getElem?_setIfInBounds, if_pos rfl, if_pos (by simp; omega)]; rfl
    · exact hk.blk hsb (fun hc => by have : sb = g2 := hc; rw [this, hg2] at hlsb; omega)
    · exact hk.own hown (fun k hk' hc => by have := hpl k hk'; rw [show k = g2 from hc, hg2] at this; omega)
  clear hall hown hfit h
  unfold ptr
  by_cases hn : n < 0
  · have H1 := H 0 (by omega)
    clear H
    go_enter Try.func10, Try.ntmps10
    go_wp2_with (go_at_call 16; refine (region_some hb i hi).mono ?_; rintro e w1 ⟨rfl, rfl⟩)
    go_end0
    exact ⟨rfl, lab, H1.out.1, H1.out.2⟩
  · have H1 := H n (by omega)
    have hn2 : 0 ≤ n := by omega
    clear H hn
    go_enter Try.func10, Try.ntmps10
    go_wp2_with (go_at_call 16; refine (region_some hb i hi).mono ?_; rintro e w1 ⟨rfl, rfl⟩)
    go_end0
    exact ⟨rfl, lab, H1.out.1, H1.out.2⟩
theorem arm_any {w : World} {lab : Nat → Nat} {g : Nat} {d : Ds} (h : DkAt w lab g d) (r n : Int) : Calls Try.prog 10 #[ptr g, .int .i64 r, .int .i64 n] w (DkRet w lab g (.tuple #[]) (d.ar r n)) := by
  unfold Ds.ar
  cases hr : d.at? r with
  | none => exact (arm_bad h r n hr).mono fun e w' ⟨he, hw⟩ => ⟨he, lab, hw ▸ h, hw ▸ DkStep.refl _ _⟩
  | some rg => exact arm_ok h r n hr

/-- Waits, Down, Writes. -/
def Ds.waits (d : Ds) (r : Int) : Nat := match d.at? r with | none => 0 | some g => g.ws.length
def Ds.dn (d : Ds) (r : Int) : Bool := match d.at? r with | none => false | some g => g.down
theorem waits_any {w : World} {lab : Nat → Nat} {g : Nat} {d : Ds} (h : DkAt w lab g d) (r : Int) : Calls Try.prog 13 #[ptr g, .int .i64 r] w fun e w' => e = .returned (.int .i64 (d.waits r : Int)) ∧ w = w' := by
  obtain ⟨_, _, _, g2, cs, _, hb, hb2, hcs, hall⟩ := id h
  unfold Ds.waits
  cases hr : d.at? r with
  | none =>
    have hout := out_of hr
    simp only
    go_enter Try.func13, Try.ntmps13
    go_wp2_with (go_at_call 16; refine (region_out hb r hout).mono ?_; rintro e w1 ⟨rfl, rfl⟩)
    go_ret
    exact ⟨rfl, rfl⟩
  | some rg =>
    obtain ⟨i, rfl, hi, hri⟩ := at_some hr
    obtain ⟨sb, pv, c0, c1, c2, c3, _, _, hown, _, _⟩ := hall i rg hri
    obtain ⟨A, c, rfl⟩ := own_form_n hown
    have hc1 := hb2.cell _ _ c1
    simp only
    clear hown hall
    go_enter Try.func13, Try.ntmps13
    go_wp2_with (go_at_call 16; refine (region_some hb i hi).mono ?_; rintro e w1 ⟨rfl, rfl⟩)
    go_ret
    exact ⟨rfl, rfl⟩
theorem waits_nil (r : Int) (w : World) : Calls Try.prog 13 #[.pointer none, .int .i64 r] w fun e w' => e = .returned (.int .i64 0) ∧ w = w' := by
  go_enter Try.func13, Try.ntmps13
  go_wp2_with (go_at_call 16; refine (region_nil r _).mono ?_; rintro e w1 ⟨rfl, rfl⟩)
  go_ret
  exact ⟨rfl, rfl⟩
theorem dn_any {w : World} {lab : Nat → Nat} {g : Nat} {d : Ds} (h : DkAt w lab g d) (r : Int) : Calls Try.prog 14 #[ptr g, .int .i64 r] w fun e w' => e = .returned (.bool (d.dn r)) ∧ w = w' := by
  obtain ⟨_, _, _, g2, cs, _, hb, hb2, hcs, hall⟩ := id h
  unfold Ds.dn
  cases hr : d.at? r with
  | none =>
    have hout := out_of hr
    simp only
    go_enter Try.func14, Try.ntmps14
    go_wp2_with (go_at_call 16; refine (region_out hb r hout).mono ?_; rintro e w1 ⟨rfl, rfl⟩)
    go_ret
    exact ⟨rfl, rfl⟩
  | some rg =>
    obtain ⟨i, rfl, hi, hri⟩ := at_some hr
    obtain ⟨sb, pv, c0, c1, c2, c3, _⟩ := hall i rg hri
    have hdn := down_any rg.armed rg.left (hb2.cell _ _ c2) (hb2.cell _ _ c3)
    simp only
    rw [show (rg.armed && rg.left == 0) = rg.down from rfl] at hdn
    generalize rg.down = b at *
    clear hall
    go_enter Try.func14, Try.ntmps14
    go_wp2_with (first
      | (go_at_call 16; refine (region_some hb i hi).mono ?_; rintro e w1 ⟨rfl, rfl⟩)
      | (go_at_call 18; refine hdn.mono ?_; rintro e w1 ⟨rfl, rfl⟩))
    go_ret
    exact ⟨rfl, rfl⟩
theorem dn_nil (r : Int) (w : World) : Calls Try.prog 14 #[.pointer none, .int .i64 r] w fun e w' => e = .returned (.bool false) ∧ w = w' := by
  go_enter Try.func14, Try.ntmps14
  go_wp2_with (go_at_call 16; refine (region_nil r _).mono ?_; rintro e w1 ⟨rfl, rfl⟩)
  go_ret
  exact ⟨rfl, rfl⟩
theorem writes_any {w : World} {lab : Nat → Nat} {g : Nat} {d : Ds} (h : DkAt w lab g d) : Calls Try.prog 15 #[ptr g] w fun e w' => e = .returned (.int .i64 (d.writes : Int)) ∧ w = w' := by
  obtain ⟨_, _, _, g2, cs, _, hb, _⟩ := id h
  have hc := hb.cell 1 _ rfl
  clear hb h
  unfold ptr
  go_enter Try.func15, Try.ntmps15
  go_wp2
  go_ret
  exact ⟨rfl, rfl⟩
theorem writes_nil (w : World) : Calls Try.prog 15 #[.pointer none] w fun e w' => e = .returned (.int .i64 0) ∧ w = w' := by
  go_enter Try.func15, Try.ntmps15
  go_wp2
  go_ret
  exact ⟨rfl, rfl⟩
end Go.Proofs.Ythlclhfepnmaeaa
