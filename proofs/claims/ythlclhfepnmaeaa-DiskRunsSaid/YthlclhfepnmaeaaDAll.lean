/-
  Contract: a disk's Crash.
-/
import Derived.Test.YthlclhfepnmaeaaDCrash
import Derived.Test.YthlclhfepnmaeaaDRead
namespace Go.Proofs.Ythlclhfepnmaeaa
open Go.RowKit

/-- The first k regions behind a crash. -/
def Ds.some_ (d : Ds) (m : Nat → Bool) (k : Nat) : Ds := ⟨d.size, (d.regs.take k).map (Rg.crash m) ++ d.regs.drop k, d.writes⟩
theorem some_zero (d : Ds) (m : Nat → Bool) : d.some_ m 0 = d := by simp [Ds.some_]
theorem some_all (d : Ds) (m : Nat → Bool) : d.some_ m d.regs.length = d.crash m := by simp [Ds.some_, Ds.crash]
theorem some_length (d : Ds) (m : Nat → Bool) (k : Nat) : (d.some_ m k).regs.length = d.regs.length := by simp [Ds.some_]; omega
theorem some_get (d : Ds) (m : Nat → Bool) (k : Nat) (hk : k < d.regs.length) : (d.some_ m k).regs[k]? = some d.regs[k] := by
  unfold Ds.some_
  simp only
  rw [List.getElem?_append_right (by simp; omega)]
  simp only [List.length_map, List.length_take, Nat.min_eq_left (Nat.le_of_lt hk), Nat.sub_self, List.getElem?_drop, Nat.add_zero]
  exact List.getElem?_eq_getElem hk
theorem some_next (d : Ds) (m : Nat → Bool) (k : Nat) (hk : k < d.regs.length) : (⟨(d.some_ m k).size, (d.some_ m k).regs.set k (d.regs[k].crash m), (d.some_ m k).writes⟩ : Ds) = d.some_ m (k + 1) := by
  unfold Ds.some_
  simp only [Ds.mk.injEq, true_and, and_true]
  have hl : ((d.regs.take k).map (Rg.crash m)).length = k := by simp; omega
  rw [List.set_append_right _ _ (by omega), hl, Nat.sub_self, List.drop_eq_getElem_cons hk, List.set_cons_zero, List.take_succ_eq_append_getElem hk, List.map_append, List.append_assoc]
  rfl
theorem crash_nil (x : Int) (w : World) : Calls Try.prog 9 #[.pointer none, .int .u64 x] w fun e w' => e = .returned (.tuple #[]) ∧ w = w' := by
  go_enter Try.func9, Try.ntmps9
  go_wp2
  refine bodyPost_ret (results_none rfl _ _ _) rfl ?_
  exact ⟨rfl, rfl⟩

theorem crash_one {w : World} {lab : Nat → Nat} {g : Nat} {d : Ds} (h : DkAt w lab g d) (i mask : Nat) (hi : i < d.regs.length) (hm : d.regs[i].ws.length ≤ 1000000) {g2 : Nat} (hb0 : w.cell? ⟨g, 0, none⟩ = some (.slice (some ⟨g2, 0, none⟩) d.regs.length d.regs.length)) :
    Calls Try.prog 20 #[.pointer (some ⟨g2, i * 4, none⟩), .int .u64 (mask : Int)] w fun e w' => e = .returned (.tuple #[]) ∧ Hid (DkAt w' lab g ⟨d.size, d.regs.set i (d.regs[i].crash (bitOf mask)), d.writes⟩ ∧ DkStep w w' lab lab) ∧ w'.cell? ⟨g, 0, none⟩ = some (.slice (some ⟨g2, 0, none⟩) d.regs.length d.regs.length) := by
  obtain ⟨hl, hg, hz, g2', cs, hg2, hb, hb2, hcs, hall⟩ := id h
  have hri : d.regs[i]? = some d.regs[i] := List.getElem?_eq_getElem hi
  have e2 : g2' = g2 := by
    have := hb.cell 0 _ rfl
    rw [hb0] at this
    injection this with this
    injection this with this _ _
    injection this with this
    injection this with this _ _
    exact this.symm
  subst e2
  obtain ⟨sb, pv, c0, c1, c2, c3, hlsb, hsb, hown, hpl, hfit⟩ := id (hall i _ hri)
  have ne2 : g2' ≠ sb := fun e => by rw [e, hlsb] at hg2; omega
  have np2 : ∀ k, pv.ownBlock = some k → k ≠ g2' ∧ k ≠ sb := fun k hk => ⟨fun e => by have := hpl k hk; rw [e, hg2] at this; omega, fun e => by have := hpl k hk; rw [e, hlsb] at this; omega⟩
  have hlt : i * 4 + 3 < cs.size := (Array.getElem?_eq_some_iff.1 c3).1
  refine (crash_rg w g2' (i * 4) sb d.size mask cs d.regs[i] pv hb2 c0 c1 hlt hsb hfit hown hm np2 ne2).mono ?_
  rintro e w' ⟨rfl, hrow, hsec, hk⟩
  refine ⟨rfl, ?_, ?_⟩
  · refine dk_turned (r' := d.regs[i].crash (bitOf mask)) h hri hg2 hb hcs hall hk (fun k hc => ?_) hrow (by simp) (fun p hp => by rw [Array.getElem?_setIfInBounds, if_neg (by omega), Array.getElem?_setIfInBounds, if_neg (by omega), Array.getElem?_setIfInBounds, if_neg (by omega)])
      ⟨sb, .slice none 0 0, ?_, ?_, ?_, ?_, hlsb, hsec, ⟨rfl, .inl ⟨rfl, rfl⟩⟩, (fun _ h => by cases h), hfit.crash _⟩
    · rcases hc with rfl | rfl
      · exact .inl hg2
      · exact .inr (.inl hlsb)
    · rw [Array.getElem?_setIfInBounds, if_neg (by omega), Array.getElem?_setIfInBounds, if_neg (by omega), Array.getElem?_setIfInBounds, if_neg (by omega)]; exact c0
    · rw [Array.getElem?_setIfInBounds, if_neg (by omega), Array.getElem?_setIfInBounds, if_neg (by omega), Array.getElem?_setIfInBounds, if_pos rfl, if_pos (by omega)]
    · rw [Array.getElem?_setIfInBounds, if_neg (by omega), Array.getElem?_setIfInBounds, if_pos rfl, if_pos (by simp; omega)]; rfl
    · rw [Array.getElem?_setIfInBounds, if_pos rfl, if_pos (by simp; omega)]; rfl
  · exact (hk.cell (p := ⟨g, 0, none⟩) hb.lt (by rintro (e | e); rw [show g = g2' from e, hg2] at hg; cases hg; rw [show g = sb from e, hlsb] at hg; omega)).trans hb0

set_option maxHeartbeats 1000000 in
theorem crash_any {w : World} {lab : Nat → Nat} {g : Nat} {d : Ds} (h : DkAt w lab g d) (mask : Nat) (hm : ∀ r ∈ d.regs, r.ws.length ≤ 1000000) :
    Calls Try.prog 9 #[ptr g, .int .u64 (mask : Int)] w (fun e w' => e = .returned (.tuple #[]) ∧ DkAt w' lab g (d.crash (bitOf mask)) ∧ DkStep w w' lab lab) := by
  obtain ⟨_, _, hz, g2, cs, hg2, hb, _⟩ := id h
  have hc0 := hb.cell 0 _ rfl
  have hn64 : d.regs.length ≤ 64 := hz.2.2.2
  have HC := hide hc0
  have HD := hide h
  have HM := hide hm
  clear hb h hm
  unfold ptr
  go_enter Try.func9, Try.ntmps9
  go_wp2
  clear hc0
  go_loopw [12] (fun i wr => ∃ k : Nat, k ≤ d.regs.length ∧ i = .int .i64 k ∧ DkAt wr lab g (d.some_ (bitOf mask) k) ∧ DkStep w wr lab lab ∧ wr.cell? ⟨g, 0, none⟩ = some (.slice (some ⟨g2, 0, none⟩) d.regs.length d.regs.length)) (fun i _ => d.regs.length - (intOf i).toNat)
  case atStart => exact ⟨0, Nat.zero_le _, rfl, by rw [some_zero]; exact HD.out, DkStep.refl _ _, HC.out⟩
  case round =>
    obtain ⟨k, hk, rfl, hd, hst, hc⟩ := hrel
    by_cases hlt : k < d.regs.length
    · have hget := some_get d (bitOf mask) k hlt
      have hkl : k < (d.some_ (bitOf mask) k).regs.length := by rw [some_length]; exact hlt
      have hge : (d.some_ (bitOf mask) k).regs[k] = d.regs[k] := by
        rw [List.getElem?_eq_getElem hkl] at hget
        exact Option.some.inj hget
      have hcc := crash_one hd k mask hkl (by rw [hge]; exact HM.out _ (List.getElem_mem hlt)) (by rw [some_length]; exact hc)
      rw [hge, some_next d (bitOf mask) k hlt, some_length] at hcc
      have hk0 : (0 : Int) ≤ (k : Int) := by omega
      have hk1 : (k : Int) < (d.regs.length : Int) := by omega
      have HST := hide hst
      clear hget hge hd hst
      go_wp2_with (go_at_call 20; refine hcc.mono ?_; rintro e w1 ⟨rfl, hd1, hc1⟩)
      go_round
      case rel =>
        refine ⟨k + 1, by omega, by go_num, hd1.out.1, ⟨HST.out.1.trans hd1.out.2.1 (fun i hi => .inl hi), fun i hi => .inl hi⟩, hc1⟩
      case measure => simp [intOf]; omega
    · obtain rfl : k = d.regs.length := by omega
      rw [some_all] at hd
      go_wp2
      go_end0
      exact ⟨rfl, hd, hst⟩
end Go.Proofs.Ythlclhfepnmaeaa
