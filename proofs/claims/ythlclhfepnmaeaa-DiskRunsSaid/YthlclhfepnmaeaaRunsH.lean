/-
  The walk of DiskRuns.
-/
import Derived.Test.YthlclhfepnmaeaaRunsG
namespace Go.Proofs.Ythlclhfepnmaeaa
open Go.RowKit

def PC0 : Array Value := #[.string ⟨#[]⟩, .string ⟨#[]⟩, .string ⟨#[]⟩, .string ⟨#[]⟩, .string ⟨#[]⟩, .string ⟨#[]⟩, .string ⟨#[]⟩, .string ⟨#[]⟩, .string ⟨#[]⟩, .string ⟨#[]⟩, .string ⟨#[]⟩, .string ⟨#[]⟩, .string ⟨#[]⟩, .string ⟨#[]⟩, .string ⟨#[]⟩, .string ⟨#[]⟩, .string ⟨#[]⟩, .string ⟨#[]⟩, .string ⟨#[]⟩, .string ⟨#[]⟩, .string ⟨#[]⟩, .string ⟨#[]⟩, .string ⟨#[]⟩, .string ⟨#[]⟩, .slice none 0 0, .slice none 0 0, .slice none 0 0, .int .i64 (-1), .int .i64 (-1), .int .i64 (-1)]
theorem rn_new {w : World} {X : Nat → Prop} (hm : Many w X []) : Calls Try.prog 5 #[.int .i64 3, .int .i64 8] w fun e w' => ∃ g, e = .returned (ptr g) ∧ Many w' X [(g, ⟨8, List.replicate 3 (Rg.new 8), 0⟩)] ∧ Below w.heap.size w w' := new_many hm 3 8 (by omega) (by omega) (by omega) (by omega)
theorem rn_n {w : World} {X : Nat → Prop} {d n : Nat} {D : Ds} (hm : Many w X [(d, D)]) (hn : D.writes = n) : Calls Try.prog 15 #[ptr d] w fun e w' => e = .returned (.int .i64 (n : Int)) ∧ w = w' := by
  subst hn
  exact writes_many (i := 0) hm rfl
theorem runs_tie0 (w : World) : Tie w ⟨8, List.replicate 3 (Rg.new 8), 0⟩ (fun _ _ => []) (fun _ => []) (fun _ => -1) 0 0 :=
  ⟨Shape.new 3 8, rfl, fun r hr => ⟨Rg.new 8, by rw [at_nat, List.getElem?_replicate, if_pos hr], Is.new⟩, fun _ _ _ hx => (by cases hx), fun _ _ => Nat.le_refl _, Small.new 3 8, Nat.le_refl _⟩
theorem runs_md0 {w : World} {b1 gm : Nat} (hb : Blk w gm 32 PC0) (_ : w.heap.size = w.heap.size) : Md w b1 gm PC0 (fun _ _ => []) (fun _ => []) (fun _ => -1) (fun _ => .slice none 0 0) := by
  refine ⟨hb, rfl, fun r s hr hs => ?_, fun r hr => ?_, fun r hr => ?_, fun _ _ => own5_nil _ _ _, fun _ _ _ h => (by cases h), fun _ _ _ _ _ _ h => (by cases h)⟩
  · have : ∀ r : Fin 3, ∀ s : Fin 8, PC0[r.val * 8 + s.val]? = some (.string ⟨#[]⟩) := fun ⟨r, hr⟩ ⟨s, hs⟩ => by
      match r, hr, s, hs with
      | 0, _, 0, _ | 0, _, 1, _ | 0, _, 2, _ | 0, _, 3, _ | 0, _, 4, _ | 0, _, 5, _ | 0, _, 6, _ | 0, _, 7, _ => rfl
      | 1, _, 0, _ | 1, _, 1, _ | 1, _, 2, _ | 1, _, 3, _ | 1, _, 4, _ | 1, _, 5, _ | 1, _, 6, _ | 1, _, 7, _ => rfl
      | 2, _, 0, _ | 2, _, 1, _ | 2, _, 2, _ | 2, _, 3, _ | 2, _, 4, _ | 2, _, 5, _ | 2, _, 6, _ | 2, _, 7, _ => rfl
    exact this ⟨r, hr⟩ ⟨s, hs⟩
  · match r, hr with
    | 0, _ | 1, _ | 2, _ => rfl
  · match r, hr with
    | 0, _ | 1, _ | 2, _ => rfl

set_option maxRecDepth 100000 in
set_option maxHeartbeats 16000000 in
theorem runs_walk (v : Value) (cs : List CallD) (w : World) (hv : CallRow w w.heap.size v cs) :
    Calls Try.prog 3 #[v] w fun e w' => e = .returned (.bool true) ∧ Below w.heap.size w w' := by
  obtain ⟨A, c, rfl, _, _⟩ := id hv
  by_cases hlong : 200 < cs.length
  · have hl : (200 : Int) < (cs.length : Int) := by omega
    go_enter Try.func3, Try.ntmps3
    go_wp2_with (go_at_call 4; refine (fit_any _).mono ?_; rintro e w1 ⟨rfl, hb1⟩)
    go_ret
    exact ⟨rfl, hb1⟩
  have h200 : cs.length ≤ 200 := by omega
  have hl : decide ((200 : Int) < (cs.length : Int)) = false := by simp; omega
  have HV := hide hv
  clear hv hlong
  go_enter Try.func3, Try.ntmps3
  go_wp2_with (first
    | (go_at_call 4; refine (fit_any _).mono ?_; rintro e w1 ⟨rfl, hb1⟩; have HM0 := hide (show Many w1 (fun k => k < w.heap.size) [] from Many.nil (fun k h => Nat.lt_of_lt_of_le h hb1.size)); have HB1 := hide hb1; clear hb1)
    | (go_at_call 5; refine (rn_new HM0.out).mono ?_; rintro e wd ⟨d, rfl, hm2, hb2⟩; have HM2 := hide hm2; have HB2 := hide (HB1.out.trans (hb2.mono HB1.out.size)); clear hm2 hb2))
  have hblk0 := Blk.new_ wd PC0 32 rfl
  have hS : St w (wd.alloc (.cells PC0 32)) wd.heap.size d 0 0 _ PC0 (fun _ _ => []) (fun _ => []) (fun _ => -1) (fun _ => .slice none 0 0) := ⟨runs_tie0 w, runs_md0 hblk0 rfl, HM2.out.more ((Below.refl _ _).alloc (Nat.le_refl _) _) (fun k hk => by
      rcases hk with hk | hk | ⟨_, _, hk⟩
      · exact .inl hk
      · exact .inr ⟨by omega, by rw [hk]; simp⟩
      · cases hk), HB2.out.alloc HB2.out.size _⟩
  refine runs_o HV.out h200 HB2.out.size hS ⟨rfl, rfl, rfl, rfl, rfl, rfl, rfl⟩ ?_ ?_
  · intro tm' w' hs f2 hb
    have k2 := slot_at f2 (by omega)
    clear HM0 HB1 HM2 HB2 hblk0 hS HV
    go_ret
    exact ⟨by simp [Array.getD_eq_getD_getElem?, hs, k2], hb⟩
  · intro tm' w' n D PC dat wt lf vs hs f3 f5 hS'
    have k3 := slot_at f3 (by omega)
    have k5 := slot_at f5 (by omega)
    clear HM0 HB1 HM2 HB2 hblk0 hS HV
    have hcall := rn_n hS'.many hS'.tie.writes
    have HLE := hide hS'.le
    clear hS'
    go_wp2_with (go_at_call 15; refine hcall.mono ?_; rintro e w8 ⟨rfl, rfl⟩)
    go_ret
    exact ⟨by simp [Array.getD_eq_getD_getElem?, hs], HLE.out⟩
end Go.Proofs.Ythlclhfepnmaeaa
