/-
  LaneGens' walk.
-/
import Derived.Test.YtlmoiepbnnfebaaFit
import Derived.WalkKit
namespace Go.Proofs.Ytlmoiepbnnfebaa
open Go.RowKit
set_option maxRecDepth 20000
set_option linter.unusedSimpArgs false
set_option linter.unusedVariables false

theorem and15 (x : Int) : ∃ m : Nat, m < 16 ∧ bits .and .i64 x 15 = (m : Int) := and_low x 4 (by omega)
theorem frs_check : (frsR [checkR]).length = 11 := by rw [frsR_one, checkR_frame]
section
variable {w w' : World} {X Y : Nat → Prop} {dg g r n k gen s : Nat} {up : Bool} {all : List Rc} {other : Option (List Rc)}
/-- A live lane, all of it sure, as what may be opened. -/
theorem Lv.crw {g : Rg} {n : Nat} {l : Ln} {all : List Rc} {s : Nat} (h : Lv g n l all s) : CrW g n l.r l.gen (all.take s) s none := by
  refine .inl ⟨l.bank, h.fit, h.size, h.quiet, h.lf.bank, ⟨h.gen1, h.lf.gen⟩, h.head, ?_, ?_, ?_⟩
  · rw [List.take_take, Nat.min_self]
    exact h.holds.mixed
  · rw [List.take_take, Nat.min_self]
    exact List.prefix_refl _
  · have h1 := h.lf.len
    rw [h.len] at h1
    have := (frsR_take all s).length_le
    omega
theorem Live.crd (h : Live w X dg g r n k gen true all s) : Crd w X dg r n k gen (all.take s) s none := by
  obtain ⟨d, l, kv, gr, h1, h2, h3, h4, h5, h6, h7⟩ := h
  subst h4
  subst h6
  exact ⟨d, gr, h1.many.more (Below.refl _ _) (fun k hk => .inl (.inl hk)), h2, h3.lf.r, h7 rfl, h5, fun q hq => h3.ok q (List.mem_of_mem_take hq), by rw [List.length_take]; have := h3.sle; omega, h3.crw⟩
/-- Anew of a Check alone. -/
theorem la_check (h : Live w X dg g 0 n k gen true all s) (hk : k ≤ 400000) (hg : gen + 1 ≤ 1000000) :
    Calls Try.prog 21 #[.pointer (some ⟨g, 0, none⟩), .slice (some ⟨w.heap.size, 0, none⟩) 1 1] (w.alloc (.cells CK 33)) fun e w' => e = .returned (.int .i64 0) ∧ Live w' X dg g 0 n (k + 700) (gen + 1) true [checkR] 1 ∧ Out X w w' := by
  have hb2 := (Below.refl _ w).alloc (Nat.le_refl _) (.cells CK 33)
  have hrec : RecsAt (w.alloc (.cells CK 33)) (fun _ => True) (.slice (some ⟨w.heap.size, 0, none⟩) 1 1) [checkR] := recs_one rfl (rin_nil _ _ _ _)
  refine (la_anew (h.below hb2) hk hg (by simp) hrec (fun q hq => by rw [List.mem_singleton] at hq; subst hq; exact checkR_ok) (by rw [frs_check]; omega)).mono ?_
  rintro e w' ⟨ok, rfl, h1, h2, h3, h4⟩
  rw [h1 rfl]
  exact ⟨rfl, h2 (h1 rfl), (Out.of_below hb2).trans h4⟩
end
set_option maxHeartbeats 8000000 in
theorem gens_walk (x : Int) (w : World) (_ : (Lit.int .i64 x).wf = true) : Calls Try.prog 11 #[.int .i64 x] w fun e w' => e = .returned (.bool true) ∧ Below w.heap.size w w' := by
  obtain ⟨m, hm, hand⟩ := and15 x
  have hfit := fit_any w
  have hsl := fun W => run_slice_one (P := Try.prog) W 34 33 #[.int .i64 1, .int .i64 0, .int .i64 0, .int .i64 0, .string ⟨#[]⟩, .string ⟨#[]⟩, .string ⟨#[]⟩, .slice none 0 0] #[.int .i64 0, .int .i64 0, .int .i64 0, .int .i64 0, .string ⟨#[]⟩, .string ⟨#[]⟩, .string ⟨#[]⟩, .slice none 0 0] 8 104 Try.underlying34 infoRec3 rfl (by omega) (by omega)
  have hm16 : (m : Int) ≤ 16 := by omega
  go_enter Try.func11, Try.ntmps11
  go_wp2_with (first
    | (go_at_call 12; ((with_reducible refine hfit.mono ?_); rintro e w0 ⟨rfl, hb0⟩; have B0 := hide hb0; have hnew := disk_new1 w0; clear hb0 hfit))
    | (go_at_call 14; ((with_reducible refine hnew.mono ?_); rintro e w1 ⟨dg, d, rfl, hm1, hd1, hdn, hb1⟩; have B1 := hide hb1; have hln := la_new0 hm1 hd1 hdn (by omega); clear hb1 hm1 hd1 hnew))
    | (go_at_call 15; ((with_reducible refine hln.mono ?_); rintro e w2 ⟨g, rfl, hv2, ho2⟩; have V2 := hide hv2; have O2 := hide ho2; clear hv2 ho2 hln)))
  go_loopw [6, 25] (fun u i wr => ∃ j lp : Nat, j ≤ m + 1 ∧ i = .int .i64 j ∧ u = .int .u64 lp ∧ lp ≤ j * 1048576 + 12 ∧ (j = 0 → lp = 0) ∧ Live wr (fun k => k < w0.heap.size) dg g 0 538 (700 + j * 700) (j + 1) true [checkR] 1 ∧ Out (fun k => k < w0.heap.size) w1 wr) (fun _ i _ => m + 1 - (intOf i).toNat)
  case atStart => exact ⟨0, 0, by omega, rfl, rfl, by omega, fun _ => rfl, by simpa using V2.out, O2.out⟩
  case round =>
    obtain ⟨j, lp, hj, rfl, rfl, hlp, hlp0, hv, ho⟩ := hrel
    by_cases hlt : j < m + 1
    · have V := hide hv
      have O := hide ho
      obtain ⟨pn, hpn⟩ : ∃ pn, (j + 1) * 1048576 + (frsR [checkR]).length + 1 = pn := ⟨_, rfl⟩
      have hend := la_end hv (by rw [frs_check]; omega)
      rw [hpn] at hend
      rw [frs_check] at hpn
      have hlt1 : (j : Int) < (m : Int) + 1 := by omega
      have hj16 : (j : Int) ≤ 16 := by omega
      have hp1 : ¬ (pn : Int) ≤ (lp : Int) := by omega
      have hp2 : (pn : Int) / 1048576 = (j : Int) + 1 := by omega
      have hpl : (pn : Int) ≤ 100000000 := by omega
      have HP := hide hpn
      have HLP := hide (And.intro hlp hlp0)
      clear hv ho hpn hlp hlp0
      go_wp2_with (first
        | (go_at_call 17; ((with_reducible refine hend.mono ?_); rintro e w3 ⟨rfl, hv3, ho3⟩; have O3 := hide (O.out.trans ho3); have han := la_check hv3 (by omega) (by omega); unfold CK at han; clear hv3 ho3 hend))
        | (go_at_call 21; ((with_reducible refine han.mono ?_); rintro e w4 ⟨rfl, hv4, ho4⟩; have V4 := hide hv4; have O4 := hide (O3.out.trans ho4); have hlen := la_len hv4; rw [frs_check] at hlen; unfold ptr at hlen; clear hv4 ho4 han))
        | (go_at_call 26; ((with_reducible refine hlen.mono ?_); rintro e w5 ⟨rfl, hb5⟩)))
      go_roundw
      case rel =>
        have h5 := (V4.out.below hb5).upto (k' := 700 + (j + 1) * 700) (by omega)
        have := HP.out
        exact ⟨j + 1, pn, by omega, by go_num, rfl, by omega, (fun h => by omega), h5, O4.out.trans (Out.of_below hb5)⟩
      case measure => simp [intOf]; omega
    · obtain rfl : j = m + 1 := by omega
      have hop := la_open0 hv.crd (by omega)
      have O := hide ho
      have hlt1 : ¬ ((m + 1 : Nat) : Int) < (m : Int) + 1 := by omega
      clear hv ho
      go_upto_region 18 with (go_at_call 23; ((with_reducible refine hop.mono ?_); rintro e w5 ⟨g5, v5, E5, all5, gen5, rfl, hw5, hv5, he5, hE5, ho5⟩; have O5 := hide (O.out.trans ho5)))
      have h5 : all5 = [checkR] ∧ gen5 = m + 1 + 1 := by
        rcases hw5 with ⟨hg5, j, h1, h2, h3⟩ | ⟨_, h1⟩
        · have : ([checkR]).take 1 = [checkR] := rfl
          rw [this] at h2 h3
          have hj1 : j = 1 := by simp at h2; omega
          rw [h3, hj1]
          exact ⟨rfl, hg5⟩
        · cases h1
      obtain ⟨rfl, rfl⟩ := h5
      obtain ⟨b, o, c, rfl, _, hc8⟩ := ents_first he5
      have B5 := hide (B0.out.trans ((B1.out.trans ((O5.out.below B1.out.size (fun k hk => hk)).mono (Nat.le_refl _))).mono B0.out.size))
      have hcast : (((m + 1 + 1) * 1048576 + 1 : Nat) : Int) = ((m : Int) + 1 + 1) * 1048576 + 1 := by omega
      rw [hcast] at hc8
      clear hw5 hv5 he5 hE5 ho5 hop
      go_wp2
      go_ret
      exact ⟨rfl, B5.out⟩
end Go.Proofs.Ytlmoiepbnnfebaa
