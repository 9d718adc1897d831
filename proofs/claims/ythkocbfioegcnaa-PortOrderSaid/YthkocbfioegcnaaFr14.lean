/-
  The laws' calls, each beside all that a call has of its own; PortSizes' walk.
-/
import Derived.Test.YthkocbfioegcnaaRo14
import Derived.Test.YthkocbfioegcnaaRis14
namespace Go.Proofs.Ythkocbfioegcnaa
open Go.RowKit
set_option maxRecDepth 20000
set_option linter.unusedSimpArgs false
set_option linter.unusedVariables false

section
variable {A0 W : World} {F0 : Nat → Prop} {L : List Res} {v : Value} {l : List Rw} {b : List UInt8}
theorem ow_ris (h : Ow A0 F0 W L) (hv : Rws W v l) (hl : l.length ≤ 60) : Calls Try.prog 13 #[v] W fun e W' => ∃ A c r, e = .returned (.slice A r.length c) ∧ Ris r ∧ r.length ≤ 30 ∧ Ow A0 F0 W' (L ++ [Res.row rwK (.slice A r.length c) r]) :=
  (lrising_any hv hl).mono fun _ _ ⟨u, e, r, h1, h2, h3⟩ => by
    obtain ⟨F, hF⟩ := h3
    obtain ⟨k1, k2, k3⟩ := hF.rowof (i := 0) rfl
    obtain ⟨A, c, rfl⟩ := k1.form
    exact ⟨A, c, r, e, h1, h2, h.gotrow k2 k1 k3⟩
theorem ow_penc (h : Ow A0 F0 W L) (hv : Rws W v l) (hr : Ris l) (hn : l.length ≤ 30) : Calls Try.prog 14 #[v] W fun e W' => ∃ A c, e = .returned (.slice A (portL l).length c) ∧ Ow A0 F0 W' (L ++ [Res.row b8K (.slice A (portL l).length c) (portL l)]) :=
  (pencode_yes hv (by omega) hr).mono fun _ _ ⟨u, e, h1, h2⟩ => by
    obtain ⟨A, c, rfl⟩ := h1.form
    exact ⟨A, c, e, h.mine h2 h1⟩
theorem ow_pbytes (h : Ow A0 F0 W L) (hv : Rws W v l) (hs : l.length < 65536 ∧ ∀ x ∈ l, x.k.size ≤ 1000 ∧ x.v.size ≤ 1000) : Calls Try.prog 16 #[v] W fun e W' => ∃ A c, e = .returned (.slice A (portL l).length c) ∧ Ow A0 F0 W' (L ++ [Res.row b8K (.slice A (portL l).length c) (portL l)]) :=
  (bytes_any hv hs.1 hs.2).mono fun _ _ ⟨u, e, h1, h2⟩ => by
    obtain ⟨A, c, rfl⟩ := h1.form
    exact ⟨A, c, e, h.mine h2 h1⟩
theorem ow_pdec (h : Ow A0 F0 W L) (hv : Rd W v (u8s b)) (hb : b.length ≤ 100000) : Calls Try.prog 15 #[v] W fun e W' => ∃ A c m z, e = .returned (.tuple #[.slice A m.length c, .int .i64 z]) ∧ DecR b m z ∧ Ow A0 F0 W' (L ++ [Res.row rwK (.slice A m.length c) m]) :=
  (pdecode_any hv (by omega)).mono fun _ _ ⟨u, z, e, m, h1, h2, h3, h4⟩ => by
    obtain ⟨A, c, rfl⟩ := h2.form
    exact ⟨A, c, m, z, e, h1, h.gotrow h4 h2 h3⟩
theorem ow_prows (h : Ow A0 F0 W L) (hv : Rd W v (u8s b)) (hb : b.length ≤ 100000) : Calls Try.prog 17 #[v] W fun e W' => ∃ A c m z, e = .returned (.tuple #[.slice A m.length c, .int .i64 z]) ∧ DecR b m z ∧ Ow A0 F0 W' (L ++ [Res.row rwK (.slice A m.length c) m]) :=
  (rrows_any hv hb).mono fun _ _ ⟨u, z, e, m, h1, h2, h3, h4⟩ => by
    obtain ⟨A, c, rfl⟩ := h2.form
    exact ⟨A, c, m, z, e, h1, h.gotrow h4 h2 h3⟩
end
theorem portL_few {l : List Rw} (h : Ris l) (hn : l.length ≤ 30) : (portL l).length ≤ 1200 := by
  have := h.size
  rw [portL_length]
  omega
theorem idx_of (a : Int) {n : Nat} (h : 0 < n) (hn : n ≤ 100000) : ∃ i : Nat, i < n ∧ (wrap64 (a.tmod (n : Int) + (n : Int))).tmod (n : Int) = (i : Int) := by
  have h1 := Int.tmod_lt_of_pos a (show (0 : Int) < (n : Int) by omega)
  have h2 := Int.lt_tmod_of_pos a (show (0 : Int) < (n : Int) by omega)
  have h3 : wrap64 (a.tmod (n : Int) + (n : Int)) = a.tmod (n : Int) + (n : Int) := by unfold wrap64; omega
  rw [h3, Int.tmod_eq_emod_of_nonneg (by omega)]
  generalize a.tmod (n : Int) + (n : Int) = q
  have h4 := Int.emod_lt_of_pos q (show (0 : Int) < (n : Int) by omega)
  have h5 := Int.emod_nonneg q (show (n : Int) ≠ 0 by omega)
  exact ⟨(q % (n : Int)).toNat, by omega, by omega⟩
/-- A byte of one's own set. -/
theorem Ow.byteset {A0 W : World} {F0 : Nat → Prop} {L : List Res} {i g n c j : Nat} {l : List UInt8} (h : Ow A0 F0 W L) (hi : L[i]? = some (Res.row b8K (.slice (some ⟨g, 0, none⟩) n c) l)) (hj : j < l.length) (x : UInt8) :
    Ow A0 F0 (W.setCell ⟨g, j, none⟩ (.int .u8 (x.toNat : Int))) (L.set i (Res.row b8K (.slice (some ⟨g, 0, none⟩) n c) (l.set j x))) := by
  have h1 := h.krow hi
  obtain ⟨y, hy⟩ : ∃ y, l[j]? = some y := ⟨_, List.getElem?_eq_getElem hj⟩
  have h2 := Kd.Row.put h1 (j := j) (i := 0) (x := y) (y := x) (u := .int .u8 (x.toNat : Int)) hy (by decide) rfl
  have e : j * b8K.m + 0 = j := by show j * 1 + 0 = j; omega
  rw [e] at h2
  exact h.rowset hi h2 ((Kept.setCell W ⟨g, j, none⟩ _).mono (fun k e => .inl (by rw [e]; rfl))) (fun k e => e)
theorem Ow.byte {A0 W : World} {F0 : Nat → Prop} {L : List Res} {i g n c j : Nat} {l : List UInt8} {y : UInt8} (h : Ow A0 F0 W L) (hi : L[i]? = some (Res.row b8K (.slice (some ⟨g, 0, none⟩) n c) l)) (hj : l[j]? = some y) : W.cell? ⟨g, j, none⟩ = some (.int .u8 (y.toNat : Int)) ∧ W.frozen? ⟨g, j, none⟩ = false := by
  have h1 := h.krow hi
  have h2 := h1.cells hj 0 _ rfl
  have e : j * b8K.m + 0 = j := by show j * 1 + 0 = j; omega
  rw [e] at h2
  exact ⟨h2, h1.frozen j⟩
theorem dec_empty {b : List UInt8} {m : List Rw} {z : Int} (h : DecR b m z) (hz : z ≠ 0) : m = [] := by
  cases h with
  | form _ => rfl
  | quota _ _ _ => rfl
  | ok _ _ _ => exact absurd rfl hz
def sizeR14 (l : List Rw) : Nat := (rowsL l).length
theorem sizeR14_snoc {l : List Rw} {j : Nat} {x : Rw} (h : l[j]? = some x) : (rowsL (l.take (j + 1))).length = (rowsL (l.take j)).length + (3 + x.k.size + x.v.size) := by
  rw [List.take_add_one, h]
  show (rowsL (l.take j ++ [x])).length = _
  rw [rowsL_snoc, List.length_append, rowL_length]
set_option maxHeartbeats 8000000 in
theorem sizes_walk (v : Value) (l : List Rw) (w : World) (hv : RwRow w w.heap.size v l) : Calls Try.prog 6 #[v] w fun e W' => e = .returned (.bool true) ∧ Below w.heap.size w W' := by
  obtain ⟨A, c, rfl⟩ := (Rws.of_in hv (Below.refl _ _)).form
  have HV := hide (fun W hb => Rws.of_in (w' := W) hv hb)
  clear hv
  cases hL : lightR l
  · have HL := hide hL
    clear hL
    go_enter Try.func6, Try.ntmps6
    go_wp2_with (first
      | (go_at_call 11; (with_reducible refine (fit_any _).mono ?_); rintro e w0 ⟨rfl, hb⟩; have HB0 := hide hb; clear hb)
      | (go_at_call 12; (with_reducible refine (light_any (HV.out _ HB0.out)).mono ?_); rintro e w1 ⟨rfl, hb⟩; rw [HL.out]; have HB1 := hide (HB0.out.trans (hb.mono HB0.out.size)); clear hb))
    go_ret
    exact ⟨rfl, HB1.out⟩
  · have HL := hide hL
    have H60 := hide (lightR_iff.1 hL).1
    clear hL
    go_enter Try.func6, Try.ntmps6
    go_upto_region 6 with (first
      | (go_at_call 11; (with_reducible refine (fit_any _).mono ?_); rintro e w0 ⟨rfl, hb⟩; have HB0 := hide hb; clear hb)
      | (go_at_call 12; (with_reducible refine (light_any (HV.out _ HB0.out)).mono ?_); rintro e w1 ⟨rfl, hb⟩; rw [HL.out]; have HB1 := hide (HB0.out.trans (hb.mono HB0.out.size)); have S1 := hide ((Ow.start w).below HB1.out); clear hb)
      | (go_at_call 13; (with_reducible refine (ow_ris S1.out (HV.out _ HB1.out) H60.out).mono ?_); rintro e w2 ⟨A2, c2, r, rfl, hris, hr30, hs⟩; have HR := hide hris; have H30 := hide hr30; have S2 := hide hs; have hr31 : (r.length : Int) ≤ 30 := (by omega); clear hris hr30 hs S1))
    go_wp2
    go_loopw [3, 15] (fun n i wr => ∃ j : Nat, j ≤ r.length ∧ i = .int .i64 j ∧ n = .int .i64 ((10 + (rowsL (r.take j)).length : Nat) : Int) ∧ Hid (Ow w (fun _ => False) wr [Res.row rwK (.slice A2 r.length c2) r])) (fun _ i _ => r.length - (intOf i).toNat)
    case atStart => exact ⟨0, by omega, rfl, by rw [List.take_zero]; rfl, S2⟩
    case round =>
      obtain ⟨j, hj, rfl, rfl, hs⟩ := hrel
      by_cases hlt : j < r.length
      · obtain ⟨x, hc⟩ : ∃ x, r[j]? = some x := ⟨_, List.getElem?_eq_getElem hlt⟩
        obtain ⟨b, o, rfl, i0, i1, i2⟩ := (hs.out.rws (i := 0) rfl).at_ (Below.refl _ _) hc
        have hx := okR_iff.1 (HR.out.ok x (List.mem_of_getElem? hc))
        have hx3 : (x.k.size : Int) ≤ 15 := by omega
        have hx4 : (x.v.size : Int) ≤ 21 := by omega
        have HSN := hide (sizeR14_snoc hc)
        have hsz := (HR.out.take j).size
        have hsz2 : (((rowsL (r.take j)).length : Nat) : Int) ≤ 2000 := by
          have := H30.out
          rw [List.length_take] at hsz
          have : min j r.length * 39 ≤ 30 * 39 := Nat.mul_le_mul_right _ (by omega)
          omega
        have q0 : (0 : Int) ≤ (j : Int) := by omega
        have q1 : (j : Int) < (r.length : Int) := by omega
        have HLT := hide hlt
        clear hlt hc hx hsz
        generalize (rowsL (r.take j)).length = z at *
        go_wp2
        go_roundw
        case rel => exact ⟨j + 1, by have := HLT.out; omega, by go_num, by rw [HSN.out]; go_num, hide ((hs.out.box 32 _).take 1)⟩
        case measure => simp [intOf]; have := HLT.out; omega
      · obtain rfl : r.length = j := by omega
        have q1 : ¬ (r.length : Int) < (r.length : Int) := by omega
        have HE := hide (portL_length r)
        rw [List.take_length]
        generalize (rowsL r).length = z at *
        go_wp2_with (go_at_call 14; (with_reducible refine (ow_penc hs.out (hs.out.rws (i := 0) rfl) HR.out H30.out).mono ?_); rintro e w3 ⟨A3, c3, rfl, hs3⟩; have S3 := hide hs3; clear hs3; rw [HE.out])
        go_ret
        exact ⟨by simp, S3.out.bel⟩
end Go.Proofs.Ythkocbfioegcnaa
