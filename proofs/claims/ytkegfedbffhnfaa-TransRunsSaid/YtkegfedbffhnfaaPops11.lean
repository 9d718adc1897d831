/-
  TransPops' walk.
-/
import Derived.Test.YtkegfedbffhnfaaSaves11
namespace Go.Proofs.Ytkegfedbffhnfaa
open Go.RowKit
set_option maxRecDepth 20000
set_option linter.unusedSimpArgs false
set_option linter.unusedVariables false

section
variable {A0 W : World} {F0 : Nat → Prop} {L : List Res} {i g x : Nat} {t : Tx}
theorem ow_pop1 {m : Nat} {c : Ch} (h : Ow A0 F0 W L) (hi : L[i]? = some (Res.tt g (oneT x t))) (hl : t.l.length ≤ 100000) (hm : t.l.length = m + 1) (hc : t.l[m]? = some c) : Calls Try.prog 14 #[.pointer (some ⟨x, 0, none⟩)] W fun e W' => e = .returned (.tuple #[.agg #[.int .i64 c.page, .int .i64 c.slot, .string c.before], .bool true]) ∧ Ow A0 F0 W' (L.set i (Res.tt g (oneT x ⟨t.l.take m, t.ops, t.sv⟩))) := by
  have := ow_pop h hi (oneT_at x t) hl hm hc
  rw [oneT_upd] at this
  exact this
/-- What only reads, in a region that grows the memory. -/
theorem len_say {c : Nat} (h : Ow A0 F0 W L) (hi : L[i]? = some (Res.tt g (oneT x t))) (hc : t.l.length = c) (W2 : World) (hb : Below W.heap.size W W2) : Calls Try.prog 21 #[.pointer (some ⟨x, 0, none⟩)] W2 fun e w' => ∃ v, e = .returned v ∧ (Say.is (.int .i64 (c : Int))).p w' v ∧ Below W2.heap.size W2 w' :=
  (ow_len (h.below hb) hi (oneT_at x t) hc).mono (fun e w' ⟨h1, h2⟩ => ⟨_, h1, rfl, by rw [← h2]; exact Below.refl _ _⟩)
theorem changes_say {c : Nat} (h : Ow A0 F0 W L) (hi : L[i]? = some (Res.tt g (oneT x t))) (hl : t.l.length ≤ 100000) (hc : t.l.length = c) (W2 : World) (hb : Below W.heap.size W W2) : Calls Try.prog 23 #[.pointer (some ⟨g, 0, none⟩)] W2 fun e w' => ∃ v, e = .returned v ∧ (Say.is (.int .i64 (c : Int))).p w' v ∧ Below W2.heap.size W2 w' := by
  obtain ⟨O, h1⟩ := (h.below hb).tab hi
  refine (changes_any h1 (few_one hl)).mono ?_
  rintro e w' ⟨rfl, h2⟩
  rw [sum_one, hc]
  exact ⟨_, rfl, rfl, h2⟩
end
/-- A change that came in lies there. -/
def CellsC (w : World) (b o : Nat) (pg sl : Int) (bf : ByteArray) : Prop := (w.cell? ⟨b, o, none⟩ = some (.int .i64 pg) ∧ w.cell? ⟨b, o + 1, none⟩ = some (.int .i64 sl) ∧ w.cell? ⟨b, o + 2, none⟩ = some (.string bf)) ∧ b < w.heap.size
theorem CellsC.below {w w' : World} {b o : Nat} {pg sl : Int} {bf : ByteArray} (h : CellsC w b o pg sl bf) (hb : Below w.heap.size w w') : w'.cell? ⟨b, o, none⟩ = some (.int .i64 pg) ∧ w'.cell? ⟨b, o + 1, none⟩ = some (.int .i64 sl) ∧ w'.cell? ⟨b, o + 2, none⟩ = some (.string bf) :=
  ⟨(hb.cell (p := ⟨b, o, none⟩) h.2).trans h.1.1, (hb.cell (p := ⟨b, o + 1, none⟩) h.2).trans h.1.2.1, (hb.cell (p := ⟨b, o + 2, none⟩) h.2).trans h.1.2.2⟩
set_option maxHeartbeats 8000000 in
theorem pops_walk (v : Value) (l : List Ch) (w : World) (hv : ChRow w w.heap.size v l) : Calls Try.prog 5 #[v] w fun e w' => e = .returned (.bool true) ∧ Below w.heap.size w w' := by
  obtain ⟨⟨A0, cap, rfl, hlc, _⟩, _⟩ := id hv
  have HV := hide hv
  clear hv hlc
  by_cases hlen : l.length ≤ 100
  · have hl1 : ¬ (100 : Int) < (l.length : Int) := by omega
    have hl2 : (l.length : Int) ≤ 100 := by omega
    have HFEW := hide hlen
    clear hlen
    go_enter Try.func5, Try.ntmps5
    go_wp2_with (first
      | (go_at_call 9; (with_reducible refine (fit_any _).mono ?_); rintro e w0 ⟨rfl, hb⟩; have hs := ((Ow.start w).below hb).newtab layT 27; have HK0 := hide (ow_beg1 hs (i := 0) rfl); clear hb hs)
      | (go_at_call 10; (with_reducible refine HK0.out.mono ?_); rintro e w1 ⟨rfl, x, hs⟩; clear HK0; have HK1 := hide (ow_get1 hs (i := 0) rfl); have S1 := hide hs; clear hs)
      | (go_at_call 12; (with_reducible refine HK1.out.mono ?_); rintro e w2 ⟨rfl, rfl⟩; clear HK1))
    have S2 : Hid (Ow w (fun _ => False) w1 [Res.tt w0.heap.size (oneT x ⟨l.take 0, 0, []⟩)]) := S1
    clear S1
    generalize w0.heap.size = g at *
    go_loopw [21] (fun i wr => ∃ j : Nat, j ≤ l.length ∧ i = .int .i64 j ∧ Hid (Ow w (fun _ => False) wr [Res.tt g (oneT x ⟨l.take j, j, []⟩)])) (fun i _ => l.length - (intOf i).toNat)
    case atStart => exact ⟨0, by omega, rfl, S2⟩
    case round =>
      clear S2
      obtain ⟨j, hj, rfl, hs⟩ := hrel
      by_cases hlt : j < l.length
      · obtain ⟨⟨pg, sl, bf⟩, hc⟩ : ∃ c, l[j]? = some c := ⟨_, List.getElem?_eq_getElem hlt⟩
        obtain ⟨_, b1, o1, rfl, ⟨i0, i1, i2⟩, hok⟩ := change_cells HV.out hs.out.bel hc
        dsimp only at i0 i1 i2
        have q0 : (0 : Int) ≤ (j : Int) := by omega
        have q1 : (j : Int) < (l.length : Int) := by omega
        have HLT := hide hlt
        have HTK : Hid ((⟨l.take j, j, []⟩ : Tx).push ⟨pg, sl, bf⟩ = ⟨l.take (j + 1), j + 1, []⟩) := hide (by unfold Tx.push; rw [List.take_add_one, hc]; rfl)
        have SB := hide (hs.out.box 31 #[.int .i64 pg, .int .i64 sl, .string bf])
        obtain ⟨b0, b2, b3, _⟩ := (SB.out.blk (i := 1) rfl).three
        by_cases hbig : bf.size ≤ 100
        · have hbi : ¬ (100 : Int) < (bf.size : Int) := by omega
          have hjl : (l.take j).length ≤ 100000 := by rw [List.length_take]; have := HFEW.out; omega
          have HK1 := hide (ow_push1 SB.out (i := 0) rfl hjl (by show j ≤ _; have := HFEW.out; omega) ⟨pg, sl, bf⟩)
          clear hok hc hlt hbig hjl
          by_cases h8 : 8 ≤ j
          · have h8i : (8 : Int) ≤ (j : Int) := by omega
            have HK0 := hide (ow_full SB.out (i := 0) rfl (oneT_at _ _) (b := true) (by show decide (8 ≤ j) = true; simp [h8]))
            clear h8
            go_wp2_with (first
              | (go_at_call 22; (with_reducible refine HK0.out.mono ?_); rintro e w3 ⟨rfl, rfl⟩; clear HK0)
              | (go_at_call 13; (with_reducible refine HK1.out.mono ?_); rintro e w4 ⟨rfl, hs⟩; clear HK1; have HE := hide hs; clear hs))
            go_roundw
            case rel => exact ⟨j + 1, by have := HLT.out; omega, by go_num, hide (by have h := HE.out.take 1; rw [HTK.out] at h; exact h)⟩
            case measure => simp [intOf]; have := HLT.out; omega
          · have h8i : ¬ (8 : Int) ≤ (j : Int) := by omega
            have HK0 := hide (ow_full SB.out (i := 0) rfl (oneT_at _ _) (b := false) (by show decide (8 ≤ j) = false; simp [h8]))
            clear h8
            go_wp2_with (first
              | (go_at_call 22; (with_reducible refine HK0.out.mono ?_); rintro e w3 ⟨rfl, rfl⟩; clear HK0)
              | (go_at_call 13; (with_reducible refine HK1.out.mono ?_); rintro e w4 ⟨rfl, hs⟩; clear HK1; have HE := hide hs; clear hs))
            go_roundw
            case rel => exact ⟨j + 1, by have := HLT.out; omega, by go_num, hide (by have h := HE.out.take 1; rw [HTK.out] at h; exact h)⟩
            case measure => simp [intOf]; have := HLT.out; omega
        · have hbi : (100 : Int) < (bf.size : Int) := by omega
          clear hok hc hlt hbig
          go_wp2
          go_ret
          exact ⟨rfl, SB.out.bel⟩
      · obtain rfl : l.length = j := by omega
        clear hlt hj
        have hq9 : ¬ (l.length : Int) < (l.length : Int) := by omega
        have S3 := hs
        clear hs
        go_wp2
        go_loopw [7] (fun i wr => ∃ (m : Nat) (z : Int), m ≤ l.length ∧ z = (m : Int) - 1 ∧ i = .int .i64 z ∧ Hid (Ow w (fun _ => False) wr [Res.tt g (oneT x ⟨l.take m, l.length, []⟩)])) (fun i _ => (intOf i + 1).toNat)
        case atStart => exact ⟨l.length, _, Nat.le_refl _, rfl, rfl, S3⟩
        case round =>
          clear S3
          rename World => w8
          obtain ⟨m, z, hm, hz, rfl, hs⟩ := hrel
          cases m with
          | zero =>
            obtain rfl : z = -1 := by omega
            have HK0 := hide (ow_pop0 hs.out (i := 0) rfl (oneT_at _ _) rfl)
            clear hm hz
            by_cases h8 : 8 ≤ l.length
            · have h8i : (8 : Int) ≤ (l.length : Int) := by omega
              go_wp2_with (first
                | (go_at_call 14; (with_reducible refine HK0.out.mono ?_); rintro e w3 ⟨rfl, hs⟩; clear HK0; have SB := hide (hs.box 31 #[.int .i64 0, .int .i64 0, .string ⟨#[]⟩]); have HK1 := hide (ow_full SB.out (i := 0) rfl (oneT_at _ _) (b := true) (by show decide (8 ≤ l.length) = true; simp [h8])); clear hs)
                | (go_at_call 22; (with_reducible refine HK1.out.mono ?_); rintro e w4 ⟨rfl, rfl⟩; clear HK1))
              go_ret
              exact ⟨rfl, SB.out.bel⟩
            · have h8i : ¬ (8 : Int) ≤ (l.length : Int) := by omega
              go_wp2_with (first
                | (go_at_call 14; (with_reducible refine HK0.out.mono ?_); rintro e w3 ⟨rfl, hs⟩; clear HK0; have SB := hide (hs.box 31 #[.int .i64 0, .int .i64 0, .string ⟨#[]⟩]); have HK1 := hide (ow_full SB.out (i := 0) rfl (oneT_at _ _) (b := false) (by show decide (8 ≤ l.length) = false; simp [h8])); clear hs)
                | (go_at_call 22; (with_reducible refine HK1.out.mono ?_); rintro e w4 ⟨rfl, rfl⟩; clear HK1))
              go_ret
              exact ⟨by show Ending.returned (Value.bool (!decide ((8 : Int) ≤ (l.length : Int)))) = _; rw [decide_eq_false (show ¬ (8 : Int) ≤ (l.length : Int) by omega)]; rfl, SB.out.bel⟩
          | succ m =>
            obtain rfl : z = (m : Int) := by omega
            obtain ⟨⟨pg, sl, bf⟩, hc⟩ : ∃ c, l[m]? = some c := ⟨_, List.getElem?_eq_getElem (by omega)⟩
            obtain ⟨_, b1, o1, rfl, hcl, hok⟩ := change_cells HV.out hs.out.bel hc
            have hbx : b1 < w.heap.size := by
              obtain ⟨⟨Aq, cq, eq, _, hq⟩, _⟩ := HV.out
              obtain ⟨b2, o2, e2, hb2, _⟩ := hq (by omega)
              injection eq with eq1 eq2 eq3
              rw [← eq1] at e2
              injection e2 with e2
              injection e2 with e2 e3
              omega
            have hlm : (l.take (m + 1)).length = m + 1 := by rw [List.length_take]; omega
            have hcm : (l.take (m + 1))[m]? = some ⟨pg, sl, bf⟩ := by rw [List.getElem?_take, if_pos (by omega)]; exact hc
            have htm : (l.take (m + 1)).take m = l.take m := by rw [List.take_take]; congr 1; omega
            have HK0 := hide (ow_pop1 hs.out (i := 0) rfl (by show (l.take (m + 1)).length ≤ _; have := HFEW.out; omega) hlm hcm)
            have HTM := hide htm
            have HTL : Hid ((⟨l.take m, l.length, []⟩ : Tx).l.length = m) := hide (by show (l.take m).length = m; rw [List.length_take]; omega)
            have HTB : Hid ((⟨l.take m, l.length, []⟩ : Tx).l.length ≤ 100000) := hide (by have := HTL.out; have := HFEW.out; omega)
            have HM : Hid (m + 1 ≤ l.length) := hide hm
            have HC1 := hide hcl
            have HCC := hide hc
            have HBX := hide hbx
            have r0 : (0 : Int) ≤ (m : Int) := by omega
            have r1 : (m : Int) < (l.length : Int) := by omega
            have HS8 := hs
            clear hz hok hc hcl hm hlm hcm htm hs hbx
            go_wp2_with (go_at_call 14; (with_reducible refine HK0.out.mono ?_); rintro e w3 ⟨rfl, hs⟩; clear HK0; have SB0 := hide (hs.box 31 #[.int .i64 pg, .int .i64 sl, .string bf]); clear hs)
            have SB : Hid (Ow w (fun _ => False) (w3.alloc (.cells #[.int .i64 pg, .int .i64 sl, .string bf] 31)) [Res.tt g (oneT x ⟨l.take m, l.length, []⟩), Res.blk w3.heap.size 31 #[.int .i64 pg, .int .i64 sl, .string bf]]) := hide (by have h := SB0.out; rw [show (⟨l.take (m + 1), l.length, []⟩ : Tx).l.take m = l.take m from HTM.out] at h; exact h)
            clear SB0
            have HCL : Hid (CellsC (w3.alloc (.cells #[.int .i64 pg, .int .i64 sl, .string bf] 31)) b1 (o1 + m * 3) pg sl bf) := hide (by
              obtain ⟨_, b9, o9, e9, h9, _⟩ := change_cells (k := m) (c := ⟨pg, sl, bf⟩) HV.out SB.out.bel (by have := HCC.out; exact this)
              injection e9 with e9
              injection e9 with e9a e9b
              subst e9a e9b
              exact ⟨h9, Nat.lt_of_lt_of_le HBX.out SB.out.bel.size⟩)
            refine region_grows [Say.is (.bool true), Say.is (.bool false), Say.is (.bool false), Say.is (.agg #[.int .i64 pg, .int .i64 sl, .string bf]), Say.is (.slice (some ⟨b1, o1, none⟩) l.length cap), Say.is (.int .i64 (m : Int)), Say.is (.pointer (some ⟨b1, o1 + m * 3, none⟩)), Say.is (.agg #[.int .i64 pg, .int .i64 sl, .string bf]), Say.is (.bool false), Say.is (.bool false), Say.is (.bool false), Say.is (.pointer (some ⟨x, 0, none⟩)), Say.is (.int .i64 (m : Int)), Say.is (.int .i64 (m : Int)), Say.is (.bool false), Say.is (.bool false), Say.is (.bool false), Say.is (.int .i64 (m : Int)), Say.is (.int .i64 (m : Int)), Say.is (.bool false), Say.is (.bool false)] (by kernel_rfl) (by kernel_rfl) (by kernel_rfl) (by kernel_rfl) ?_ ?_
            · intro i o ho a w2 hb hsz old dep
              match i, ho with
              | 0, ho =>
                obtain rfl := Option.some.inj ho
                have o9 : a.tmps.getD 9 undef = _ := old 9 (by kernel_rfl)
                rw [if_pos (wanted_none rfl)]
                refine grow_same (v := .bool true) ?_ rfl
                clear old dep ho hsz hb
                go_simp
              | 1, ho =>
                obtain rfl := Option.some.inj ho
                have d0 : a.tmps.getD 51 undef = .bool true := dep 0 _ _ (by kernel_rfl) rfl rfl
                have e0 : a.tmps[51]?.getD undef = _ := (Array.getD_eq_getD_getElem? ..).symm.trans d0
                rw [if_pos (wanted_none rfl)]
                refine grow_same (v := .bool false) ?_ rfl
                clear old dep ho hsz hb
                go_simp
              | 2, ho =>
                obtain rfl := Option.some.inj ho
                have d1 : a.tmps.getD 52 undef = .bool false := dep 1 _ _ (by kernel_rfl) rfl rfl
                have e1 : a.tmps[52]?.getD undef = _ := (Array.getD_eq_getD_getElem? ..).symm.trans d1
                rw [if_pos (wanted_none rfl)]
                refine grow_same (v := .bool false) ?_ rfl
                clear old dep ho hsz hb
                go_simp
              | 3, ho =>
                obtain rfl := Option.some.inj ho
                have o8 : a.tmps.getD 8 undef = _ := old 8 (by kernel_rfl)
                have d2 : a.tmps.getD 53 undef = .bool false := dep 2 _ _ (by kernel_rfl) rfl rfl
                have e2 : a.tmps[53]?.getD undef = _ := (Array.getD_eq_getD_getElem? ..).symm.trans d2
                rw [if_pos (wanted_some rfl rfl rfl (by rw [hsz]; exact of_decide_eq_true rfl) d2)]
                have hx := (SB.out.below hb).blk (i := 1) rfl
                obtain ⟨c0, c1, c2, _⟩ := hx.three
                clear hx
                refine grow_same (v := .agg #[.int .i64 pg, .int .i64 sl, .string bf]) ?_ rfl
                clear old dep ho hsz hb
                go_simp
              | 4, ho =>
                obtain rfl := Option.some.inj ho
                have o0 : a.tmps.getD 0 undef = _ := old 0 (by kernel_rfl)
                have d2 : a.tmps.getD 53 undef = .bool false := dep 2 _ _ (by kernel_rfl) rfl rfl
                have e2 : a.tmps[53]?.getD undef = _ := (Array.getD_eq_getD_getElem? ..).symm.trans d2
                rw [if_pos (wanted_some rfl rfl rfl (by rw [hsz]; exact of_decide_eq_true rfl) d2)]
                refine grow_same (v := .slice (some ⟨b1, o1, none⟩) l.length cap) ?_ rfl
                clear old dep ho hsz hb
                go_simp
              | 5, ho =>
                obtain rfl := Option.some.inj ho
                have o7 : a.tmps.getD 7 undef = _ := old 7 (by kernel_rfl)
                have d2 : a.tmps.getD 53 undef = .bool false := dep 2 _ _ (by kernel_rfl) rfl rfl
                have e2 : a.tmps[53]?.getD undef = _ := (Array.getD_eq_getD_getElem? ..).symm.trans d2
                rw [if_pos (wanted_some rfl rfl rfl (by rw [hsz]; exact of_decide_eq_true rfl) d2)]
                refine grow_same (v := .int .i64 (m : Int)) ?_ rfl
                clear old dep ho hsz hb
                go_simp
              | 6, ho =>
                obtain rfl := Option.some.inj ho
                have d4 : a.tmps.getD 55 undef = .slice (some ⟨b1, o1, none⟩) l.length cap := dep 4 _ _ (by kernel_rfl) rfl rfl
                have e4 : a.tmps[55]?.getD undef = _ := (Array.getD_eq_getD_getElem? ..).symm.trans d4
                have d5 : a.tmps.getD 56 undef = .int .i64 (m : Int) := dep 5 _ _ (by kernel_rfl) rfl rfl
                have e5 : a.tmps[56]?.getD undef = _ := (Array.getD_eq_getD_getElem? ..).symm.trans d5
                have d2 : a.tmps.getD 53 undef = .bool false := dep 2 _ _ (by kernel_rfl) rfl rfl
                have e2 : a.tmps[53]?.getD undef = _ := (Array.getD_eq_getD_getElem? ..).symm.trans d2
                rw [if_pos (wanted_some rfl rfl rfl (by rw [hsz]; exact of_decide_eq_true rfl) d2)]
                refine grow_same (v := .pointer (some ⟨b1, o1 + m * 3, none⟩)) ?_ rfl
                clear old dep ho hsz hb
                go_simp
              | 7, ho =>
                obtain rfl := Option.some.inj ho
                have d6 : a.tmps.getD 57 undef = .pointer (some ⟨b1, o1 + m * 3, none⟩) := dep 6 _ _ (by kernel_rfl) rfl rfl
                have e6 : a.tmps[57]?.getD undef = _ := (Array.getD_eq_getD_getElem? ..).symm.trans d6
                have d2 : a.tmps.getD 53 undef = .bool false := dep 2 _ _ (by kernel_rfl) rfl rfl
                have e2 : a.tmps[53]?.getD undef = _ := (Array.getD_eq_getD_getElem? ..).symm.trans d2
                rw [if_pos (wanted_some rfl rfl rfl (by rw [hsz]; exact of_decide_eq_true rfl) d2)]
                have c0 := (HCL.out.below hb).1
                have c1 := (HCL.out.below hb).2.1
                have c2 := (HCL.out.below hb).2.2
                refine grow_same (v := .agg #[.int .i64 pg, .int .i64 sl, .string bf]) ?_ rfl
                clear old dep ho hsz hb
                go_simp
              | 8, ho =>
                obtain rfl := Option.some.inj ho
                have d3 : a.tmps.getD 54 undef = .agg #[.int .i64 pg, .int .i64 sl, .string bf] := dep 3 _ _ (by kernel_rfl) rfl rfl
                have e3 : a.tmps[54]?.getD undef = _ := (Array.getD_eq_getD_getElem? ..).symm.trans d3
                have d7 : a.tmps.getD 58 undef = .agg #[.int .i64 pg, .int .i64 sl, .string bf] := dep 7 _ _ (by kernel_rfl) rfl rfl
                have e7 : a.tmps[58]?.getD undef = _ := (Array.getD_eq_getD_getElem? ..).symm.trans d7
                have d2 : a.tmps.getD 53 undef = .bool false := dep 2 _ _ (by kernel_rfl) rfl rfl
                have e2 : a.tmps[53]?.getD undef = _ := (Array.getD_eq_getD_getElem? ..).symm.trans d2
                rw [if_pos (wanted_some rfl rfl rfl (by rw [hsz]; exact of_decide_eq_true rfl) d2)]
                refine grow_same (v := .bool false) ?_ rfl
                clear old dep ho hsz hb
                go_simp
              | 9, ho =>
                obtain rfl := Option.some.inj ho
                have d2 : a.tmps.getD 53 undef = .bool false := dep 2 _ _ (by kernel_rfl) rfl rfl
                have e2 : a.tmps[53]?.getD undef = _ := (Array.getD_eq_getD_getElem? ..).symm.trans d2
                have d8 : a.tmps.getD 59 undef = .bool false := dep 8 _ _ (by kernel_rfl) rfl rfl
                have e8 : a.tmps[59]?.getD undef = _ := (Array.getD_eq_getD_getElem? ..).symm.trans d8
                rw [if_pos (wanted_none rfl)]
                refine grow_same (v := .bool false) ?_ rfl
                clear old dep ho hsz hb
                go_simp
              | 10, ho =>
                obtain rfl := Option.some.inj ho
                have d9 : a.tmps.getD 60 undef = .bool false := dep 9 _ _ (by kernel_rfl) rfl rfl
                have e9 : a.tmps[60]?.getD undef = _ := (Array.getD_eq_getD_getElem? ..).symm.trans d9
                rw [if_pos (wanted_none rfl)]
                refine grow_same (v := .bool false) ?_ rfl
                clear old dep ho hsz hb
                go_simp
              | 11, ho =>
                obtain rfl := Option.some.inj ho
                have o4 : a.tmps.getD 4 undef = _ := old 4 (by kernel_rfl)
                have d10 : a.tmps.getD 61 undef = .bool false := dep 10 _ _ (by kernel_rfl) rfl rfl
                have e10 : a.tmps[61]?.getD undef = _ := (Array.getD_eq_getD_getElem? ..).symm.trans d10
                rw [if_pos (wanted_some rfl rfl rfl (by rw [hsz]; exact of_decide_eq_true rfl) d10)]
                refine grow_same (v := .pointer (some ⟨x, 0, none⟩)) ?_ rfl
                clear old dep ho hsz hb
                go_simp
              | 12, ho =>
                obtain rfl := Option.some.inj ho
                have d11 : a.tmps.getD 62 undef = .pointer (some ⟨x, 0, none⟩) := dep 11 _ _ (by kernel_rfl) rfl rfl
                have e11 : a.tmps[62]?.getD undef = _ := (Array.getD_eq_getD_getElem? ..).symm.trans d11
                have d10 : a.tmps.getD 61 undef = .bool false := dep 10 _ _ (by kernel_rfl) rfl rfl
                have e10 : a.tmps[61]?.getD undef = _ := (Array.getD_eq_getD_getElem? ..).symm.trans d10
                rw [if_pos (wanted_some rfl rfl rfl (by rw [hsz]; exact of_decide_eq_true rfl) d10)]
                refine grow_enters (f := 21) (args := #[.pointer (some ⟨x, 0, none⟩)]) ?_ (len_say SB.out (i := 0) rfl HTL.out _ hb)
                clear old dep ho hsz hb
                go_simp
              | 13, ho =>
                obtain rfl := Option.some.inj ho
                have o7 : a.tmps.getD 7 undef = _ := old 7 (by kernel_rfl)
                have d10 : a.tmps.getD 61 undef = .bool false := dep 10 _ _ (by kernel_rfl) rfl rfl
                have e10 : a.tmps[61]?.getD undef = _ := (Array.getD_eq_getD_getElem? ..).symm.trans d10
                rw [if_pos (wanted_some rfl rfl rfl (by rw [hsz]; exact of_decide_eq_true rfl) d10)]
                refine grow_same (v := .int .i64 (m : Int)) ?_ rfl
                clear old dep ho hsz hb
                go_simp
              | 14, ho =>
                obtain rfl := Option.some.inj ho
                have d12 : a.tmps.getD 63 undef = .int .i64 (m : Int) := dep 12 _ _ (by kernel_rfl) rfl rfl
                have e12 : a.tmps[63]?.getD undef = _ := (Array.getD_eq_getD_getElem? ..).symm.trans d12
                have d13 : a.tmps.getD 64 undef = .int .i64 (m : Int) := dep 13 _ _ (by kernel_rfl) rfl rfl
                have e13 : a.tmps[64]?.getD undef = _ := (Array.getD_eq_getD_getElem? ..).symm.trans d13
                have d10 : a.tmps.getD 61 undef = .bool false := dep 10 _ _ (by kernel_rfl) rfl rfl
                have e10 : a.tmps[61]?.getD undef = _ := (Array.getD_eq_getD_getElem? ..).symm.trans d10
                rw [if_pos (wanted_some rfl rfl rfl (by rw [hsz]; exact of_decide_eq_true rfl) d10)]
                refine grow_same (v := .bool false) ?_ rfl
                clear old dep ho hsz hb
                go_simp
              | 15, ho =>
                obtain rfl := Option.some.inj ho
                have d10 : a.tmps.getD 61 undef = .bool false := dep 10 _ _ (by kernel_rfl) rfl rfl
                have e10 : a.tmps[61]?.getD undef = _ := (Array.getD_eq_getD_getElem? ..).symm.trans d10
                have d14 : a.tmps.getD 65 undef = .bool false := dep 14 _ _ (by kernel_rfl) rfl rfl
                have e14 : a.tmps[65]?.getD undef = _ := (Array.getD_eq_getD_getElem? ..).symm.trans d14
                rw [if_pos (wanted_none rfl)]
                refine grow_same (v := .bool false) ?_ rfl
                clear old dep ho hsz hb
                go_simp
              | 16, ho =>
                obtain rfl := Option.some.inj ho
                have d15 : a.tmps.getD 66 undef = .bool false := dep 15 _ _ (by kernel_rfl) rfl rfl
                have e15 : a.tmps[66]?.getD undef = _ := (Array.getD_eq_getD_getElem? ..).symm.trans d15
                rw [if_pos (wanted_none rfl)]
                refine grow_same (v := .bool false) ?_ rfl
                clear old dep ho hsz hb
                go_simp
              | 17, ho =>
                obtain rfl := Option.some.inj ho
                have o3 : a.tmps.getD 3 undef = _ := old 3 (by kernel_rfl)
                have d16 : a.tmps.getD 67 undef = .bool false := dep 16 _ _ (by kernel_rfl) rfl rfl
                have e16 : a.tmps[67]?.getD undef = _ := (Array.getD_eq_getD_getElem? ..).symm.trans d16
                rw [if_pos (wanted_some rfl rfl rfl (by rw [hsz]; exact of_decide_eq_true rfl) d16)]
                refine grow_enters (f := 23) (args := #[.pointer (some ⟨g, 0, none⟩)]) ?_ (changes_say SB.out (i := 0) rfl HTB.out HTL.out _ hb)
                clear old dep ho hsz hb
                go_simp
              | 18, ho =>
                obtain rfl := Option.some.inj ho
                have o7 : a.tmps.getD 7 undef = _ := old 7 (by kernel_rfl)
                have d16 : a.tmps.getD 67 undef = .bool false := dep 16 _ _ (by kernel_rfl) rfl rfl
                have e16 : a.tmps[67]?.getD undef = _ := (Array.getD_eq_getD_getElem? ..).symm.trans d16
                rw [if_pos (wanted_some rfl rfl rfl (by rw [hsz]; exact of_decide_eq_true rfl) d16)]
                refine grow_same (v := .int .i64 (m : Int)) ?_ rfl
                clear old dep ho hsz hb
                go_simp
              | 19, ho =>
                obtain rfl := Option.some.inj ho
                have d17 : a.tmps.getD 68 undef = .int .i64 (m : Int) := dep 17 _ _ (by kernel_rfl) rfl rfl
                have e17 : a.tmps[68]?.getD undef = _ := (Array.getD_eq_getD_getElem? ..).symm.trans d17
                have d18 : a.tmps.getD 69 undef = .int .i64 (m : Int) := dep 18 _ _ (by kernel_rfl) rfl rfl
                have e18 : a.tmps[69]?.getD undef = _ := (Array.getD_eq_getD_getElem? ..).symm.trans d18
                have d16 : a.tmps.getD 67 undef = .bool false := dep 16 _ _ (by kernel_rfl) rfl rfl
                have e16 : a.tmps[67]?.getD undef = _ := (Array.getD_eq_getD_getElem? ..).symm.trans d16
                rw [if_pos (wanted_some rfl rfl rfl (by rw [hsz]; exact of_decide_eq_true rfl) d16)]
                refine grow_same (v := .bool false) ?_ rfl
                clear old dep ho hsz hb
                go_simp
              | 20, ho =>
                obtain rfl := Option.some.inj ho
                have d16 : a.tmps.getD 67 undef = .bool false := dep 16 _ _ (by kernel_rfl) rfl rfl
                have e16 : a.tmps[67]?.getD undef = _ := (Array.getD_eq_getD_getElem? ..).symm.trans d16
                have d19 : a.tmps.getD 70 undef = .bool false := dep 19 _ _ (by kernel_rfl) rfl rfl
                have e19 : a.tmps[70]?.getD undef = _ := (Array.getD_eq_getD_getElem? ..).symm.trans d19
                rw [if_pos (wanted_none rfl)]
                refine grow_same (v := .bool false) ?_ rfl
                clear old dep ho hsz hb
                go_simp
              | i + 21, ho => exact absurd ho (by simp)
            · intro a w9 hb hsz hdf fin keep
              obtain ⟨tm, df⟩ := a
              have hx := frame_of [51, 52, 53, 54, 55, 56, 57, 58, 59, 60, 61, 62, 63, 64, 65, 66, 67, 68, 69, 70, 71] (by kernel_rfl) hsz keep
              dsimp only at hdf hx
              simp only [List.foldl_cons, List.foldl_nil] at hx
              subst hdf
              clear hsz keep
              have kn : tm.getD 51 undef = .bool true := fin 0 _ _ rfl rfl
              rw [kn] at hx
              clear kn
              have kn : tm.getD 52 undef = .bool false := fin 1 _ _ rfl rfl
              rw [kn] at hx
              clear kn
              have kn : tm.getD 53 undef = .bool false := fin 2 _ _ rfl rfl
              rw [kn] at hx
              clear kn
              have kn : tm.getD 54 undef = .agg #[.int .i64 pg, .int .i64 sl, .string bf] := fin 3 _ _ rfl rfl
              rw [kn] at hx
              clear kn
              have kn : tm.getD 55 undef = .slice (some ⟨b1, o1, none⟩) l.length cap := fin 4 _ _ rfl rfl
              rw [kn] at hx
              clear kn
              have kn : tm.getD 56 undef = .int .i64 (m : Int) := fin 5 _ _ rfl rfl
              rw [kn] at hx
              clear kn
              have kn : tm.getD 57 undef = .pointer (some ⟨b1, o1 + m * 3, none⟩) := fin 6 _ _ rfl rfl
              rw [kn] at hx
              clear kn
              have kn : tm.getD 58 undef = .agg #[.int .i64 pg, .int .i64 sl, .string bf] := fin 7 _ _ rfl rfl
              rw [kn] at hx
              clear kn
              have kn : tm.getD 59 undef = .bool false := fin 8 _ _ rfl rfl
              rw [kn] at hx
              clear kn
              have kn : tm.getD 60 undef = .bool false := fin 9 _ _ rfl rfl
              rw [kn] at hx
              clear kn
              have kn : tm.getD 61 undef = .bool false := fin 10 _ _ rfl rfl
              rw [kn] at hx
              clear kn
              have kn : tm.getD 62 undef = .pointer (some ⟨x, 0, none⟩) := fin 11 _ _ rfl rfl
              rw [kn] at hx
              clear kn
              have kn : tm.getD 63 undef = .int .i64 (m : Int) := fin 12 _ _ rfl rfl
              rw [kn] at hx
              clear kn
              have kn : tm.getD 64 undef = .int .i64 (m : Int) := fin 13 _ _ rfl rfl
              rw [kn] at hx
              clear kn
              have kn : tm.getD 65 undef = .bool false := fin 14 _ _ rfl rfl
              rw [kn] at hx
              clear kn
              have kn : tm.getD 66 undef = .bool false := fin 15 _ _ rfl rfl
              rw [kn] at hx
              clear kn
              have kn : tm.getD 67 undef = .bool false := fin 16 _ _ rfl rfl
              rw [kn] at hx
              clear kn
              have kn : tm.getD 68 undef = .int .i64 (m : Int) := fin 17 _ _ rfl rfl
              rw [kn] at hx
              clear kn
              have kn : tm.getD 69 undef = .int .i64 (m : Int) := fin 18 _ _ rfl rfl
              rw [kn] at hx
              clear kn
              have kn : tm.getD 70 undef = .bool false := fin 19 _ _ rfl rfl
              rw [kn] at hx
              clear kn
              have kn : tm.getD 71 undef = .bool false := fin 20 _ _ rfl rfl
              rw [kn] at hx
              clear kn
              clear fin
              simp only [List.setIfInBounds_toArray, List.set_cons_succ, List.set_cons_zero] at hx
              subst hx
              have HB9 := hide hb
              clear hb
              go_wp2
              go_roundw
              case rel => exact ⟨m, _, by have := HM.out; omega, rfl, by go_num, hide ((SB.out.below HB9.out).take 1)⟩
              case measure => simp [intOf]
  · have hl1 : (100 : Int) < (l.length : Int) := by omega
    clear hlen
    go_enter Try.func5, Try.ntmps5
    go_wp2_with (go_at_call 9; (with_reducible refine (fit_any _).mono ?_); rintro e w0 ⟨rfl, hb⟩; have S0 := hide ((Ow.start w).below hb); clear hb)
    go_ret
    exact ⟨rfl, S0.out.bel⟩
end Go.Proofs.Ytkegfedbffhnfaa
