/-
  TransSaves' walk.
-/
import Derived.Test.YtkegfedbffhnfaaNum11
namespace Go.Proofs.Ytkegfedbffhnfaa
open Go.RowKit
set_option maxRecDepth 20000
set_option linter.unusedSimpArgs false
set_option linter.unusedVariables false

theorem oneT_beg (x : Nat) : updT noT 1 (some (x, tx0)) = oneT x tx0 := rfl
section
variable {A0 W : World} {F0 : Nat → Prop} {L : List Res} {i g x : Nat} {t : Tx}
theorem ow_beg1 (h : Ow A0 F0 W L) (hi : L[i]? = some (Res.tt g noT)) : Calls Try.prog 10 #[.pointer (some ⟨g, 0, none⟩)] W fun e W' => e = .returned (.int .i64 1) ∧ ∃ x, Ow A0 F0 W' (L.set i (Res.tt g (oneT x tx0))) := by
  refine (ow_begin_to h hi least_no (by decide)).mono ?_
  rintro e W' ⟨rfl, x, h1⟩
  exact ⟨rfl, x, h1⟩
theorem ow_get1 (h : Ow A0 F0 W L) (hi : L[i]? = some (Res.tt g (oneT x t))) : Calls Try.prog 12 #[.pointer (some ⟨g, 0, none⟩), .int .i64 1] W fun e W' => e = .returned (.pointer (some ⟨x, 0, none⟩)) ∧ W = W' := ow_getn h hi (j := 1) rfl
theorem ow_push1 (h : Ow A0 F0 W L) (hi : L[i]? = some (Res.tt g (oneT x t))) (hl : t.l.length ≤ 100000) (ho : t.ops ≤ 100000) (c : Ch) : Calls Try.prog 13 #[.pointer (some ⟨x, 0, none⟩), .agg #[.int .i64 c.page, .int .i64 c.slot, .string c.before]] W fun e W' => e = .returned (.tuple #[]) ∧ Ow A0 F0 W' (L.set i (Res.tt g (oneT x (t.push c)))) := by
  have := ow_push h hi (oneT_at x t) hl ho c
  rw [oneT_upd] at this
  exact this
theorem ow_save1 (h : Ow A0 F0 W L) (hi : L[i]? = some (Res.tt g (oneT x t))) {n : Nat} {t' : Tx} (hn : t.saveN = n) (ht : t.saved = t') : Calls Try.prog 15 #[.pointer (some ⟨x, 0, none⟩)] W fun e W' => e = .returned (.int .i64 (n : Int)) ∧ Ow A0 F0 W' (L.set i (Res.tt g (oneT x t'))) := by
  have := ow_save h hi (oneT_at x t)
  rw [oneT_upd, hn, ht] at this
  exact this
theorem ow_back1 {m j u : Nat} (h : Ow A0 F0 W L) (hi : L[i]? = some (Res.tt g (oneT x t))) (hm : m = j + 1) (hml : m ≤ t.sv.length) (hu : t.sv[j]? = some u) : Calls Try.prog 16 #[.pointer (some ⟨x, 0, none⟩), .int .i64 (m : Int)] W fun e W' => e = .returned (.tuple #[.int .i64 (u : Int), .bool true]) ∧ Ow A0 F0 W' (L.set i (Res.tt g (oneT x ⟨t.l, t.ops, t.sv.take m⟩))) := by
  have := ow_back h hi (oneT_at x t) hm hml hu
  rw [oneT_upd] at this
  exact this
end
theorem save_few {t : Tx} {n : Nat} (h : t.sv.length = n) (hn : n < 4) : t.saveN = n + 1 ∧ t.saved = ⟨t.l, t.ops, t.sv ++ [t.l.length]⟩ := by
  unfold Tx.saveN Tx.saved
  rw [h, if_pos hn, if_pos hn]
  exact ⟨rfl, rfl⟩
theorem save_many {t : Tx} (h : 4 ≤ t.sv.length) : t.saveN = 0 ∧ t.saved = t := by
  unfold Tx.saveN Tx.saved
  rw [if_neg (by omega), if_neg (by omega)]
  exact ⟨rfl, rfl⟩
set_option maxHeartbeats 8000000 in
theorem saves_walk (v : Value) (l : List Int) (back : Int) (w : World) (hv : IntRow w w.heap.size v l) (hbk : (Lit.int .i64 back).wf = true) : Calls Try.prog 6 #[v, .int .i64 back] w fun e w' => e = .returned (.bool true) ∧ Below w.heap.size w w' := by
  obtain ⟨⟨A0, cap, rfl, hlc, _⟩, _⟩ := id hv
  have HV := hide hv
  clear hv hlc
  by_cases hlen : l.length ≤ 10
  · have hl1 : ¬ (10 : Int) < (l.length : Int) := by omega
    have HFEW := hide hlen
    clear hlen
    go_enter Try.func6, Try.ntmps6
    go_wp2_with (first
      | (go_at_call 9; (with_reducible refine (fit_any _).mono ?_); rintro e w0 ⟨rfl, hb⟩; have hs := ((Ow.start w).below hb).newtab layT 27; have HK0 := hide (ow_beg1 hs (i := 0) rfl); clear hb hs)
      | (go_at_call 10; (with_reducible refine HK0.out.mono ?_); rintro e w1 ⟨rfl, x, hs⟩; clear HK0; have HK1 := hide (ow_get1 hs (i := 0) rfl); have S1 := hide hs; clear hs)
      | (go_at_call 12; (with_reducible refine HK1.out.mono ?_); rintro e w2 ⟨rfl, rfl⟩; clear HK1))
    have S2 : Hid (Ow w (fun _ => False) w1 [Res.tt w0.heap.size (oneT x ⟨[], 0, []⟩), Res.row numK (.slice none 0 0) []]) := hide (S1.out.newrow numK)
    clear S1
    generalize w0.heap.size = g at *
    go_loopw [7, 8, 27] (fun u c i wr => ∃ (j : Nat) (cl : List Ch) (sv : List Nat), j ≤ l.length ∧ i = .int .i64 j ∧ c = .int .i64 cl.length ∧ Hid (Ow w (fun _ => False) wr [Res.tt g (oneT x ⟨cl, cl.length, sv⟩), Res.row numK u sv]) ∧ Hid (cl.length ≤ 3 * j) ∧ Hid ((j < 4 → sv.length = j) ∧ (4 ≤ j → sv.length = 4))) (fun _ _ i _ => l.length - (intOf i).toNat)
    case atStart => exact ⟨0, [], [], by omega, rfl, rfl, S2, hide (Nat.le_refl _), hide ⟨fun _ => rfl, fun h => by omega⟩⟩
    case round =>
      clear S2
      obtain ⟨j, cl, sv, hj, rfl, rfl, hs, hcl, hsv⟩ := hrel
      by_cases hlt : j < l.length
      · obtain ⟨p, hc⟩ : ∃ p, l[j]? = some p := ⟨_, List.getElem?_eq_getElem hlt⟩
        obtain ⟨_, b1, o1, rfl, i0, hok⟩ := int_cell HV.out hs.out.bel hc
        obtain ⟨m, hm4, hand⟩ := and3 p
        have q0 : (0 : Int) ≤ (j : Int) := by omega
        have q1 : (j : Int) < (l.length : Int) := by omega
        have HLT := hide hlt
        have HM4 := hide hm4
        have rm : (m : Int) ≤ 4 := by omega
        have HJ : Hid (j ≤ 10) := hide (by have := HFEW.out; omega)
        have hj10 : (j : Int) ≤ 10 := by have := HFEW.out; omega
        clear hok hc hlt hm4
        go_wp2
        go_loopw [8, 34] (fun c i wr => ∃ (q : Nat) (cl : List Ch), q ≤ m ∧ i = .int .i64 q ∧ c = .int .i64 cl.length ∧ Hid (Ow w (fun _ => False) wr [Res.tt g (oneT x ⟨cl, cl.length, sv⟩), Res.row numK u7 sv]) ∧ Hid (cl.length ≤ 3 * j + q)) (fun _ i _ => m - (intOf i).toNat)
        case atStart => exact ⟨0, cl, by omega, rfl, rfl, hs, hcl⟩
        case round =>
          clear hs hcl
          rename World => w8
          obtain ⟨q, cl, hq, rfl, rfl, hs, hcl⟩ := hrel
          by_cases hql : q < m
          · have HQ := hide hql
            have r0 : (q : Int) < (m : Int) := by omega
            have r1 : (cl.length : Int) ≤ 100 := by have := hcl.out; have := HM4.out; have := HJ.out; omega
            have HK0 := hide (ow_push1 hs.out (i := 0) rfl (by show cl.length ≤ _; omega) (by show cl.length ≤ _; omega) ⟨0, (j : Int), ⟨#[]⟩⟩)
            clear hql
            go_wp2_with (go_at_call 13; (with_reducible refine HK0.out.mono ?_); rintro e w3 ⟨rfl, hs⟩; clear HK0; have HE := hide hs; clear hs)
            go_roundw
            case rel => exact ⟨q + 1, cl ++ [⟨0, (j : Int), ⟨#[]⟩⟩], by have := HQ.out; omega, by go_num, by rw [List.length_append]; rfl, hide (by rw [List.length_append]; exact HE.out), hide (by rw [List.length_append, List.length_singleton]; have := hcl.out; omega)⟩
            case measure => simp [intOf]; have := HQ.out; omega
          · obtain rfl : q = m := by omega
            clear hql hq
            have r2 : (cl.length : Int) ≤ 100 := by have := hcl.out; have := HM4.out; have := HJ.out; omega
            by_cases h4 : j < 4
            · have h4i : ¬ (4 : Int) ≤ (j : Int) := by omega
              have HSV := hide (hsv.out.1 h4)
              have H4 := hide h4
              have SC := hide (hs.out.box 3 #[.int .i64 (cl.length : Int)])
              obtain ⟨v', w4, hrun, k1, k2, k3⟩ := run_append_k (K := numK) (x := cl.length) (SC.out.krow (i := 1) rfl) (by have := HSV.out; omega) (fun i u hi => (SC.out.blk (i := 2) rfl).cell i u (by rw [← hi, ← Array.getElem?_toList]; rfl)) (c := 1) 36
              have S8 := hide ((SC.out.appended (i := 1) rfl k1 k2 k3).take 2)
              have HRUN : Hid ((Builtin.append_ #[36, 36] 36 #[u7, .slice (some ⟨w8.heap.size, 0, none⟩) 1 1]).run Try.prog (w8.alloc (.cells #[.int .i64 (cl.length : Int)] 3)) = .ok v' w4) := hide hrun
              obtain ⟨e1, e2⟩ := save_few (t := ⟨cl, cl.length, sv⟩) HSV.out h4
              have HK0 := hide (ow_save1 S8.out (i := 0) rfl e1 e2)
              clear hrun k1 k2 k3 e1 e2 h4
              go_wp2_with (first
                | (at_builtin; refine Lib.wpList_append_run _ rfl (.tmp 47) (.tmp 49) _ _ rfl _ _ rfl rfl _ _ HRUN.out ?_)
                | (go_at_call 15; (with_reducible refine HK0.out.mono ?_); rintro e w5 ⟨rfl, hs⟩; clear HK0; have HE := hide hs; clear hs))
              go_roundw
              case rel => exact ⟨j + 1, cl, _, by have := HLT.out; omega, by go_num, rfl, HE, hide (by have := hcl.out; have := HM4.out; omega), hide ⟨fun _ => by rw [List.length_append, List.length_singleton, HSV.out], fun h => by rw [List.length_append, List.length_singleton, HSV.out]; have := H4.out; omega⟩⟩
              case measure => simp [intOf]; have := HLT.out; omega
            · have h4i : (4 : Int) ≤ (j : Int) := by omega
              have HSV := hide (hsv.out.2 (by omega))
              have H4 := hide h4
              obtain ⟨e1, e2⟩ := save_many (t := ⟨cl, cl.length, sv⟩) (by show 4 ≤ sv.length; have := HSV.out; omega)
              have HK0 := hide (ow_save1 hs.out (i := 0) rfl e1 e2)
              clear e1 e2 h4
              go_wp2_with (go_at_call 15; (with_reducible refine HK0.out.mono ?_); rintro e w5 ⟨rfl, hs⟩; clear HK0; have HE := hide hs; clear hs)
              go_roundw
              case rel => exact ⟨j + 1, cl, sv, by have := HLT.out; omega, by go_num, rfl, HE, hide (by have := hcl.out; have := HM4.out; omega), hide ⟨fun h => by have := H4.out; omega, fun _ => HSV.out⟩⟩
              case measure => simp [intOf]; have := HLT.out; omega
      · obtain rfl : j = l.length := by omega
        clear hlt hj
        obtain ⟨Aa, ca, rfl⟩ := (hs.out.krow (i := 1) rfl).form
        have hs4 : sv.length ≤ 4 := by
          rcases Nat.lt_or_ge l.length 4 with h | h
          · have := hsv.out.1 h
            omega
          · exact Nat.le_of_eq (hsv.out.2 h)
        have HS4 := hide hs4
        have hwb := wf_i64 hbk
        by_cases hbb : 1 ≤ back ∧ back ≤ (sv.length : Int)
        · obtain ⟨m, i, hm, rfl⟩ : ∃ m i : Nat, m = i + 1 ∧ back = (m : Int) := ⟨back.toNat, back.toNat - 1, by omega, by omega⟩
          obtain ⟨k, hk⟩ : ∃ k, sv[i]? = some k := ⟨_, List.getElem?_eq_getElem (by omega)⟩
          have hml : m ≤ sv.length := by omega
          have HK0 := hide (ow_back1 hs.out (i := 0) rfl hm hml hk)
          obtain ⟨ga, cg, eg, _⟩ := (hs.out.krow (i := 1) rfl).block (by omega)
          injection eg with eg1 eg2 eg3
          subst eg1 eg3
          have b1 : (1 : Int) ≤ (m : Int) := by omega
          have b2 : (m : Int) ≤ (sv.length : Int) := by omega
          have b3 : (m : Int) ≤ 4 := by omega
          have b4 : (m : Int) - 1 = (i : Int) := by omega
          have b5 : (i : Int) < (sv.length : Int) := by omega
          have b6 : (0 : Int) ≤ (i : Int) := by omega
          have HM := hide hm
          have HML := hide hml
          have HKU := hide hk
          have htl : (sv.take m).length = m := by rw [List.length_take]; omega
          have HTL := hide htl
          have HTK : Hid ((sv.take m).take m = sv.take m) := hide (by rw [List.take_take, Nat.min_self])
          have HTU : Hid ((sv.take m)[i]? = some k) := hide (by rw [List.getElem?_take, if_pos (by omega)]; exact hk)
          clear hm hml hk hbb hwb htl hs4 hsv hcl
          by_cases h4 : m = 4
          · have h4i : (4 : Int) = (m : Int) := by omega
            clear h4 b3
            go_wp2_with (first
              | (go_at_call 16; (with_reducible refine HK0.out.mono ?_); rintro e w3 ⟨rfl, hs⟩; clear HK0; have HK1 := hide (ow_back0 hs (i := 0) rfl (oneT_at _ _) ((m : Int) + 1) (.inr (by show ((sv.take m).length : Int) < _; rw [HTL.out]; omega))); have HS1 := hide hs; clear hs)
              | (go_at_call 16; (with_reducible refine HK1.out.mono ?_); rintro e w4 ⟨rfl, rfl⟩; clear HK1; have HK2 := hide (ow_back1 HS1.out (i := 0) rfl HM.out (by show m ≤ (sv.take m).length; rw [HTL.out]; exact Nat.le_refl _) HTU.out))
              | (go_at_call 16; (with_reducible refine HK2.out.mono ?_); rintro e w5 ⟨rfl, hs⟩; clear HK2; have c0 : w5.cell? ⟨ga, i * 1 + 0, none⟩ = some (.int .i64 (k : Int)) := (hs.krow (i := 1) rfl).cells HKU.out 0 _ rfl; rw [Nat.mul_one, Nat.add_zero] at c0; have HE := hide hs; clear hs))
            go_ret
            exact ⟨rfl, HE.out.bel⟩
          · have h4i : ¬ (m : Int) = 4 := by omega
            have H4 : Hid (m < 4) := hide (by omega)
            clear h4
            go_wp2_with (first
              | (go_at_call 16; (with_reducible refine HK0.out.mono ?_); rintro e w3 ⟨rfl, hs⟩; clear HK0; have HK1 := hide (ow_back0 hs (i := 0) rfl (oneT_at _ _) ((m : Int) + 1) (.inr (by show ((sv.take m).length : Int) < _; rw [HTL.out]; omega))); have HS1 := hide hs; clear hs)
              | (go_at_call 16; (with_reducible refine HK1.out.mono ?_); rintro e w4 ⟨rfl, rfl⟩; clear HK1; have HK2 := hide (ow_back1 HS1.out (i := 0) rfl HM.out (by show m ≤ (sv.take m).length; rw [HTL.out]; exact Nat.le_refl _) HTU.out))
              | (go_at_call 16; (with_reducible refine HK2.out.mono ?_); rintro e w5 ⟨rfl, hs⟩; clear HK2; have c0 : w5.cell? ⟨ga, i * 1 + 0, none⟩ = some (.int .i64 (k : Int)) := (hs.krow (i := 1) rfl).cells HKU.out 0 _ rfl; rw [Nat.mul_one, Nat.add_zero] at c0; have HK3 := hide (ow_save1 hs (i := 0) rfl (save_few (n := m) (by show ((sv.take m).take m).length = m; rw [HTK.out, HTL.out]) H4.out).1 rfl); clear hs)
              | (go_at_call 15; (with_reducible refine HK3.out.mono ?_); rintro e w6 ⟨rfl, hs⟩; clear HK3; have HE := hide hs; clear hs))
            go_ret
            exact ⟨rfl, HE.out.bel⟩
        · have HK0 := hide (ow_back0 hs.out (i := 0) rfl (oneT_at _ _) back (by show back < 1 ∨ (sv.length : Int) < back; omega))
          have HE := hs
          by_cases h1 : back < 1
          · have h1i : ¬ 1 ≤ back := by omega
            clear hbb hwb
            go_wp2_with (go_at_call 16; (with_reducible refine HK0.out.mono ?_); rintro e w3 ⟨rfl, rfl⟩; clear HK0)
            go_ret
            exact ⟨rfl, HE.out.bel⟩
          · have h1i : 1 ≤ back := by omega
            have h2i : ¬ back ≤ (sv.length : Int) := by omega
            clear hbb hwb h1
            go_wp2_with (go_at_call 16; (with_reducible refine HK0.out.mono ?_); rintro e w3 ⟨rfl, rfl⟩; clear HK0)
            go_ret
            exact ⟨rfl, HE.out.bel⟩
  · have hl1 : (10 : Int) < (l.length : Int) := by omega
    clear hlen
    go_enter Try.func6, Try.ntmps6
    go_wp2_with (go_at_call 9; (with_reducible refine (fit_any _).mono ?_); rintro e w0 ⟨rfl, hb⟩; have S0 := hide ((Ow.start w).below hb); clear hb)
    go_ret
    exact ⟨rfl, S0.out.bel⟩
end Go.Proofs.Ytkegfedbffhnfaa
