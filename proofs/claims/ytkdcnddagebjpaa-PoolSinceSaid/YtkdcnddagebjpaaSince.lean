/-
  PoolSince's walk.
-/
import Derived.Test.YtkdcnddagebjpaaUpd
namespace Go.Proofs.Ytkdcnddagebjpaa
open Go.RowKit
set_option maxRecDepth 20000
set_option linter.unusedSimpArgs false
set_option linter.unusedVariables false

/-- Three places, as cells. -/
def sinC (a : Nat → Nat) : Array Value := #[.int .u64 (a 0 : Int), .int .u64 (a 1 : Int), .int .u64 (a 2 : Int)]
theorem sinC_get (a : Nat → Nat) {p : Nat} (h : p < 3) : (sinC a)[p]? = some (.int .u64 (a p : Int)) := by
  match p, h with
  | 0, _ => rfl
  | 1, _ => rfl
  | 2, _ => rfl
theorem sinC_congr {a b : Nat → Nat} (h : ∀ i, i < 3 → a i = b i) : sinC a = sinC b := by
  unfold sinC
  rw [h 0 (by omega), h 1 (by omega), h 2 (by omega)]
theorem sinC_set (a : Nat → Nat) {p : Nat} (h : p < 3) (x : Nat) : (sinC a).setIfInBounds p (.int .u64 (x : Int)) = sinC (fun i => if i = p then x else a i) := by
  match p, h with
  | 0, _ => rfl
  | 1, _ => rfl
  | 2, _ => rfl
theorem sinces_get (P : Po) {i : Nat} (h : i < 3) : (u64s (P.sinces 6)).toArray[i]? = some (.int .u64 (P.sinceOf i : Int)) := by
  unfold Po.sinces u64s
  rw [List.getElem?_toArray, List.getElem?_map, List.getElem?_map, List.getElem?_range (by omega)]
  simp only [Option.map_some]
  rw [if_pos (by omega)]
theorem got_nums {P P' : Po} {D D' : Nat → Pg} {n z : Nat} (h : Got P D n z P' D') (hN : ∀ i, i < 3 → (P.f i).pb ≠ none → (P.f i).num < 3) (hn : n < 3) : ∀ i, i < 3 → (P'.f i).pb ≠ none → (P'.f i).num < 3 := by
  intro i hi hp
  rcases h.nums i hi hp with e | ⟨j, hj, hpj, e⟩
  · omega
  · rw [← e]; exact hN j hj hpj
theorem nums_touched {P : Po} {z m : Nat} (hz : z < 3) (hN : ∀ i, i < 3 → (P.f i).pb ≠ none → (P.f i).num < 3) : ∀ i, i < 3 → ((P.set z ((P.f z).touched m)).f i).pb ≠ none → ((P.set z ((P.f z).touched m)).f i).num < 3 := by
  intro i hi hp
  by_cases e : i = z
  · subst e; rw [Po.set_same] at hp ⊢; exact hN i hi hp
  · rw [Po.set_other _ _ e] at hp ⊢; exact hN i hi hp
section
variable {w w' : World} {X : Nat → Prop} {dg : Nat} {d : Ds} {g q r k gen s : Nat} {all : List Rc} {P : Po} {D : Nat → Pg} {x : Option Nat} {l : Ln} {kv : Value}
theorem PAt.foreign {S : Nat → Prop} (h : PAt w X dg d g l kv q P) (hk : Kept S w w') (hS : ∀ k, S k → X k) : PAt w' X dg d g l kv q P :=
  ⟨h.ln.foreign hk (fun k hs => .inl (hS k hs)), h.xq, hk.blk h.blk (fun hs => h.xq (hS q hs)), fun i b hi e => ⟨hk.blk (h.pg i b hi e).1 (fun hs => (h.pg i b hi e).2.1 (hS b hs)), (h.pg i b hi e).2⟩, h.apart⟩
/-- Blocks of the caller's have turned. -/
theorem PoolT.foreign {S : Nat → Prop} (h : PoolT w X dg d g q r k gen all s P D x) (hk : Kept S w w') (hS : ∀ k, S k → X k) : PoolT w' X dg d g q r k gen all s P D x := by
  obtain ⟨l, kv, gr, h1, h2⟩ := h
  exact ⟨l, kv, gr, h1.foreign hk hS, h2⟩
end
set_option maxHeartbeats 8000000 in
theorem since_walk (v : Value) (cs : List Int) (w : World) (hv : Row w w.heap.size v (cs.map fun x => .int .i64 x)) :
    Calls Try.prog 6 #[v] w fun e w' => e = .returned (.bool true) ∧ Below w.heap.size w w' := by
  obtain ⟨Av, cv, ev, _, _⟩ := id hv
  rw [List.length_map] at ev
  subst ev
  have HV := hide hv
  have hfit := fit_any w
  clear hv
  by_cases h60 : 60 < cs.length
  · have h60' : (60 : Int) < (cs.length : Int) := by omega
    go_enter Try.func6, Try.ntmps6
    go_wp2_with (go_at_call 8; ((with_reducible refine hfit.mono ?_); rintro e w0 ⟨rfl, hb0⟩; have B0 := hide hb0; clear hb0 hfit))
    go_ret
    exact ⟨rfl, B0.out⟩
  have h60' : ¬ (60 : Int) < (cs.length : Int) := by omega
  go_enter Try.func6, Try.ntmps6
  go_wp2_with (first
    | (go_at_call 8; ((with_reducible refine hfit.mono ?_); rintro e w0 ⟨rfl, hb0⟩; have B0 := hide hb0; have hnew := disk_new1 w0; clear hb0 hfit))
    | (go_at_call 9; ((with_reducible refine hnew.mono ?_); rintro e w1 ⟨dg, d, rfl, hm1, hd1, hdn, hb1⟩; have B1 := hide hb1; have hln := new_lane0 hm1 hd1 hdn (by omega); clear hb1 hm1 hd1 hdn hnew))
    | (go_at_call 10; ((with_reducible refine hln.mono ?_); rintro e w2 ⟨g, d2, rfl, _, hv2, ho2⟩; have O2 := hide ho2; have hpn := new_pool0 hv2; clear hv2 ho2 hln))
    | (go_at_call 11; ((with_reducible refine hpn.mono ?_); rintro e w3 ⟨q, rfl, hp3, hb3⟩; have O3 := hide (O2.out.trans (Out.of_below hb3)); have P3 := hide hp3; clear hp3 hb3 hpn)))
  have hb4 := (Below.refl w3.heap.size w3).alloc (Nat.le_refl _) (.cells #[.int .u64 0, .int .u64 0, .int .u64 0] 68)
  have P4 := hide (P3.out.more (Y := fun k => k < w0.heap.size ∨ k = w3.heap.size) hb4 (by rintro k (h1 | rfl); exact .inl h1; exact .inr ⟨Nat.le_refl _, by simp⟩))
  have O4 := hide (O3.out.trans (Out.of_below hb4))
  have S4 := hide (Blk.new_ w3 #[.int .u64 0, .int .u64 0, .int .u64 0] 68 rfl)
  have hl0 := frs_check
  have hw3 : w0.heap.size ≤ w3.heap.size := Nat.le_trans B1.out.size O3.out.size
  clear hb4
  generalize w3.heap.size = gs at *
  go_loopw [33] (fun i wr => ∃ (j s k : Nat) (dj : Ds) (P : Po) (D : Nat → Pg) (all : List Rc), j ≤ cs.length ∧ i = .int .i64 j ∧ k ≤ 700 + 700 * j ∧ Hid (PoolT wr (fun k => k < w0.heap.size ∨ k = gs) dg dj g q 0 k 1 all s P D none) ∧ Hid ((frsR all).length ≤ 11 * (j + 1)) ∧ Hid (∀ i, i < 3 → (P.f i).pb ≠ none → (P.f i).num < 3) ∧ Hid (Blk wr gs 68 (sinC P.sinceOf)) ∧ Hid (Out (fun k => k < w0.heap.size) w1 wr)) (fun i _ => cs.length - (intOf i).toNat)
  case atStart => exact ⟨0, 1, 700, d2, _, _, [checkR], by omega, rfl, by omega, P4, hide (by omega), hide (fun i _ hp => absurd rfl hp), S4, O4⟩
  case round =>
    obtain ⟨j, s, k, dj, P, D, all, hj, rfl, hk, hP, hF, hN, hS, hO⟩ := hrel
    by_cases hlt : j < cs.length
    · have hbw : Below w.heap.size w wr := B0.out.trans ((B1.out.trans ((hO.out.below B1.out.size (fun k hk => hk)).mono (Nat.le_refl _))).mono B0.out.size)
      obtain ⟨b, o, cap, he, hcell⟩ := int_at HV.out hbw hlt
      injection he with e1 e2 e3
      subst e1
      subst e3
      have hj1 : (j : Int) < (cs.length : Int) := by omega
      generalize cs[j] = x at *
      obtain ⟨p, hp6, hpm, hp3, hp4⟩ := mod_three (x / 2)
      obtain ⟨m, hm2, hand⟩ := and_low x 1 (by omega)
      have hand' : bits .and .i64 x 1 = (m : Int) := hand
      have hm1 : m = 0 ∨ m = 1 := by have : (2 : Nat) ^ 1 = 2 := rfl; omega
      have hgt := po_get hP.out (by omega) (show p < 6 by omega)
      have HP3 := hide hp6
      have hp3' : (p : Int) < 3 := by omega
      have HK := hide hk
      have hroom := three_room hP.out hN.out hp6
      have RM := hide hroom
      clear hbw hand hroom hp6
      rcases hm1 with rfl | rfl
      · go_upto_region 21 with (first
          | (go_at_call 12; ((with_reducible refine hgt.mono ?_); rintro e w6 ⟨bp, zp, P6, D6, s6, d6, rfl, hz6, hb6, hn6, hG6, _, hp6', ho6⟩; have O6 := hide ho6; have B6 := hide hb6; have N6 := hide hn6; have G6 := hide hG6; have T6 := hide hp6'; have hap := po_upd0 hp6' (by have := hF.out; omega); have HL6 := hide (lim_lt (gen := 1) (by omega) hp6'.in_.2.2.1); clear hb6 hn6 hG6 hp6' ho6 hgt))
          | (go_at_call 13; ((with_reducible refine hap.mono ?_); rintro e w7 ⟨rfl, hp7, ho7⟩; have O7 := hide (O6.out.trans ho7); have T7 := hide hp7; have htc := po_touch hp7 hz6 B6.out N6.out (.inl rfl) (lim_pos 1 all) (lim_app 1 all _) HL6.out; clear hp7 ho7 hap))
          | (go_at_call 14; ((with_reducible refine htc.mono ?_); rintro e w8 ⟨rfl, hp8, ho8⟩; have O8 := hide (O7.out.trans ho8); have T8 := hide hp8; have S8 := hide (O8.out.blk hS.out (.inr rfl)); clear hp8 ho8 htc)))
        have ts := touched_since T7.out hz6 B6.out N6.out (m := lim 1 all)
        have hsc : sinC (P6.set zp ((P6.f zp).touched (lim 1 all))).sinceOf = sinC (fun i => if i = p then (if P.sinceOf p = 0 then lim 1 all else P.sinceOf p) else P.sinceOf i) := sinC_congr (fun i _ => by rw [ts i, G6.out.since RM.out p, G6.out.since RM.out i])
        have HSC := hide hsc
        have F8 : Hid ((frsR (all ++ [updR 0])).length ≤ 11 * (j + 1 + 1)) := hide (by rw [frs_upd]; have := hF.out; omega)
        have N8 : Hid (∀ i, i < 3 → ((P6.set zp ((P6.f zp).touched (lim 1 all))).f i).pb ≠ none → ((P6.set zp ((P6.f zp).touched (lim 1 all))).f i).num < 3) := hide (nums_touched hz6 (got_nums G6.out hN.out HP3.out))
        have cp := S8.out.cell p _ (sinC_get _ HP3.out)
        clear ts hsc
        by_cases hs0 : P.sinceOf p = 0
        · rw [hs0] at cp
          have zfz := S8.out.frozen p
          have hcp0 : Hid (sinC (fun i => if i = p then (if P.sinceOf p = 0 then lim 1 all else P.sinceOf p) else P.sinceOf i) = sinC (fun i => if i = p then lim 1 all else P.sinceOf i)) := hide (sinC_congr (fun i _ => by rw [if_pos hs0]))
          clear hs0
          go_upto_region 25 with fail
          have KG := kept_cell w8 gs p (.int .u64 (lim 1 all : Int))
          have T9 := hide (T8.out.foreign KG (fun k e => .inr e))
          have O9 := hide (show Out (fun k => k < w0.heap.size) w8 _ from KG.mono (fun k e => .inl (by rw [e]; omega)))
          have S9 := hide (S8.out.set_ p (.int .u64 (lim 1 all : Int)))
          rw [sinC_set _ HP3.out] at S9
          have S10 : Hid (Blk (w8.setCell ⟨gs, p, none⟩ (.int .u64 (lim 1 all : Int))) gs 68 (sinC (P6.set zp ((P6.f zp).touched (lim 1 all))).sinceOf)) := by
            rw [HSC.out, hcp0.out]
            exact S9
          have O10 := hide ((O8.out.less (X := fun k => k < w0.heap.size) (fun k hk => .inl hk)).trans O9.out)
          clear KG cp zfz S9
          generalize w8.setCell ⟨gs, p, none⟩ (.int .u64 (lim 1 all : Int)) = w9 at *
          have hdt := po_dirty T9.out
          go_wp2_with (go_at_call 26; ((with_reducible refine hdt.mono ?_); rintro e wd ⟨db, rfl, hdb, hbl, hbd⟩; have BD := hide hbd; have DB := hide hbl; have SD := hide (S10.out.below hbd); have TD := hide (T9.out.below hbd); clear hbl hbd hdt))
          go_loopw [81] (fun u wz => ∃ i : Nat, i ≤ 3 ∧ u = .int .i64 i ∧ wd = wz) (fun u _ => 3 - (intOf u).toNat)
          case atStart => exact ⟨0, by omega, rfl, rfl⟩
          case round =>
            obtain ⟨i, hi, rfl, rfl⟩ := hrel
            by_cases hi3 : i < 3
            · have hi3' : (i : Int) < 3 := by omega
              have c1 := DB.out.cell i _ (sinces_get (P6.set zp ((P6.f zp).touched (lim 1 all))) hi3)
              have c2 := SD.out.cell i _ (sinC_get _ hi3)
              generalize Po.sinceOf (P6.set zp ((P6.f zp).touched (lim 1 all))) i = sv at *
              go_wp2
              go_roundw
              case rel => exact ⟨i + 1, by omega, by go_num, by trivial⟩
              case measure => simp [intOf]; omega
            · obtain rfl : i = 3 := by omega
              go_wp2
              go_roundw
              case rel => exact ⟨j + 1, _, k + 310, _, _, _, all ++ [updR 0], by omega, by go_num, by have := HK.out; omega, TD, F8, N8, SD, hide (hO.out.trans (O10.out.trans (Out.of_below BD.out)))⟩
              case measure => simp [intOf]; omega
        · have hs0' : ¬ ((P.sinceOf p : Nat) : Int) = 0 := by omega
          have S10 : Hid (Blk w8 gs 68 (sinC (P6.set zp ((P6.f zp).touched (lim 1 all))).sinceOf)) := by
            rw [HSC.out]
            have : sinC (fun i => if i = p then (if P.sinceOf p = 0 then lim 1 all else P.sinceOf p) else P.sinceOf i) = sinC P.sinceOf := sinC_congr (fun i _ => by
              rw [if_neg hs0]
              split
              · rename_i e; rw [e]
              · rfl)
            rw [this]
            exact S8
          generalize P.sinceOf p = sp at *
          go_upto_region 25 with fail
          have hdt := po_dirty T8.out
          go_wp2_with (go_at_call 26; ((with_reducible refine hdt.mono ?_); rintro e wd ⟨db, rfl, hdb, hbl, hbd⟩; have BD := hide hbd; have DB := hide hbl; have SD := hide (S10.out.below hbd); have TD := hide (T8.out.below hbd); clear hbl hbd hdt))
          go_loopw [81] (fun u wz => ∃ i : Nat, i ≤ 3 ∧ u = .int .i64 i ∧ wd = wz) (fun u _ => 3 - (intOf u).toNat)
          case atStart => exact ⟨0, by omega, rfl, rfl⟩
          case round =>
            obtain ⟨i, hi, rfl, rfl⟩ := hrel
            by_cases hi3 : i < 3
            · have hi3' : (i : Int) < 3 := by omega
              have c1 := DB.out.cell i _ (sinces_get (P6.set zp ((P6.f zp).touched (lim 1 all))) hi3)
              have c2 := SD.out.cell i _ (sinC_get _ hi3)
              generalize Po.sinceOf (P6.set zp ((P6.f zp).touched (lim 1 all))) i = sv at *
              go_wp2
              go_roundw
              case rel => exact ⟨i + 1, by omega, by go_num, by trivial⟩
              case measure => simp [intOf]; omega
            · obtain rfl : i = 3 := by omega
              go_wp2
              go_roundw
              case rel => exact ⟨j + 1, _, k + 310, _, _, _, all ++ [updR 0], by omega, by go_num, by have := HK.out; omega, TD, F8, N8, SD, hide (hO.out.trans ((O8.out.trans (Out.of_below BD.out)).less (fun k hk => .inl hk)))⟩
              case measure => simp [intOf]; omega
      · go_upto_region 25 with (first
          | (go_at_call 12; ((with_reducible refine hgt.mono ?_); rintro e w6 ⟨bp, zp, P6, D6, s6, d6, rfl, hz6, hb6, hn6, hG6, _, hp6', ho6⟩; have O6 := hide ho6; have G6 := hide hG6; have hfl := po_flush hp6' (by have := HK.out; omega) (show p < 6 by have := HP3.out; omega); clear hb6 hn6 hG6 hp6' ho6 hgt))
          | (go_at_call 15; ((with_reducible refine hfl.mono ?_); rintro e w8 ⟨P8, D8, s8, d8, rfl, hF8, _, hp8, ho8⟩; have O8 := hide (O6.out.trans ho8); have F8 := hide hF8; have T8 := hide hp8; have S8 := hide (O8.out.blk hS.out (.inr rfl)); have hc8 := S8.out.cell p _ (sinC_get _ HP3.out); have zfz := S8.out.frozen p; clear hF8 hp8 ho8 hfl)))
        have KG := kept_cell w8 gs p (.int .u64 0)
        have T9 := hide (T8.out.foreign KG (fun k e => .inr e))
        have O9 := hide (show Out (fun k => k < w0.heap.size) w8 _ from KG.mono (fun k e => .inl (by rw [e]; omega)))
        have S9 := hide (S8.out.set_ p (.int .u64 ((0 : Nat) : Int)))
        rw [sinC_set _ HP3.out] at S9
        have S10 : Hid (Blk (w8.setCell ⟨gs, p, none⟩ (.int .u64 0)) gs 68 (sinC P8.sinceOf)) := by
          have : sinC P8.sinceOf = sinC (fun i => if i = p then 0 else P.sinceOf i) := sinC_congr (fun i _ => by rw [F8.out.since i, G6.out.since RM.out i])
          rw [this]
          exact S9
        have FF : Hid ((frsR all).length ≤ 11 * (j + 1 + 1)) := hide (by have := hF.out; omega)
        have N8 : Hid (∀ i, i < 3 → (P8.f i).pb ≠ none → (P8.f i).num < 3) := hide (fun i hi hp => by
          obtain ⟨f1, f2, _⟩ := F8.out.frames i hi
          rw [f1] at hp
          rw [f2]
          exact got_nums G6.out hN.out HP3.out i hi hp)
        have O10 := hide ((O8.out.less (X := fun k => k < w0.heap.size) (fun k hk => .inl hk)).trans O9.out)
        clear KG hc8 zfz S9
        generalize w8.setCell ⟨gs, p, none⟩ (.int .u64 0) = w9 at *
        have hdt := po_dirty T9.out
        go_wp2_with (go_at_call 26; ((with_reducible refine hdt.mono ?_); rintro e wd ⟨db, rfl, hdb, hbl, hbd⟩; have BD := hide hbd; have DB := hide hbl; have SD := hide (S10.out.below hbd); have TD := hide (T9.out.below hbd); clear hbl hbd hdt))
        go_loopw [81] (fun u wz => ∃ i : Nat, i ≤ 3 ∧ u = .int .i64 i ∧ wd = wz) (fun u _ => 3 - (intOf u).toNat)
        case atStart => exact ⟨0, by omega, rfl, rfl⟩
        case round =>
          obtain ⟨i, hi, rfl, rfl⟩ := hrel
          by_cases hi3 : i < 3
          · have hi3' : (i : Int) < 3 := by omega
            have c1 := DB.out.cell i _ (sinces_get (P8) hi3)
            have c2 := SD.out.cell i _ (sinC_get _ hi3)
            generalize Po.sinceOf (P8) i = sv at *
            go_wp2
            go_roundw
            case rel => exact ⟨i + 1, by omega, by go_num, by trivial⟩
            case measure => simp [intOf]; omega
          · obtain rfl : i = 3 := by omega
            go_wp2
            go_roundw
            case rel => exact ⟨j + 1, _, k + 310 + 310, _, _, _, all, by omega, by go_num, by have := HK.out; omega, TD, FF, N8, SD, hide (hO.out.trans (O10.out.trans (Out.of_below BD.out)))⟩
            case measure => simp [intOf]; omega
    · obtain rfl : j = cs.length := by omega
      go_wp2
      go_ret
      exact ⟨rfl, B0.out.trans ((B1.out.trans ((hO.out.below B1.out.size (fun k hk => hk)).mono (Nat.le_refl _))).mono B0.out.size)⟩
end Go.Proofs.Ytkdcnddagebjpaa
