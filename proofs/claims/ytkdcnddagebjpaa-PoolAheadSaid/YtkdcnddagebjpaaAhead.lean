/-
  PoolAhead's walk.
-/
import Derived.Test.YtkdcnddagebjpaaCallIn
namespace Go.Proofs.Ytkdcnddagebjpaa
open Go.RowKit
set_option maxRecDepth 20000
set_option linter.unusedSimpArgs false
set_option linter.unusedVariables false

section
variable {w w' : World} {X Y : Nat → Prop} {dg : Nat} {d : Ds} {g q r k gen s : Nat} {all : List Rc} {P : Po} {D : Nat → Pg} {x : Option Nat} {B : List Sec}
theorem PoolT.sub (h : PoolT w X dg d g q r k gen all s P D x) (hY : ∀ k, Y k → X k) : PoolT w Y dg d g q r k gen all s P D x := h.more (Below.refl _ _) (fun k hk => .inl (hY k hk))
theorem LaneP.below (h : LaneP w X dg d g r k gen all s B) (hb : Below w.heap.size w w') : LaneP w' X dg d g r k gen all s B := by
  obtain ⟨l, kv, gr, h1, h2⟩ := h
  exact ⟨l, kv, gr, h1.below hb, h2⟩
/-- An End appended to a lane alone. -/
theorem lane_end (h : LaneP w X dg d g r k gen all s B) (hl : (frsR all).length + 11 ≤ 14336) :
    Calls Try.prog 13 #[.pointer (some ⟨g, 0, none⟩), .agg #[.int .i64 6, .int .i64 0, .int .i64 0, .int .i64 0, .string ⟨#[]⟩, .string ⟨#[]⟩, .string ⟨#[]⟩, .slice none 0 0]] w fun e w' => e = .returned (.tuple #[.int .u64 (lim gen all : Int), .int .i64 0]) ∧ (∃ s', LaneP w' X dg d g r k gen (all ++ [endR]) s' B) ∧ Out X w w' := by
  obtain ⟨l, kv, gr, h1, h2, h3, h4, h5, h6, h7, h8⟩ := h
  have hlr : (frsR all).length + endR.frame.length ≤ 14336 := by rw [endR_frame]; exact hl
  have hc : frCode [endR] (14336 - l.len) = 0 := fr_code (fun x hx => by rw [List.mem_singleton] at hx; subst hx; exact endR_ok) (by rw [frsR_one, h3.len]; omega)
  refine (append_ln (r := endR) (A2 := none) (c2 := 0) h1 h3.lf (Rd.nil_ _ _ _) endR_ok.u hc).mono ?_
  rintro e w' ⟨_, hy⟩
  obtain ⟨rfl, kv', hln, ho⟩ := hy rfl
  rw [h3.len, h6]
  exact ⟨rfl, ⟨s, _, kv', gr, hln, h2, h3.append endR_ok hlr, h4, h5, h6, h7, h8⟩, ho⟩
/-- A page as the disk has it, beside a lane. -/
theorem lane_kept (h : LaneP w X dg d g 0 k gen all s B) {n hi : Nat} (hn : n < 6) (hD : DecP (pgB B n 4) 0 n (D n) 0 ∧ (D n).mark < hi) :
    Calls Try.prog 18 #[.pointer (some ⟨dg, 0, none⟩), .int .i64 (n : Int)] w fun e w' => ∃ y : Pg, e = .returned (.tuple #[y.val, .bool true]) ∧ y.val = (D n).val ∧ y.mark < hi ∧ Below w.heap.size w w' := by
  obtain ⟨l, kv, gr, h1, h2, h3, h4, h5, h6, h7, h8⟩ := h
  refine (kept_any (h1.many.more (Below.refl _ _) (fun k hk => .inl hk)) h2 (by omega) n hn).mono ?_
  rw [h3.secs, pgB_behind h8]
  rintro e w' ⟨y, e', rfl, hy, hb⟩
  rcases id hy with ⟨rfl, _⟩ | ⟨rfl, _, hno⟩
  · have hv := DecP.same (by omega) (by omega) hy hD.1
    exact ⟨y, rfl, hv, by rw [(pg_of_val hv).1]; exact hD.2, hb⟩
  · obtain ⟨g1, g2, g3, g4, _⟩ := DecP.good (by omega) (by omega) hD.1
    exact absurd g4 (hno (D n) g1 g2 g3)
theorem PoolT.crash_open (h : PoolT w X dg d g q 0 k gen all s P D x) (hk : k ≤ 300000) (mask : Nat) :
    Calls Try.prog 16 #[.pointer (some ⟨dg, 0, none⟩), .int .u64 (mask : Int)] w fun e w' => e = .returned (.tuple #[]) ∧ Out X w w' ∧ ∃ B, (∀ m, m < 6 → DecP (pgB B m 4) 0 m (D m) 0 ∧ (D m).mark < lim gen (all.take s)) ∧
      Calls Try.prog 17 #[.pointer (some ⟨dg, 0, none⟩), .int .i64 0] w' fun e w2 => ∃ (g : Nat) (v : Value) (d' : Ds), e = .returned (.tuple #[.pointer (some ⟨g, 0, none⟩), v, .int .i64 0]) ∧ LaneP w2 X dg d' g 0 (k + 700) gen (all.take s) s B ∧ Out X w' w2 := by
  have hin := h.in_
  refine (h.crashed (by omega) mask).mono ?_
  rintro e w' ⟨rfl, d', ho, hdn, hm, gr, bank, hd, hup, hc, hD⟩
  have hsl : (all.take s).length = s := by rw [List.length_take]; omega
  refine ⟨rfl, ho, gr.base, hD, (open_lane (r := 0) (s := s) hm (by omega) hd (by omega) hdn hup (fun c hc => hin.2.2.2.1 c (List.mem_of_mem_take hc)) (by omega) hc).mono ?_⟩
  rintro e w2 ⟨g, v, E, j, d2, rfl, hj1, hj2, _, hl, ho2⟩
  obtain rfl : j = s := by omega
  rw [List.take_take, Nat.min_self] at hl
  exact ⟨g, v, d2, rfl, hl, ho2⟩
end
theorem infoCall : (Try.prog.info? 36).map (·.size) = some 6 := by kernel_rfl
set_option maxHeartbeats 8000000 in
theorem ahead_walk (v : Value) (cs : List CallD) (mask : Int) (w : World) (hv : CallRow w w.heap.size v cs) (hmk : (Lit.int .u64 mask).wf = true) :
    Calls Try.prog 3 #[v, .int .u64 mask] w fun e w' => e = .returned (.bool true) ∧ Below w.heap.size w w' := by
  obtain ⟨Av, cv, ev, _⟩ := id hv
  subst ev
  obtain ⟨M, rfl, _⟩ := wf_u64 hmk
  have HV := hide hv
  have hfit := fit_any w
  clear hv hmk
  by_cases h60 : 60 < cs.length
  · have h60' : (60 : Int) < (cs.length : Int) := by omega
    go_enter Try.func3, Try.ntmps3
    go_wp2_with (go_at_call 8; ((with_reducible refine hfit.mono ?_); rintro e w0 ⟨rfl, hb0⟩; have B0 := hide hb0; clear hb0 hfit))
    go_ret
    exact ⟨rfl, B0.out⟩
  have h60' : ¬ (60 : Int) < (cs.length : Int) := by omega
  go_enter Try.func3, Try.ntmps3
  go_wp2_with (first
    | (go_at_call 8; ((with_reducible refine hfit.mono ?_); rintro e w0 ⟨rfl, hb0⟩; have B0 := hide hb0; have hnew := disk_new1 w0; clear hb0 hfit))
    | (go_at_call 9; ((with_reducible refine hnew.mono ?_); rintro e w1 ⟨dg, d, rfl, hm1, hd1, hdn, hb1⟩; have B1 := hide hb1; have hln := new_lane0 hm1 hd1 hdn (by omega); clear hb1 hm1 hd1 hdn hnew))
    | (go_at_call 10; ((with_reducible refine hln.mono ?_); rintro e w2 ⟨g, d2, rfl, _, hv2, ho2⟩; have O2 := hide ho2; have hpn := new_pool0 hv2; clear hv2 ho2 hln))
    | (go_at_call 11; ((with_reducible refine hpn.mono ?_); rintro e w3 ⟨q, rfl, hp3, hb3⟩; have O3 := hide (O2.out.trans (Out.of_below hb3)); have P3 := hide hp3; clear hp3 hb3 hpn)))
  have hl0 := frs_check
  go_loopw [40] (fun i wr => ∃ (j s k : Nat) (dj : Ds) (P : Po) (D : Nat → Pg) (all : List Rc), j ≤ cs.length ∧ i = .int .i64 j ∧ k ≤ 700 + 700 * j ∧ Hid (PoolT wr (fun k => k < w0.heap.size) dg dj g q 0 k 1 all s P D none) ∧ Hid ((frsR all).length ≤ 11 * (j + 1)) ∧ Hid (Out (fun k => k < w0.heap.size) w1 wr)) (fun i _ => cs.length - (intOf i).toNat)
  case atStart => exact ⟨0, 1, 700, d2, _, _, [checkR], by omega, rfl, by omega, P3, hide (by omega), O3⟩
  case round =>
    obtain ⟨j, s, k, dj, P, D, all, hj, rfl, hk, hP, hF, hO⟩ := hrel
    by_cases hlt : j < cs.length
    · have hbw : Below w.heap.size w wr := B0.out.trans ((B1.out.trans ((hO.out.below B1.out.size (fun k hk => hk)).mono (Nat.le_refl _))).mono B0.out.size)
      obtain ⟨b, o, cap, he, hrange⟩ := call_at HV.out hbw hlt
      injection he with e1 e2 e3
      subst e1
      subst e3
      have HRG := hide hrange
      have XI := hide infoCall
      have hj1 : (j : Int) < (cs.length : Int) := by omega
      obtain ⟨p, hp6, hpm, hp3, hp4⟩ := mod_page cs[j].p
      obtain ⟨z, hz, hand⟩ := and_low cs[j].s 2 (by omega)
      have hand' : bits .and .i64 cs[j].s 3 = (z : Int) := hand
      have hz4 : z < 6 := by have : (2 : Nat) ^ 2 = 4 := rfl; omega
      have hb5 := (Below.refl wr.heap.size wr).alloc (Nat.le_refl _) (.cells #[.int .i64 cs[j].k, .int .i64 cs[j].p, .int .i64 cs[j].s, .int .i64 cs[j].t, .string cs[j].key, .string cs[j].val] 36)
      have HBX := hide (Blk.new_ wr #[.int .i64 cs[j].k, .int .i64 cs[j].p, .int .i64 cs[j].s, .int .i64 cs[j].t, .string cs[j].key, .string cs[j].val] 36 rfl)
      have hP5 := hP.out.more (Y := fun k => k < w0.heap.size ∨ k = wr.heap.size) hb5 (by rintro k (h1 | rfl); exact .inl h1; exact .inr ⟨Nat.le_refl _, by simp⟩)
      have hgt := po_get hP5 (by omega) hp6
      have O5 := hide (show Out (fun k => k < w0.heap.size) wr _ from Out.of_below hb5)
      have HP6 := hide hp6
      have HZ := hide hz4
      have HK := hide hk
      have c1 := HBX.out.cell 1 _ rfl
      clear hrange hP5 hb5 hbw hand hP hz
      go_wp2_with (first
        | ((with_reducible refine wpList_load_mid rfl 36 (.tmp 43) rfl b (o + j * 6) rfl [.int .i64 cs[j].k, .int .i64 cs[j].p, .int .i64 cs[j].s, .int .i64 cs[j].t, .string cs[j].key, .string cs[j].val] _ ?_ Try.underlying36 ?_ ?_ ?_); exact HRG.out; rfl; exact XI.out)
        | (go_at_call 12; ((with_reducible refine hgt.mono ?_); rintro e w6 ⟨bp, zp, P6, D6, s6, d6, rfl, hz6, hb6, hn6, _, _, hp6', ho6⟩; have O6 := hide ho6; have B6 := hide hb6; have N6 := hide hn6; have hap := po_upd hp6' HP6.out (by have := hF.out; omega); have HL6 := hide (lim_lt (gen := 1) (by omega) hp6'.in_.2.2.1); clear hb6 hn6 hp6' ho6 hgt))
        | (go_at_call 13; ((with_reducible refine hap.mono ?_); rintro e w7 ⟨rfl, hp7, ho7⟩; have O7 := hide (O6.out.trans ho7); have htc := po_touch hp7 hz6 B6.out N6.out (.inl rfl) (lim_pos 1 all) (lim_app 1 all _) HL6.out; clear hp7 ho7 hap))
        | (go_at_call 14; ((with_reducible refine htc.mono ?_); rintro e w8 ⟨rfl, hp8, ho8⟩; have O8 := hide (O7.out.trans ho8); have T8 := hide hp8; have hfl := po_flush hp8 (by have := HK.out; omega) HZ.out; have c2 := (O8.out.blk HBX.out (.inr rfl)).cell 2 _ rfl; clear hp8 ho8 htc))
        | (go_at_call 15; ((with_reducible refine hfl.mono ?_); rintro e w9 ⟨P9, D9, s9, d9, rfl, _, _, hp9, ho9⟩; have O9 := hide (O8.out.trans ho9); have T9 := hide hp9; clear hp9 ho9 hfl)))
      all_goals first
        | exact ⟨⟨j + 1, _, k + 310 + 310, _, _, _, all ++ [updR p], by omega, by go_num, by have := HK.out; omega, hide (T9.out.sub (fun k hk => .inl hk)), hide (by rw [frs_upd]; have := hF.out; omega), hide (hO.out.trans (O5.out.trans (O9.out.less (fun k hk => .inl hk))))⟩, by simp [intOf]; omega⟩
        | exact ⟨⟨j + 1, _, k + 310, _, _, _, all ++ [updR p], by omega, by go_num, by have := HK.out; omega, hide (T8.out.sub (fun k hk => .inl hk)), hide (by rw [frs_upd]; have := hF.out; omega), hide (hO.out.trans (O5.out.trans (O8.out.less (fun k hk => .inl hk))))⟩, by simp [intOf]; omega⟩
    · obtain rfl : j = cs.length := by omega
      have hcr := hP.out.crash_open (by omega) M
      have hft : (frsR (all.take s)).length + 11 ≤ 14336 := by have := (frsR_take all s).length_le; have := hF.out; omega
      have HFT := hide hft
      clear hft hk
      go_wp2_with (first
        | (go_at_call 16; ((with_reducible refine hcr.mono ?_); rintro e w4 ⟨rfl, ho4, B, hD, hop⟩; have O4 := hide (hO.out.trans ho4); have HD := hide hD; clear ho4 hD hcr))
        | (go_at_call 17; ((with_reducible refine hop.mono ?_); rintro e w5 ⟨g5, v5, d5, rfl, hl5, ho5⟩; have O5 := hide (O4.out.trans ho5); have hen := lane_end hl5 HFT.out; clear hl5 ho5 hop))
        | (go_at_call 13; ((with_reducible refine hen.mono ?_); rintro e w6 ⟨rfl, ⟨s6, hl6⟩, ho6⟩; have O6 := hide (O5.out.trans ho6); have L6 := hide hl6; clear hl6 ho6 hen)))
      generalize lim 1 (all.take s) = top at *
      go_loopw [99] (fun u wr2 => ∃ i : Nat, i ≤ 6 ∧ u = .int .i64 i ∧ Hid (Below w6.heap.size w6 wr2)) (fun u _ => 6 - (intOf u).toNat)
      case atStart => exact ⟨0, by omega, rfl, hide (Below.refl _ _)⟩
      case round =>
        obtain ⟨i, hi, rfl, hB⟩ := hrel
        by_cases hi6 : i < 6
        · have hi6' : (i : Int) < 6 := by omega
          have hkp := lane_kept (L6.out.below hB.out) hi6 (HD.out i hi6)
          unfold Pg.val Pg.cells at hkp
          go_wp2_with (go_at_call 18; ((with_reducible refine hkp.mono ?_); rintro e w7 ⟨y, rfl, hv, hlt7, hb7⟩; have hb8 := (Below.refl w7.heap.size w7).alloc (Nat.le_refl _) (.cells y.cells 53); have B8 := hide ((hB.out.trans (hb7.mono hB.out.size)).trans (hb8.mono (hB.out.trans (hb7.mono hB.out.size)).size)); have hmkc := PgB.markC (pgb_new w7 y); unfold Pg.cells at hmkc; have hlt8 : ¬ (top : Int) ≤ (y.mark : Int) := (by omega); clear hv hb7 hb8 hkp))
          go_roundw
          case rel => exact ⟨i + 1, by omega, by go_num, B8⟩
          case measure => simp [intOf]; omega
        · obtain rfl : i = 6 := by omega
          go_wp2
          go_ret
          exact ⟨rfl, B0.out.trans ((B1.out.trans (((O6.out.trans (Out.of_below hB.out)).below B1.out.size (fun k hk => hk)).mono (Nat.le_refl _))).mono B0.out.size)⟩
end Go.Proofs.Ytkdcnddagebjpaa
