/-
  LaneRuns' walk: its pieces, the walk.
-/
import Derived.Test.YtlmoiepbnnfebaaLrH
namespace Go.Proofs.Ytlmoiepbnnfebaa
open Go.RowKit
set_option maxRecDepth 20000
set_option linter.unusedSimpArgs false
set_option linter.unusedVariables false

/-- What 'light' promises. -/
def Few (b : Bool) (cs : List DeedD) : Prop := b = true → cs.length ≤ 60
def LightP (cs : List DeedD) (e : Ending) : Prop := ∃ b, e = .returned (.bool b) ∧ Few b cs
set_option maxHeartbeats 4000000 in
theorem light_any (v : Value) (cs : List DeedD) (wi w : World) (hv : DeedRow wi wi.heap.size v cs) (hb0 : Below wi.heap.size wi w) : Calls Try.prog 13 #[v] w fun e w' => LightP cs e ∧ Below w.heap.size w w' := by
  obtain ⟨A, c, rfl, _, _⟩ := id hv
  have HV := hide hv
  have HB := hide hb0
  clear hv hb0
  by_cases h60 : 60 < cs.length
  · have h60' : (60 : Int) < (cs.length : Int) := by omega
    go_enter Try.func13, Try.ntmps13
    go_wp2
    go_ret
    exact ⟨⟨false, rfl, (fun e => by cases e)⟩, Below.refl _ _⟩
  have h60' : ¬ (60 : Int) < (cs.length : Int) := by omega
  have hcs : cs.length ≤ 60 := by omega
  go_enter Try.func13, Try.ntmps13
  go_wp2
  go_loopw [10] (fun i wr => ∃ j : Nat, j ≤ cs.length ∧ i = .int .i64 j ∧ Below w.heap.size w wr) (fun i _ => cs.length - (intOf i).toNat)
  case atStart => exact ⟨0, by omega, rfl, Below.refl _ _⟩
  case round =>
    obtain ⟨j, hj, rfl, hb⟩ := hrel
    by_cases hlt : j < cs.length
    · obtain ⟨b, o, cap, he, A2, n, c2, hn, hrange, hrow, hu⟩ := deed_at HV.out (HB.out.trans (hb.mono HB.out.size)) hlt
      injection he with e1 e2 e3
      subst e1
      subst e3
      have HRG := hide hrange
      have XID := hide infoDeed
      have hj0 : (0 : Int) ≤ (j : Int) := by omega
      have hj1 : (j : Int) < (cs.length : Int) := by omega
      have HB5 := hide (hb.alloc hb.size (.cells #[.int .i64 cs[j].k, .int .i64 cs[j].n, .int .i64 cs[j].x.k, .int .i64 cs[j].x.t, .int .i64 cs[j].x.p, .int .i64 cs[j].x.s, .int .u8 (cs[j].x.b.toNat : Int), .int .u8 (cs[j].x.a.toNat : Int), .int .u8 (cs[j].x.i.toNat : Int), .slice A2 n c2, .int .u64 (cs[j].m : Int)] 39))
      clear hrange hrow hu hb hn
      by_cases h100 : 100 < n
      · have h100' : (100 : Int) < (n : Int) := by omega
        go_wp2_with ((with_reducible refine wpList_load_mid rfl 39 (.tmp 12) rfl b (o + j * 11) rfl [.int .i64 cs[j].k, .int .i64 cs[j].n, .int .i64 cs[j].x.k, .int .i64 cs[j].x.t, .int .i64 cs[j].x.p, .int .i64 cs[j].x.s, .int .u8 (cs[j].x.b.toNat : Int), .int .u8 (cs[j].x.a.toNat : Int), .int .u8 (cs[j].x.i.toNat : Int), .slice A2 n c2, .int .u64 (cs[j].m : Int)] _ ?_ Try.underlying39 ?_ ?_ ?_); exact HRG.out; rfl; exact XID.out)
        go_ret
        exact ⟨⟨false, rfl, (fun e => by cases e)⟩, HB5.out⟩
      · have h100' : ¬ (100 : Int) < (n : Int) := by omega
        go_wp2_with ((with_reducible refine wpList_load_mid rfl 39 (.tmp 12) rfl b (o + j * 11) rfl [.int .i64 cs[j].k, .int .i64 cs[j].n, .int .i64 cs[j].x.k, .int .i64 cs[j].x.t, .int .i64 cs[j].x.p, .int .i64 cs[j].x.s, .int .u8 (cs[j].x.b.toNat : Int), .int .u8 (cs[j].x.a.toNat : Int), .int .u8 (cs[j].x.i.toNat : Int), .slice A2 n c2, .int .u64 (cs[j].m : Int)] _ ?_ Try.underlying39 ?_ ?_ ?_); exact HRG.out; rfl; exact XID.out)
        go_roundw
        case rel => exact ⟨j + 1, by omega, by go_num, HB5.out⟩
        case measure => simp [intOf]; omega
    · obtain rfl : j = cs.length := by omega
      have HB5 := hide hb
      clear hb
      go_wp2
      go_ret
      exact ⟨⟨true, rfl, fun _ => hcs⟩, HB5.out⟩
set_option maxHeartbeats 8000000 in
theorem runs_walk (v : Value) (cs : List DeedD) (w : World) (hv : DeedRow w w.heap.size v cs) :
    Calls Try.prog 3 #[v] w fun e w' => e = .returned (.bool true) ∧ Below w.heap.size w w' := by
  obtain ⟨A0, N0, rfl, _, _⟩ := id hv
  have HV := hide hv
  have hfit := fit_any w
  have hsl := fun W => run_slice_one (P := Try.prog) W 34 33 #[.int .i64 1, .int .i64 0, .int .i64 0, .int .i64 0, .string ⟨#[]⟩, .string ⟨#[]⟩, .string ⟨#[]⟩, .slice none 0 0] #[.int .i64 0, .int .i64 0, .int .i64 0, .int .i64 0, .string ⟨#[]⟩, .string ⟨#[]⟩, .string ⟨#[]⟩, .slice none 0 0] 8 104 Try.underlying34 infoRec3 rfl (by omega) (by omega)
  clear hv
  go_enter Try.func3, Try.ntmps3
  go_upto_if 30 with (first
    | (go_at_call 12; ((with_reducible refine hfit.mono ?_); rintro e w0 ⟨rfl, hb0⟩; have B0 := hide hb0; have hlt := light_any _ cs w w0 HV.out hb0; clear hb0 hfit))
    | (go_at_call 13; ((with_reducible refine hlt.mono ?_); rintro e w1 ⟨⟨b, rfl, hfew⟩, hb1⟩; have FEW := hide hfew; have B1 := hide (B0.out.trans (hb1.mono B0.out.size)); have hnew := disk_new1 w1; clear hb1 hlt hfew)))
  cases b
  · go_wp2
    go_ret
    exact ⟨rfl, B1.out⟩
  · go_wp2_with (first
      | (go_at_call 14; ((with_reducible refine hnew.mono ?_); rintro e w2 ⟨dg, d, rfl, hm2, hd2, hdn, hb2⟩; have B2 := hide hb2; have hln := la_new0 hm2 hd2 hdn (by omega); clear hb2 hm2 hd2 hnew))
      | (go_at_call 15; ((with_reducible refine hln.mono ?_); rintro e w3 ⟨g, rfl, hv3, ho3⟩; have V3 := hide hv3; have O3 := hide ho3; clear hv3 ho3 hln)))
    have BK := hide (below_new w3 (.cells #[.int .i64 1, .int .i64 0, .int .i64 0, .int .i64 0, .string ⟨#[]⟩, .string ⟨#[]⟩, .string ⟨#[]⟩, .slice none 0 0] 33))
    have RK : RecsAt (w3.alloc (.cells #[.int .i64 1, .int .i64 0, .int .i64 0, .int .i64 0, .string ⟨#[]⟩, .string ⟨#[]⟩, .string ⟨#[]⟩, .slice none 0 0] 33)) (fun k => w3.heap.size ≤ k) (.slice (some ⟨w3.heap.size, 0, none⟩) 1 1) [checkR] := by
      refine ⟨_, _, rfl, Nat.le_refl _, fun _ => ⟨_, _, rfl, by simp, Nat.le_refl _, fun j q hj => ?_⟩⟩
      match j, hj with
      | 0, hj =>
        obtain rfl : checkR = q := by simpa using hj
        refine ⟨.slice none 0 0, ?_, rin_nil _ _ _ _⟩
        rw [Nat.zero_mul, Nat.zero_add]
        exact rangeAt_new w3 _ _
      | j + 1, hj => simp at hj
    have V4 := V3.out.more (Y := Ext (fun k => k < w1.heap.size) w3.heap.size (w3.heap.size + 1)) BK.out (fun k hk => hk.imp id (fun h => ⟨h.1, by simpa using h.2⟩))
    have R4 := RK.sub (Y := Ext (fun k => k < w1.heap.size) w3.heap.size (w3.heap.size + 1)) (fun k hk hx => .inr ⟨hx, by simpa using hk⟩)
    have hbel : Below w.heap.size w (w3.alloc (.cells #[.int .i64 1, .int .i64 0, .int .i64 0, .int .i64 0, .string ⟨#[]⟩, .string ⟨#[]⟩, .string ⟨#[]⟩, .slice none 0 0] 33)) := B1.out.trans ((B2.out.trans (((O3.out.below B2.out.size (fun k hk => hk)).trans (BK.out.mono (Nat.le_trans B2.out.size O3.out.size))).mono (Nat.le_refl _))).mono B1.out.size)
    have h0 : R0 w (w3.alloc (.cells #[.int .i64 1, .int .i64 0, .int .i64 0, .int .i64 0, .string ⟨#[]⟩, .string ⟨#[]⟩, .string ⟨#[]⟩, .slice none 0 0] 33)) (Ext (fun k => k < w1.heap.size) w3.heap.size (w3.heap.size + 1)) dg g 1 1 (.slice (some ⟨w3.heap.size, 0, none⟩) 1 1) [checkR] 1 :=
      ⟨V4.any.upto (by omega), by omega, by simp, R4, fun k hk => .inl (Nat.lt_of_lt_of_le hk B1.out.size), hbel⟩
    have h60 : cs.length ≤ 60 := FEW.out rfl
    clear RK V4 R4 hbel
    refine rn_loop HV.out h60 h0 ⟨rfl, rfl, rfl, rfl, rfl, rfl, rfl, rfl, rfl⟩ rfl ?_
    intro tm' w' hs hb
    clear h0 BK V3 O3 B2 B1 B0 HV FEW
    go_wp2
    go_ret
    exact ⟨by simp [Array.getD_eq_getD_getElem?, hs], hb⟩
end Go.Proofs.Ytlmoiepbnnfebaa
