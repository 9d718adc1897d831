/-
  LaneRuns' walk: its pieces, the deeds that arm, and that crash.
-/
import Derived.Test.YtlmoiepbnnfebaaLrC
namespace Go.Proofs.Ytlmoiepbnnfebaa
open Go.RowKit
set_option maxRecDepth 20000
set_option linter.unusedSimpArgs false
set_option linter.unusedVariables false

theorem rs_arm {wi w : World} {X : Nat → Prop} {dg gx bx q gen s : Nat} {allv : Value} {all : List Rc} {DC : Array Value} (h : Rs wi w X dg gx bx q gen allv all s DC) (z : Int) (hz : z < 9223372036854775808) : Calls Try.prog 25 #[.pointer (some ⟨dg, 0, none⟩), .int .i64 0, .int .i64 z] w fun e w' => e = .returned (.tuple #[]) ∧ Live w' X dg gx 0 538 (3000 * q) gen false all s ∧ Out X w w' := la_arm (r := 0) h.live z hz
theorem and63r (x : Int) : ∃ m : Nat, m < 64 ∧ bits .and .i64 x 63 = (m : Int) := and_low x 6 (by omega)
theorem and7r (x : Int) : ∃ m : Nat, m < 8 ∧ bits .and .i64 x 7 = (m : Int) := and_low x 3 (by omega)
set_option maxHeartbeats 4000000 in
theorem sw_arm {wi w : World} {X : Nat → Prop} {dg gx bx q gen s : Nat} {allv ov : Value} {all : List Rc} {dk dnn d2 d3 d4 d5 d6 d7 d8 : Int} {dA : Option Addr} {dl dc M : Nat} (h : Rs wi w X dg gx bx q gen allv all s #[.int .i64 dk, .int .i64 dnn, .int .i64 d2, .int .i64 d3, .int .i64 d4, .int .i64 d5, .int .u8 d6, .int .u8 d7, .int .u8 d8, .slice dA dl dc, .int .u64 (M : Int)]) (hq : q ≤ 130)  {tm : Array Value} (hs : tm.size = 247) (f3 : tm[3]? = some (ptr dg)) (f4 : tm[4]? = some (ptr gx)) (f6 : tm[6]? = some (allv)) (f7 : tm[7]? = some (.int .i64 (s : Int))) (f8 : tm[8]? = some (ov)) (f9 : tm[9]? = some (.bool false)) (f10 : tm[10]? = some (.bool false)) (f12 : tm[12]? = some (ptr bx)) (f49 : tm[49]? = some (.int .i64 4)) {Q : Exit → Act → World → Prop}
    (hK : ∀ (tm' : Array Value) (w' : World) (X' : Nat → Prop) (gx' gen' : Nat) (allv' : Value) (all' : List Rc) (s' : Nat) (dn an : Bool) (ov' : Value) (other' : Option (List Rc)), Keeps SSW tm tm' → tm'[4]? = some (ptr gx') → tm'[6]? = some allv' → tm'[7]? = some (.int .i64 (s' : Int)) → tm'[8]? = some ov' → tm'[9]? = some (.bool dn) → tm'[10]? = some (.bool an) → Af wi w' X' dg gx' bx (q + 1) gen' allv' all' s' #[.int .i64 dk, .int .i64 dnn, .int .i64 d2, .int .i64 d3, .int .i64 d4, .int .i64 d5, .int .u8 d6, .int .u8 d7, .int .u8 d8, .slice dA dl dc, .int .u64 (M : Int)] dn an ov' other' → Q .normal ⟨tm', []⟩ w') :
    Code.wp Try.prog (subC (Try.f3.body.getD .skip) [1,1,1,1,1,1,1,1,0,1,0,0,1,1,0,0,1,0,1,0]) Q ⟨tm, []⟩ w := by
  conv => arg 2; whnf
  have hun : ∀ b : Bool, ¬ (undef = Value.bool b) := fun b => by simp [undef]
  have HK := hide hK
  clear hK
  have k3 := slot_at f3 (by omega)
  have k4 := slot_at f4 (by omega)
  have k6 := slot_at f6 (by omega)
  have k7 := slot_at f7 (by omega)
  have k8 := slot_at f8 (by omega)
  have k9 := slot_at f9 (by omega)
  have k10 := slot_at f10 (by omega)
  have k12 := slot_at f12 (by omega)
  have k49 := slot_at f49 (by omega)
  unfold ptr at k3 k4 k12
  clear f3 f4 f6 f7 f8 f9 f10 f12 f49
  obtain ⟨m, hm, hand⟩ := and63r dnn
  have c1 := h.box.cell 1 _ rfl
  have harm := rs_arm h (m : Int) (by omega)
  have H := hide h
  clear h
  go_upto_if 55 with fail
  refine wp_cond_false (by simp [Act.eval, hs, k3, k4, k6, k7, k8, k9, k10, k12, k49, ptr]) ?_
  go_upto_if 87 with fail
  refine wp_cond_false (by simp [Act.eval, hs, k3, k4, k6, k7, k8, k9, k10, k12, k49, ptr]) ?_
  go_upto_if 97 with fail
  refine wp_cond_false (by simp [Act.eval, hs, k3, k4, k6, k7, k8, k9, k10, k12, k49, ptr]) ?_
  go_upto_if 122 with fail
  refine wp_cond_false (by simp [Act.eval, hs, k3, k4, k6, k7, k8, k9, k10, k12, k49, ptr]) ?_
  go_wp2_with (go_at_call 25; ((with_reducible refine harm.mono ?_); rintro e w1 ⟨rfl, hv1, ho1⟩; have V1 := hide hv1; have O1 := hide ho1; clear hv1 ho1 harm c1))
  exact HK.out _ _ X gx gen allv all s false false ov none (by repeat (first | (with_reducible exact Keeps.refl _ _) | ((with_reducible refine Keeps.put ?_ ?_ _); rfl))) (by simp [hs, k3, k4, k6, k7, k8, k9, k10, k12, k49, ptr]) (by simp [hs, k3, k4, k6, k7, k8, k9, k10, k12, k49, ptr]) (by simp [hs, k3, k4, k6, k7, k8, k9, k10, k12, k49, ptr]) (by simp [hs, k3, k4, k6, k7, k8, k9, k10, k12, k49, ptr]) (by simp [hs, k3, k4, k6, k7, k8, k9, k10, k12, k49, ptr]) (by simp [hs, k3, k4, k6, k7, k8, k9, k10, k12, k49, ptr]) ((H.out.step O1.out (fun _ h => h) V1.out (by omega) (by have := H.out.gens; omega) (by have := H.out.few; omega) (H.out.recs.out O1.out)).af ov)
theorem rn_40 {w : World} {tm : Array Value} (hs : tm.size = 247) (f20 : tm[20]? = some (.int .i64 0)) {Q : Exit → Act → World → Prop}
    (hK : ∀ tm' : Array Value, Keeps SK4 tm tm' → Q .normal ⟨tm', []⟩ w) :
    Code.wp Try.prog (subC (Try.f3.body.getD .skip) [1,1,1,1,1,1,1,1,0,1,0,0,1,1,0,0,1,0,1,0,1,1,1,1,1,1,1,0,1,1,0]) Q ⟨tm, []⟩ w := by
  conv => arg 2; whnf
  have HK := hide hK
  clear hK
  have k20 := slot_at f20 (by omega)
  clear f20
  go_upto_if 135 with fail
  refine wp_cond_false (by simp [Act.eval, hs, k20]) ?_
  go_wp2
  exact HK.out _ (by repeat (first | (with_reducible exact Keeps.refl _ _) | ((with_reducible refine Keeps.put ?_ ?_ _); rfl)))
set_option maxHeartbeats 4000000 in
theorem sw_crash {wi w : World} {X : Nat → Prop} {dg gx bx q gen s : Nat} {allv ov : Value} {all : List Rc} {dk dnn d2 d3 d4 d5 d6 d7 d8 : Int} {dA : Option Addr} {dl dc M : Nat} (h : Rs wi w X dg gx bx q gen allv all s #[.int .i64 dk, .int .i64 dnn, .int .i64 d2, .int .i64 d3, .int .i64 d4, .int .i64 d5, .int .u8 d6, .int .u8 d7, .int .u8 d8, .slice dA dl dc, .int .u64 (M : Int)]) (hq : q ≤ 130)  {tm : Array Value} (hs : tm.size = 247) (f3 : tm[3]? = some (ptr dg)) (f4 : tm[4]? = some (ptr gx)) (f6 : tm[6]? = some (allv)) (f7 : tm[7]? = some (.int .i64 (s : Int))) (f8 : tm[8]? = some (ov)) (f9 : tm[9]? = some (.bool false)) (f10 : tm[10]? = some (.bool false)) (f12 : tm[12]? = some (ptr bx)) (f49 : tm[49]? = some (.int .i64 3)) {Q : Exit → Act → World → Prop}
    (hK : ∀ (tm' : Array Value) (w' : World) (X' : Nat → Prop) (gx' gen' : Nat) (allv' : Value) (all' : List Rc) (s' : Nat) (dn an : Bool) (ov' : Value) (other' : Option (List Rc)), Keeps SSW tm tm' → tm'[4]? = some (ptr gx') → tm'[6]? = some allv' → tm'[7]? = some (.int .i64 (s' : Int)) → tm'[8]? = some ov' → tm'[9]? = some (.bool dn) → tm'[10]? = some (.bool an) → Af wi w' X' dg gx' bx (q + 1) gen' allv' all' s' #[.int .i64 dk, .int .i64 dnn, .int .i64 d2, .int .i64 d3, .int .i64 d4, .int .i64 d5, .int .u8 d6, .int .u8 d7, .int .u8 d8, .slice dA dl dc, .int .u64 (M : Int)] dn an ov' other' → Q .normal ⟨tm', []⟩ w') :
    Code.wp Try.prog (subC (Try.f3.body.getD .skip) [1,1,1,1,1,1,1,1,0,1,0,0,1,1,0,0,1,0,1,0]) Q ⟨tm, []⟩ w := by
  conv => arg 2; whnf
  have hun : ∀ b : Bool, ¬ (undef = Value.bool b) := fun b => by simp [undef]
  have HK := hide hK
  clear hK
  have k3 := slot_at f3 (by omega)
  have k4 := slot_at f4 (by omega)
  have k6 := slot_at f6 (by omega)
  have k7 := slot_at f7 (by omega)
  have k8 := slot_at f8 (by omega)
  have k9 := slot_at f9 (by omega)
  have k10 := slot_at f10 (by omega)
  have k12 := slot_at f12 (by omega)
  have k49 := slot_at f49 (by omega)
  unfold ptr at k3 k4 k12
  obtain ⟨Aa, ca, rfl, hca⟩ := h.recs.form
  have c10 := h.box.cell 10 _ rfl
  have H := hide h
  clear h
  go_upto_if 55 with fail
  refine wp_cond_false (by simp [Act.eval, hs, k3, k4, k6, k7, k8, k9, k10, k12, k49, ptr]) ?_
  go_upto_if 87 with fail
  refine wp_cond_false (by simp [Act.eval, hs, k3, k4, k6, k7, k8, k9, k10, k12, k49, ptr]) ?_
  go_upto_if 97 with fail
  refine wp_cond_false (by simp [Act.eval, hs, k3, k4, k6, k7, k8, k9, k10, k12, k49, ptr]) ?_
  go_upto_if 122 with fail
  refine wp_cond_true (by simp [Act.eval, hs, k3, k4, k6, k7, k8, k9, k10, k12, k49, ptr]) ?_
  generalize htm0 : Array.setIfInBounds _ _ _ = tm0
  have hkp0 : Keeps SK1 tm tm0 := by rw [← htm0]; repeat (first | (with_reducible exact Keeps.refl _ _) | ((with_reducible refine Keeps.put ?_ ?_ _); rfl))
  clear htm0
  refine wp_seq ?_
  refine rn_38 (P := fun w' => ∃ Y, (∀ k, X k → Y k) ∧ Crd w' Y dg 0 538 (3000 * q) gen (all.take s) s none ∧ Out X w w') ((la_crash H.out.live (by omega) M).mono (fun e w' hh => ⟨hh.1, by obtain ⟨_, Y, h1, h2, _, h3⟩ := hh; exact ⟨Y, h1, h2, h3⟩⟩)) c10 (hkp0.1.trans hs) (hkp0.get rfl f3) (hkp0.get rfl f12) ?_
  rintro tm1 w1 hkp1 ⟨Y, hXY, hc1, ho1⟩
  refine wp_seq ?_
  refine rn_39 (P := fun gy gv w3 => ∃ (E : Nat → Prop) (got : List Rc) (gen' : Nat), ((gen' = gen ∧ ∃ j, s ≤ j ∧ j ≤ (all.take s).length ∧ got = (all.take s).take j) ∨ (gen' = gen + 1 ∧ none = some got)) ∧ Live w3 (fun k => Y k ∨ E k) dg gy 0 538 (3000 * q + 700) gen' true got got.length ∧ EntsAt w3 E gv gen' got ∧ Out Y w1 w3) ((la_open0 hc1 (by omega)).mono (fun e w' hh => by obtain ⟨g, v, E, got, gen', h1, h2, h3, h4, _, h5⟩ := hh; exact ⟨g, v, h1, E, got, gen', h2, h3, h4, h5⟩)) (hkp1.1.trans (hkp0.1.trans hs)) (hkp1.get rfl (hkp0.get rfl f3)) ?_
  rintro tm3 w3 gy gv hkp3 g18 g19 g20 ⟨E, got, gen', hw, hv3, he3, ho3⟩
  have hkp3 := (hkp0.trans (hkp1.more sk0_sk1)).trans (hkp3.more sk0_sk1)
  have O3 := hide (ho1.trans (ho3.less hXY))
  have hsl := H.out.live.sle
  obtain ⟨rfl, hgot, hgl⟩ : gen' = gen ∧ got = all.take s ∧ got.length = s := by
    rcases hw with ⟨e1, j, h1, h2, h3⟩ | ⟨_, h1⟩
    · have hl : (all.take s).length = s := by rw [List.length_take]; omega
      obtain rfl : j = s := by omega
      rw [List.take_of_length_le (by omega)] at h3
      exact ⟨e1, h3, by rw [h3, hl]⟩
    · cases h1
  obtain ⟨AE, cE, evE, _⟩ := he3.1.form
  rw [hgl] at evE
  subst evE
  have hR3 := H.out.recs.out O3.out
  have hst := starts_any he3 hR3 hv3.ok (by have := H.out.few; omega)
  rw [hgot, starts_take all s hsl] at hst
  have hfewA := H.out.few
  have hgens := H.out.gens
  refine wp_seq ?_
  refine rn_40 (hkp3.1.trans hs) g20 ?_
  intro tm4 hkp4
  have hkp5 := hkp3.trans (hkp4.more sk4_sk1)
  refine rn_3w hst (Nat.le_refl s) (Nat.le_trans hsl hca) (by omega) (hkp5.1.trans hs) (hkp4.get rfl g18) (hkp4.get rfl g19) (hkp5.get rfl f6) (hkp5.get rfl f7) ?_
  intro tm' w' hkp q4 q6 q7 q9 q10 hb
  have hl := hv3.below hb
  rw [hgl, hgot] at hl
  exact HK.out tm' w' (fun k => Y k ∨ E k) gy gen' _ (all.take s) s false false _ none ((hkp5.more sk1_ssw).trans hkp) q4 q6 q7 (Array.getElem?_eq_getElem (show 8 < tm'.size by rw [hkp.1, hkp5.1, hs]; decide)) q9 q10 ((H.out.step (O3.out.trans (Out.of_below hb)) (fun k hk => .inl (hXY k hk)) hl.any (by omega) (by omega) (by rw [List.length_take]; omega) (((hR3.below hb).low hsl).sub (fun k _ hk => .inl (hXY k hk)))).af _)
end Go.Proofs.Ytlmoiepbnnfebaa
