/-
  LaneRuns' walk: its pieces, the loop.
-/
import Derived.Test.YtlmoiepbnnfebaaLrG
namespace Go.Proofs.Ytlmoiepbnnfebaa
open Go.RowKit
set_option maxRecDepth 20000
set_option linter.unusedSimpArgs false
set_option linter.unusedVariables false

def S11 (t : Nat) : Bool := t == 42
def S62 (t : Nat) : Bool := t == 41 || t == 246
theorem rn_11 {w : World} {j N : Nat} {tm : Array Value} (hs : tm.size = 247) (f40 : tm[40]? = some (.int .i64 (N : Int))) (f41 : tm[41]? = some (.int .i64 (j : Int)))  {Q : Exit → Act → World → Prop}
    (hK : ∀ tm' : Array Value, Keeps S11 tm tm' → tm'[42]? = some (.bool (decide (j < N))) → Q .normal ⟨tm', []⟩ w) :
    Code.wp Try.prog (subC (Try.f3.body.getD .skip) [1,1,1,1,1,1,1,1,0,1,0,0,0]) Q ⟨tm, []⟩ w := by
  conv => arg 2; whnf
  have HK := hide hK
  clear hK
  have k40 := slot_at f40 (by omega)
  have k41 := slot_at f41 (by omega)
  clear f40 f41
  go_wp2
  exact HK.out _ (by repeat (first | (with_reducible exact Keeps.refl _ _) | ((with_reducible refine Keeps.put ?_ ?_ _); rfl))) (by simp [hs])
theorem rn_62 {w : World} {j : Nat} {tm : Array Value} (hs : tm.size = 247) (f41 : tm[41]? = some (.int .i64 (j : Int))) (hj : j ≤ 1000) {Q : Exit → Act → World → Prop}
    (hK : ∀ tm' : Array Value, Keeps S62 tm tm' → tm'[41]? = some (.int .i64 ((j + 1 : Nat) : Int)) → Q .normal ⟨tm', []⟩ w) :
    Code.wp Try.prog (subC (Try.f3.body.getD .skip) [1,1,1,1,1,1,1,1,0,1,0,0,1,1,1]) Q ⟨tm, []⟩ w := by
  conv => arg 2; whnf
  have HK := hide hK
  clear hK
  have k41 := slot_at f41 (by omega)
  have hj2 : (j : Int) ≤ 1000 := by omega
  clear f41
  go_wp2
  exact HK.out _ (by repeat (first | (with_reducible exact Keeps.refl _ _) | ((with_reducible refine Keeps.put ?_ ?_ _); rfl))) (by simp [hs]; try omega)
set_option maxHeartbeats 4000000 in
theorem rn_loop {wi w : World} {X : Nat → Prop} {dg gx gen s N0 : Nat} {allv : Value} {all : List Rc} {A0 : Option Addr} {cs : List DeedD} (hv : DeedRow wi wi.heap.size (.slice A0 cs.length N0) cs) (h60 : cs.length ≤ 60) (h : R0 wi w X dg gx 1 gen allv all s)
    {tm : Array Value} (hF : tm.size = 247 ∧ tm[3]? = some (ptr dg) ∧ tm[4]? = some (ptr gx) ∧ tm[6]? = some allv ∧ tm[7]? = some (.int .i64 (s : Int)) ∧ tm[9]? = some (.bool false) ∧ tm[10]? = some (.bool false) ∧ tm[39]? = some (.slice A0 cs.length N0) ∧ tm[40]? = some (.int .i64 (cs.length : Int))) (f41 : tm[41]? = some (.int .i64 0)) {Q : Exit → Act → World → Prop}
    (hK : ∀ tm' w', tm'.size = 247 → Below wi.heap.size wi w' → Q (.exit 0) ⟨tm', []⟩ w') :
    Code.wp Try.prog (subC (Try.f3.body.getD .skip) [1,1,1,1,1,1,1,1,0,1,0]) Q ⟨tm, []⟩ w := by
  conv => arg 2; whnf
  refine wp_loop (fun a w' => ∃ (tm' : Array Value) (j gx gen s : Nat) (X : Nat → Prop) (allv : Value) (all : List Rc), a = ⟨tm', []⟩ ∧ j ≤ cs.length ∧ (tm'.size = 247 ∧ tm'[3]? = some (ptr dg) ∧ tm'[4]? = some (ptr gx) ∧ tm'[6]? = some allv ∧ tm'[7]? = some (.int .i64 (s : Int)) ∧ tm'[9]? = some (.bool false) ∧ tm'[10]? = some (.bool false) ∧ tm'[39]? = some (.slice A0 cs.length N0) ∧ tm'[40]? = some (.int .i64 (cs.length : Int))) ∧ tm'[41]? = some (.int .i64 (j : Int)) ∧ R0 wi w' X dg gx (1 + 2 * j) gen allv all s) (fun a _ => cs.length - (intOf (a.tmps.getD 41 undef)).toNat) ⟨_, 0, gx, gen, s, X, allv, all, rfl, by omega, hF, f41, h⟩ ?_
  clear hF f41 h
  rintro a w ⟨tm1, j, gx, gen, s, X, allv, all, rfl, hj, ⟨hs1, f3, f4, f6, f7, f9, f10, f39, f40⟩, f41, h⟩
  have hmu : intOf (tm1.getD 41 undef) = (j : Int) := by rw [slot_getD f41]; rfl
  refine wp_seq ?_
  refine rn_11 (j := j) (N := cs.length) hs1 f40 f41 ?_
  intro tm2 hkp2 f42
  have hs2 := hkp2.1.trans hs1
  refine wp_seq ?_
  by_cases hlt : j < cs.length
  · rw [decide_eq_true hlt] at f42
    refine wp_cond_true (by rw [Act.eval]; simp [slot_at f42 (by omega), hs2]) ?_
    refine wp_skip ?_
    obtain ⟨b, o, cap, he, A2, n, c2, hn, hrange, hrow, hu⟩ := deed_at hv h.bel hlt
    injection he with e1 e2 e3
    subst e1
    subst e3
    refine wp_seq ?_
    refine wp_block ?_
    have hroW : ∀ W, Below wi.heap.size wi W → Rd W (.slice A2 n c2) (u64s cs[j].x.ds) := fun W hb => (hrow W hb).more hb.size
    refine rn_body (ov := tm2[8]'(by omega)) h (by omega) hn rfl (seedR_ok _ hu) hroW hrange hlt hs2 (hkp2.get rfl f3) (hkp2.get rfl f4) (hkp2.get rfl f6) (hkp2.get rfl f7) (Array.getElem?_eq_getElem (by omega)) (hkp2.get rfl f9) (hkp2.get rfl f10) (hkp2.get rfl f39) (hkp2.get rfl f41) ?_
    intro tm3 w3 X3 gx3 gen3 allv3 all3 s3 ov3 hkp3 g4 g6 g7 g8 g9 g10 hr3
    have hs3 := hkp3.1.trans hs2
    refine rn_62 (j := j) hs3 (hkp3.get rfl (hkp2.get rfl f41)) (by omega) ?_
    intro tm4 hkp4 g41
    have hs4 := hkp4.1.trans hs3
    have g3 := hkp3.get rfl (hkp2.get rfl f3)
    have g39 := hkp3.get rfl (hkp2.get rfl f39)
    have g40 := hkp3.get rfl (hkp2.get rfl f40)
    refine ⟨⟨tm4, j + 1, gx3, gen3, s3, X3, allv3, all3, rfl, by omega, ⟨hs4, hkp4.get rfl g3, hkp4.get rfl g4, hkp4.get rfl g6, hkp4.get rfl g7, hkp4.get rfl g9, hkp4.get rfl g10, hkp4.get rfl g39, hkp4.get rfl g40⟩, g41, by rw [show 1 + 2 * (j + 1) = 1 + 2 * j + 2 by omega]; exact hr3⟩, ?_⟩
    dsimp only
    rw [hmu, slot_getD g41]
    show cs.length - (((j + 1 : Nat) : Int)).toNat < cs.length - ((j : Int)).toNat
    omega
  · rw [decide_eq_false hlt] at f42
    refine wp_cond_false (by rw [Act.eval]; simp [slot_at f42 (by omega), hs2]) ?_
    refine wp_exit ?_
    exact hK tm2 w hs2 h.bel
end Go.Proofs.Ytlmoiepbnnfebaa
