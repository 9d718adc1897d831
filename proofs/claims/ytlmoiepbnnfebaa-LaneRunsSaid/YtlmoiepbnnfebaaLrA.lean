/-
  LaneRuns' walk: its pieces, the check.
-/
import Derived.Test.YtlmoiepbnnfebaaRl
import Derived.Test.YtlmoiepbnnfebaaPiece
import Derived.WalkKit
namespace Go.Proofs.Ytlmoiepbnnfebaa
open Go.RowKit
set_option maxRecDepth 20000
set_option linter.unusedSimpArgs false
set_option linter.unusedVariables false

def SCK (t : Nat) : Bool := decide (176 ≤ t) && decide (t ≤ 188)
def SDN (t : Nat) : Bool := t == 4 || t == 6 || t == 7 || t == 9 || t == 10 || (decide (22 ≤ t) && decide (t ≤ 25)) || (decide (189 ≤ t) && decide (t ≤ 245))
def SSW (t : Nat) : Bool := t == 4 || (decide (6 ≤ t) && decide (t ≤ 10)) || (decide (13 ≤ t) && decide (t ≤ 21)) || (decide (50 ≤ t) && decide (t ≤ 175))
def SD0 (t : Nat) : Bool := (decide (22 ≤ t) && decide (t ≤ 24)) || (decide (189 ≤ t) && decide (t ≤ 201))
def SK0 (t : Nat) : Bool := (decide (18 ≤ t) && decide (t ≤ 20)) || (decide (124 ≤ t) && decide (t ≤ 133))
def SK4 (t : Nat) : Bool := decide (134 ≤ t) && decide (t ≤ 135)
def SK1 (t : Nat) : Bool := (decide (13 ≤ t) && decide (t ≤ 21)) || (decide (50 ≤ t) && decide (t ≤ 175))
theorem sk1_ssw (t : Nat) (h : SSW t = false) : SK1 t = false := by
  simp only [SSW, SK1, Bool.or_eq_false_iff, Bool.and_eq_false_iff, decide_eq_false_iff_not, beq_eq_false_iff_ne] at h ⊢
  omega
theorem sk0_sk1 (t : Nat) (h : SK1 t = false) : SK0 t = false := by
  simp only [SK0, SK1, Bool.or_eq_false_iff, Bool.and_eq_false_iff, decide_eq_false_iff_not, beq_eq_false_iff_ne] at h ⊢
  omega
theorem sk4_sk1 (t : Nat) (h : SK1 t = false) : SK4 t = false := by
  simp only [SK4, SK1, Bool.or_eq_false_iff, Bool.and_eq_false_iff, decide_eq_false_iff_not, beq_eq_false_iff_ne] at h ⊢
  omega
theorem sd0_sdn (t : Nat) (h : SDN t = false) : SD0 t = false := by
  simp only [SDN, SD0, Bool.or_eq_false_iff, Bool.and_eq_false_iff, decide_eq_false_iff_not, beq_eq_false_iff_ne] at h ⊢
  omega
theorem sk0_ssw (t : Nat) (h : SSW t = false) : SK0 t = false := by
  simp only [SSW, SK0, Bool.or_eq_false_iff, Bool.and_eq_false_iff, decide_eq_false_iff_not, beq_eq_false_iff_ne] at h ⊢
  omega
theorem exec_lowR {o : Oper} {a : Act} {w : World} {x y z : Operand} {A : Option Addr} {n c : Nat} (k : Nat) (ho : o.op = .slice 34 x none (some y) (some z)) (hx : a.eval x = .slice A n c)
    (hy : a.eval y = .int .i64 (k : Int)) (hz : a.eval z = .int .i64 (k : Int)) (h1 : k ≤ c) :
    (execOp a.eval o).run Try.prog w = .ok (.value (.slice A k k)) w := by
  have hr := run_lowR A n c k h1 w
  unfold execOp
  simp only [ho, hx, hy, hz, Option.map_some, Option.map_none, Sem.run_bind, run_sliceAt_slice (P := Try.prog) (w := w) (h := sliceR), hr, Result.andThen_ok, Sem.run_pure]
set_option maxHeartbeats 2000000 in
theorem rn_ck {wi w : World} {X : Nat → Prop} {dg gx bx q gen s : Nat} {allv ov : Value} {all : List Rc} {DC : Array Value} {dn an : Bool} {other : Option (List Rc)} (h : Af wi w X dg gx bx q gen allv all s DC dn an ov other) (hq : q ≤ 130) {tm : Array Value} (hs : tm.size = 247) (f4 : tm[4]? = some (ptr gx)) (f6 : tm[6]? = some (allv)) {Q : Exit → Act → World → Prop}
    (hK : ∀ tm' w', Keeps SCK tm tm' → Below w.heap.size w w' → Q .normal ⟨tm', []⟩ w') :
    Code.wp Try.prog (subC (Try.f3.body.getD .skip) [1,1,1,1,1,1,1,1,0,1,0,0,1,1,0,0,1,1,0]) Q ⟨tm, []⟩ w := by
  conv => arg 2; whnf
  have k4 := slot_at f4 (by omega)
  have k6 := slot_at f6 (by omega)
  have hlen := af_len h
  obtain ⟨A, c, rfl, _⟩ := h.recs.form
  have hmost := h.most
  have H := hide h
  have hszA := fun (w' : World) (hb : Below w.heap.size w w') => af_size (h.below hb) hq
  have hrmA := fun (w' : World) (hb : Below w.heap.size w w') => af_room (h.below hb)
  obtain ⟨L, hL⟩ : ∃ L, (frsR all).length = L := ⟨_, rfl⟩
  rw [hL] at hlen hmost
  simp only [hL] at hszA hrmA
  obtain ⟨R, hR⟩ : ∃ R, 14336 - L = R := ⟨_, rfl⟩
  simp only [hR] at hrmA
  have hRL : ((R : Int) != 14336 - (L : Int)) = false := by rw [bne_eq_false_iff_eq]; omega
  have hL2 : (L : Int) ≤ 14336 := by omega
  unfold ptr at k4
  have HSA := hide hszA
  have HRA := hide hrmA
  clear f4 f6 h hL hR hszA hrmA
  go_upto_if 188 with (first
    | (go_at_call 26; ((with_reducible refine hlen.mono ?_); rintro e w1 ⟨rfl, hb1⟩; have B1 := hide hb1; have hsz1 := HSA.out w1 hb1; clear hb1 hlen))
    | (go_at_call 18; ((with_reducible refine hsz1.mono ?_); rintro e w2 ⟨rfl, hb2⟩; have B2 := hide (B1.out.trans (hb2.mono B1.out.size)); have hrm2 := HRA.out w2 B2.out; clear hb2 hsz1))
    | (go_at_call 27; ((with_reducible refine hrm2.mono ?_); rintro e w3 ⟨rfl, hb3⟩; have B3 := hide (B2.out.trans (hb3.mono B2.out.size)); have hsz3 := HSA.out w3 B3.out; clear hb3 hrm2))
    | (go_at_call 18; ((with_reducible refine hsz3.mono ?_); rintro e w4 ⟨rfl, hb4⟩; have B4 := hide (B3.out.trans (hb4.mono B3.out.size)); clear hb4 hsz3)))
  refine wp_cond_false (by simp [Act.eval, hs]) ?_
  go_wp2
  exact hK _ _ (by repeat (first | (with_reducible exact Keeps.refl _ _) | ((with_reducible refine Keeps.put ?_ ?_ _); rfl))) B4.out
end Go.Proofs.Ytlmoiepbnnfebaa
