/-
  LaneRuns' walk: its pieces, a round.
-/
import Derived.Test.YtlmoiepbnnfebaaLrF
namespace Go.Proofs.Ytlmoiepbnnfebaa
open Go.RowKit
set_option maxRecDepth 20000
set_option linter.unusedSimpArgs false
set_option linter.unusedVariables false

theorem sw_all {wi w : World} {X : Nat → Prop} {dg gx bx q gen s : Nat} {allv ov : Value} {all : List Rc} {dk dnn : Int} {x : SeedD} {A2 : Option Addr} {n2 c2 M : Nat} {r : Rc} (h : Rs wi w X dg gx bx q gen allv all s #[.int .i64 dk, .int .i64 dnn, .int .i64 x.k, .int .i64 x.t, .int .i64 x.p, .int .i64 x.s, .int .u8 (x.b.toNat : Int), .int .u8 (x.a.toNat : Int), .int .u8 (x.i.toNat : Int), .slice A2 n2 c2, .int .u64 (M : Int)]) (hq : q ≤ 130) (hn2 : x.ds.length = n2) (hr : seedR x = r) (hro : r.Ok) (hrow : Rd w (.slice A2 n2 c2) (u64s x.ds)) {K : Int} (hK0 : 0 ≤ K) (hK5 : K < 5) {tm : Array Value} (hs : tm.size = 247) (f3 : tm[3]? = some (ptr dg)) (f4 : tm[4]? = some (ptr gx)) (f6 : tm[6]? = some (allv)) (f7 : tm[7]? = some (.int .i64 (s : Int))) (f8 : tm[8]? = some (ov)) (f9 : tm[9]? = some (.bool false)) (f10 : tm[10]? = some (.bool false)) (f12 : tm[12]? = some (ptr bx)) (f49 : tm[49]? = some (.int .i64 K)) {Q : Exit → Act → World → Prop}
    (hK : ∀ (tm' : Array Value) (w' : World) (X' : Nat → Prop) (gx' gen' : Nat) (allv' : Value) (all' : List Rc) (s' : Nat) (dn an : Bool) (ov' : Value) (other' : Option (List Rc)), Keeps SSW tm tm' → tm'[4]? = some (ptr gx') → tm'[6]? = some allv' → tm'[7]? = some (.int .i64 (s' : Int)) → tm'[8]? = some ov' → tm'[9]? = some (.bool dn) → tm'[10]? = some (.bool an) → Af wi w' X' dg gx' bx (q + 1) gen' allv' all' s' #[.int .i64 dk, .int .i64 dnn, .int .i64 x.k, .int .i64 x.t, .int .i64 x.p, .int .i64 x.s, .int .u8 (x.b.toNat : Int), .int .u8 (x.a.toNat : Int), .int .u8 (x.i.toNat : Int), .slice A2 n2 c2, .int .u64 (M : Int)] dn an ov' other' → Q .normal ⟨tm', []⟩ w') :
    Code.wp Try.prog (subC (Try.f3.body.getD .skip) [1,1,1,1,1,1,1,1,0,1,0,0,1,1,0,0,1,0,1,0]) Q ⟨tm, []⟩ w := by
  rcases (show K = 0 ∨ K = 1 ∨ K = 2 ∨ K = 3 ∨ K = 4 by omega) with rfl | rfl | rfl | rfl | rfl
  · by_cases hfit : (frsR all).length + r.frame.length ≤ 14336
    · exact sw_app_yes h hq hn2 hr hro hrow hfit hs f3 f4 f6 f7 f8 f9 f10 f12 f49 hK
    · exact sw_app_no h hq hn2 hr hro hrow (by omega) hs f3 f4 f6 f7 f8 f9 f10 f12 f49 hK
  · exact sw_flush h hq hs f3 f4 f6 f7 f8 f9 f10 f12 f49 hK
  · exact sw_anew h hq hs f3 f4 f6 f7 f8 f9 f10 f12 f49 hK
  · exact sw_crash h hq hs f3 f4 f6 f7 f8 f9 f10 f12 f49 hK
  · exact sw_arm h hq hs f3 f4 f6 f7 f8 f9 f10 f12 f49 hK
def S12 (t : Nat) : Bool := t == 12 || (decide (43 ≤ t) && decide (t ≤ 44))
def S13 (t : Nat) : Bool := decide (45 ≤ t) && decide (t ≤ 49)
def SBD (t : Nat) : Bool := t == 4 || (decide (6 ≤ t) && decide (t ≤ 10)) || (decide (12 ≤ t) && decide (t ≤ 25)) || (decide (43 ≤ t) && decide (t ≤ 245))
theorem sbd_s12 (t : Nat) (h : SBD t = false) : S12 t = false := by
  simp only [SBD, S12, Bool.or_eq_false_iff, Bool.and_eq_false_iff, decide_eq_false_iff_not, beq_eq_false_iff_ne] at h ⊢
  omega
theorem sbd_s13 (t : Nat) (h : SBD t = false) : S13 t = false := by
  simp only [SBD, S13, Bool.or_eq_false_iff, Bool.and_eq_false_iff, decide_eq_false_iff_not, beq_eq_false_iff_ne] at h ⊢
  omega
theorem sbd_ssw (t : Nat) (h : SBD t = false) : SSW t = false := by
  simp only [SBD, SSW, Bool.or_eq_false_iff, Bool.and_eq_false_iff, decide_eq_false_iff_not, beq_eq_false_iff_ne] at h ⊢
  omega
theorem sbd_sck (t : Nat) (h : SBD t = false) : SCK t = false := by
  simp only [SBD, SCK, Bool.or_eq_false_iff, Bool.and_eq_false_iff, decide_eq_false_iff_not, beq_eq_false_iff_ne] at h ⊢
  omega
theorem sbd_sdn (t : Nat) (h : SBD t = false) : SDN t = false := by
  simp only [SBD, SDN, Bool.or_eq_false_iff, Bool.and_eq_false_iff, decide_eq_false_iff_not, beq_eq_false_iff_ne] at h ⊢
  omega
theorem sbd_sd0 (t : Nat) (h : SBD t = false) : SD0 t = false := by
  simp only [SBD, SD0, Bool.or_eq_false_iff, Bool.and_eq_false_iff, decide_eq_false_iff_not, beq_eq_false_iff_ne] at h ⊢
  omega
theorem infoDeed : (Try.prog.info? 39).map (·.size) = some 11 := by kernel_rfl
/-- Between two rounds. -/
structure R0 (wi w : World) (X : Nat → Prop) (dg gx q gen : Nat) (allv : Value) (all : List Rc) (s : Nat) : Prop where
  live : Live w X dg gx 0 538 (3000 * q) gen false all s
  gens : gen ≤ q + 1
  few : all.length ≤ q + 8
  recs : RecsAt w X allv all
  base : ∀ k, k < wi.heap.size → X k
  bel : Below wi.heap.size wi w
theorem Rs.r0 {wi w : World} {X : Nat → Prop} {dg gx bx q gen s : Nat} {allv : Value} {all : List Rc} {DC : Array Value} (h : Rs wi w X dg gx bx q gen allv all s DC) : R0 wi w X dg gx q gen allv all s := ⟨h.live, h.gens, h.few, h.recs, h.base, h.bel⟩
theorem R0.more {wi w : World} {X : Nat → Prop} {dg gx q q' gen s : Nat} {allv : Value} {all : List Rc} (h : R0 wi w X dg gx q gen allv all s) (hq : q ≤ q') : R0 wi w X dg gx q' gen allv all s := ⟨h.live.upto (by omega), by have := h.gens; omega, by have := h.few; omega, h.recs, h.base, h.bel⟩
theorem R0.box {wi w : World} {X : Nat → Prop} {dg gx q gen s : Nat} {allv : Value} {all : List Rc} (h : R0 wi w X dg gx q gen allv all s) (DC : Array Value) : Rs wi (w.alloc (.cells DC 39)) (Ext X w.heap.size (w.heap.size + 1)) dg gx w.heap.size q gen allv all s DC := by
  have hb := below_new w (.cells DC 39)
  exact ⟨h.live.more hb (fun k hk => hk.imp id (fun h => ⟨h.1, by simpa using h.2⟩)), h.gens, h.few, (h.recs.below hb).sub (fun _ _ hk => .inl hk), Blk.new_ w _ _ rfl, .inr ⟨Nat.le_refl _, Nat.lt_succ_self _⟩, fun k hk => .inl (h.base k hk), h.bel.trans (hb.mono h.bel.size)⟩
set_option maxHeartbeats 2000000 in
theorem rn_12 {w : World} {b o N c j M n2 c2 : Nat} {dk dnn : Int} {x : SeedD} {A2 : Option Addr} (hrg : w.rangeAt b (o + j * 11) [.int .i64 dk, .int .i64 dnn, .int .i64 x.k, .int .i64 x.t, .int .i64 x.p, .int .i64 x.s, .int .u8 (x.b.toNat : Int), .int .u8 (x.a.toNat : Int), .int .u8 (x.i.toNat : Int), .slice A2 n2 c2, .int .u64 (M : Int)]) (hj : j < N) {tm : Array Value} (hs : tm.size = 247) (f39 : tm[39]? = some (.slice (some ⟨b, o, none⟩) N c)) (f41 : tm[41]? = some (.int .i64 (j : Int))) {Q : Exit → Act → World → Prop}
    (hK : ∀ tm' : Array Value, Keeps S12 tm tm' → tm'[12]? = some (ptr w.heap.size) → Q .normal ⟨tm', []⟩ (w.alloc (.cells #[.int .i64 dk, .int .i64 dnn, .int .i64 x.k, .int .i64 x.t, .int .i64 x.p, .int .i64 x.s, .int .u8 (x.b.toNat : Int), .int .u8 (x.a.toNat : Int), .int .u8 (x.i.toNat : Int), .slice A2 n2 c2, .int .u64 (M : Int)] 39))) :
    Code.wp Try.prog (subC (Try.f3.body.getD .skip) [1,1,1,1,1,1,1,1,0,1,0,0,1,1,0,0,0]) Q ⟨tm, []⟩ w := by
  conv => arg 2; whnf
  have HK := hide hK
  clear hK
  have k39 := slot_at f39 (by omega)
  have k41 := slot_at f41 (by omega)
  have HRG := hide hrg
  have XID := hide infoDeed
  have hj0 : (0 : Int) ≤ (j : Int) := by omega
  have hj1 : (j : Int) < (N : Int) := by omega
  clear f39 f41 hrg
  go_wp2_with ((with_reducible refine wpList_load_mid rfl 39 (.tmp 43) rfl b (o + j * 11) ?_ [.int .i64 dk, .int .i64 dnn, .int .i64 x.k, .int .i64 x.t, .int .i64 x.p, .int .i64 x.s, .int .u8 (x.b.toNat : Int), .int .u8 (x.a.toNat : Int), .int .u8 (x.i.toNat : Int), .slice A2 n2 c2, .int .u64 (M : Int)] _ ?_ Try.underlying39 ?_ ?_ ?_); simp [Act.eval, hs, k39, k41]; exact HRG.out; rfl; exact XID.out)
  exact HK.out _ (by repeat (first | (with_reducible exact Keeps.refl _ _) | ((with_reducible refine Keeps.put ?_ ?_ _); rfl))) (by simp [hs, ptr])
set_option maxHeartbeats 2000000 in
theorem rn_13 {w : World} {bx : Nat} {dk : Int} (hc : w.cell? ⟨bx, 0, none⟩ = some (.int .i64 dk)) {tm : Array Value} (hs : tm.size = 247) (f12 : tm[12]? = some (ptr bx)) {Q : Exit → Act → World → Prop}
    (hK : ∀ tm' : Array Value, Keeps S13 tm tm' → tm'[49]? = some (.int .i64 ((dk.tmod 5 + 5).tmod 5)) → Q .normal ⟨tm', []⟩ w) :
    Code.wp Try.prog (subC (Try.f3.body.getD .skip) [1,1,1,1,1,1,1,1,0,1,0,0,1,1,0,0,1,0,0]) Q ⟨tm, []⟩ w := by
  conv => arg 2; whnf
  have HK := hide hK
  clear hK
  have k12 := slot_at f12 (by omega)
  unfold ptr at k12
  have h1 : dk.tmod 5 < 5 := Int.tmod_lt_of_pos dk (by decide)
  have h2 : -5 < dk.tmod 5 := Int.lt_tmod_of_pos dk (by decide)
  clear f12
  go_wp2
  exact HK.out _ (by repeat (first | (with_reducible exact Keeps.refl _ _) | ((with_reducible refine Keeps.put ?_ ?_ _); rfl))) (by simp [hs]; generalize dk.tmod 5 = u at h1 h2 ⊢; rw [Int.tmod_eq_emod_of_nonneg (by omega)]; omega)
set_option maxHeartbeats 2000000 in
theorem rn_body {wi w : World} {X : Nat → Prop} {dg gx q gen s : Nat} {allv ov : Value} {all : List Rc} {dk dnn : Int} {x : SeedD} {A2 : Option Addr} {n2 c2 M b o N c j : Nat} {r : Rc} (h : R0 wi w X dg gx q gen allv all s) (hq : q ≤ 128) (hn2 : x.ds.length = n2) (hr : seedR x = r) (hro : r.Ok) (hrow : ∀ W, Below wi.heap.size wi W → Rd W (.slice A2 n2 c2) (u64s x.ds)) (hrg : w.rangeAt b (o + j * 11) [.int .i64 dk, .int .i64 dnn, .int .i64 x.k, .int .i64 x.t, .int .i64 x.p, .int .i64 x.s, .int .u8 (x.b.toNat : Int), .int .u8 (x.a.toNat : Int), .int .u8 (x.i.toNat : Int), .slice A2 n2 c2, .int .u64 (M : Int)]) (hj : j < N) {tm : Array Value} (hs : tm.size = 247) (f3 : tm[3]? = some (ptr dg)) (f4 : tm[4]? = some (ptr gx)) (f6 : tm[6]? = some (allv)) (f7 : tm[7]? = some (.int .i64 (s : Int))) (f8 : tm[8]? = some (ov)) (f9 : tm[9]? = some (.bool false)) (f10 : tm[10]? = some (.bool false)) (f39 : tm[39]? = some (.slice (some ⟨b, o, none⟩) N c)) (f41 : tm[41]? = some (.int .i64 (j : Int))) {Q : Exit → Act → World → Prop}
    (hK : ∀ (tm' : Array Value) (w' : World) (X' : Nat → Prop) (gx' gen' : Nat) (allv' : Value) (all' : List Rc) (s' : Nat) (ov' : Value), Keeps SBD tm tm' → tm'[4]? = some (ptr gx') → tm'[6]? = some allv' → tm'[7]? = some (.int .i64 (s' : Int)) → tm'[8]? = some ov' → tm'[9]? = some (.bool false) → tm'[10]? = some (.bool false) → R0 wi w' X' dg gx' (q + 2) gen' allv' all' s' → Q .normal ⟨tm', []⟩ w') :
    Code.wp Try.prog (subC (Try.f3.body.getD .skip) [1,1,1,1,1,1,1,1,0,1,0,0,1,1,0,0]) Q ⟨tm, []⟩ w := by
  refine wp_seq ?_
  refine rn_12 hrg hj hs f39 f41 ?_
  intro tm1 hkp1 g12
  have h1 := h.box #[.int .i64 dk, .int .i64 dnn, .int .i64 x.k, .int .i64 x.t, .int .i64 x.p, .int .i64 x.s, .int .u8 (x.b.toNat : Int), .int .u8 (x.a.toNat : Int), .int .u8 (x.i.toNat : Int), .slice A2 n2 c2, .int .u64 (M : Int)]
  have hs1 := hkp1.1.trans hs
  refine wp_seq ?_
  refine wp_seq ?_
  refine rn_13 (h1.box.cell 0 _ rfl) hs1 g12 ?_
  intro tm2 hkp2 g49
  have hs2 := hkp2.1.trans hs1
  have hk12 := (hkp1.more sbd_s12).trans (hkp2.more sbd_s13)
  have hk5 := (Int.tmod_nonneg 5 (show 0 ≤ dk.tmod 5 + 5 by have : -5 < dk.tmod 5 := Int.lt_tmod_of_pos dk (by decide); omega))
  refine wp_block ?_
  refine sw_all h1 (by omega) hn2 hr hro (hrow _ h1.bel) (K := (dk.tmod 5 + 5).tmod 5) hk5 (Int.tmod_lt_of_pos _ (by decide)) hs2 (hkp2.get rfl (hkp1.get rfl f3)) (hkp2.get rfl (hkp1.get rfl f4)) (hkp2.get rfl (hkp1.get rfl f6)) (hkp2.get rfl (hkp1.get rfl f7)) (hkp2.get rfl (hkp1.get rfl f8)) (hkp2.get rfl (hkp1.get rfl f9)) (hkp2.get rfl (hkp1.get rfl f10)) (hkp2.get rfl g12) g49 ?_
  intro tm3 w3 X3 gx3 gen3 allv3 all3 s3 dn an ov3 other3 hkp3 q4 q6 q7 q8 q9 q10 haf
  have hs3 := hkp3.1.trans hs2
  have hk13 := hk12.trans (hkp3.more sbd_ssw)
  refine wp_seq ?_
  refine rn_ck haf (by omega) hs3 q4 q6 ?_
  intro tm4 w4 hkp4 hb4
  have hs4 := hkp4.1.trans hs3
  have haf4 := haf.below hb4
  have hk14 := hk13.trans (hkp4.more sbd_sck)
  cases dn
  · refine rn_up hs4 (hkp4.get rfl q9) ?_
    intro tm5 hkp5
    obtain rfl : an = false := haf4.none_ rfl
    exact hK tm5 w4 X3 gx3 gen3 allv3 all3 s3 ov3 (hk14.trans (hkp5.more sbd_sd0)) (hkp5.get rfl (hkp4.get rfl q4)) (hkp5.get rfl (hkp4.get rfl q6)) (hkp5.get rfl (hkp4.get rfl q7)) (hkp5.get rfl (hkp4.get rfl q8)) (hkp5.get rfl (hkp4.get rfl q9)) (hkp5.get rfl (hkp4.get rfl q10)) (haf4.rs.r0.more (by omega))
  · refine rn_dn (dn := true) haf4 (by omega) hs4 (hkp4.get rfl (hkp3.get rfl (hkp2.get rfl (hkp1.get rfl f3)))) (hkp4.get rfl q4) (hkp4.get rfl q6) (hkp4.get rfl q7) (hkp4.get rfl q8) (hkp4.get rfl q9) (hkp4.get rfl q10) (hkp4.get rfl (hkp3.get rfl (hkp2.get rfl g12))) ?_
    intro tm5 w5 X5 gx5 gen5 allv5 all5 s5 hkp5 p4 p6 p7 p9 p10 hrs
    exact hK tm5 w5 X5 gx5 gen5 allv5 all5 s5 ov3 (hk14.trans (hkp5.more sbd_sdn)) p4 p6 p7 (hkp5.get rfl (hkp4.get rfl q8)) p9 p10 hrs.r0
end Go.Proofs.Ytlmoiepbnnfebaa
