/-
  LaneRuns' walk: its pieces, the deeds that flush, and that lay anew.
-/
import Derived.Test.YtlmoiepbnnfebaaLrD
namespace Go.Proofs.Ytlmoiepbnnfebaa
open Go.RowKit
set_option maxRecDepth 20000
set_option linter.unusedSimpArgs false
set_option linter.unusedVariables false

set_option maxHeartbeats 4000000 in
theorem sw_flush {wi w : World} {X : Nat → Prop} {dg gx bx q gen s : Nat} {allv ov : Value} {all : List Rc} {dk dnn d2 d3 d4 d5 d6 d7 d8 : Int} {dA : Option Addr} {dl dc M : Nat} (h : Rs wi w X dg gx bx q gen allv all s #[.int .i64 dk, .int .i64 dnn, .int .i64 d2, .int .i64 d3, .int .i64 d4, .int .i64 d5, .int .u8 d6, .int .u8 d7, .int .u8 d8, .slice dA dl dc, .int .u64 (M : Int)]) (hq : q ≤ 130)  {tm : Array Value} (hs : tm.size = 247) (f3 : tm[3]? = some (ptr dg)) (f4 : tm[4]? = some (ptr gx)) (f6 : tm[6]? = some (allv)) (f7 : tm[7]? = some (.int .i64 (s : Int))) (f8 : tm[8]? = some (ov)) (f9 : tm[9]? = some (.bool false)) (f10 : tm[10]? = some (.bool false)) (f12 : tm[12]? = some (ptr bx)) (f49 : tm[49]? = some (.int .i64 1)) {Q : Exit → Act → World → Prop}
    (hK : ∀ (tm' : Array Value) (w' : World) (X' : Nat → Prop) (gx' gen' : Nat) (allv' : Value) (all' : List Rc) (s' : Nat) (dn an : Bool) (ov' : Value) (other' : Option (List Rc)), Keeps SSW tm tm' → tm'[4]? = some (ptr gx') → tm'[6]? = some allv' → tm'[7]? = some (.int .i64 (s' : Int)) → tm'[8]? = some ov' → tm'[9]? = some (.bool dn) → tm'[10]? = some (.bool an) → Af wi w' X' dg gx' bx (q + 1) gen' allv' all' s' #[.int .i64 dk, .int .i64 dnn, .int .i64 d2, .int .i64 d3, .int .i64 d4, .int .i64 d5, .int .u8 d6, .int .u8 d7, .int .u8 d8, .slice dA dl dc, .int .u64 (M : Int)] dn an ov' other' → Q .normal ⟨tm', []⟩ w') :
    Code.wp Try.prog (subC (Try.f3.body.getD .skip) [1,1,1,1,1,1,1,1,0,1,0,0,1,1,0,0,1,0,1,0]) Q ⟨tm, []⟩ w := by
  conv => arg 2; whnf
  have hun : ∀ b : Bool, ¬ (undef = Value.bool b) := fun b => by simp [undef]
  have HK := hide hK
  clear hK
  have k3 := slot_at f3 (by omega)
  have k4 := slot_at f4 (by omega)
  have k6 := slot_at f6 (by omega)
  have k7 := slot_at f7 (by omega)
  have k8 := slot_at f8 (by omega)
  have k9 := slot_at f9 (by omega)
  have k10 := slot_at f10 (by omega)
  have k12 := slot_at f12 (by omega)
  have k49 := slot_at f49 (by omega)
  unfold ptr at k3 k4 k12
  clear f3 f4 f6 f7 f8 f9 f10 f12 f49
  obtain ⟨Aa, ca, rfl, hca⟩ := h.recs.form
  have hfl := la_flush h.live (by omega)
  unfold ptr at hfl
  have H := hide h
  obtain ⟨n, hn⟩ : ∃ n, all.length = n := ⟨_, rfl⟩
  rw [hn] at k6 H
  have HN := hide hn
  clear h hca hn
  have hcd1 : cd true = 0 := rfl
  have hcd2 : cd false = 10 := rfl
  go_upto_if 55 with fail
  refine wp_cond_false (by simp [Act.eval, hs, k3, k4, k6, k7, k8, k9, k10, k12, k49, ptr]) ?_
  go_upto_if 87 with fail
  refine wp_cond_true (by simp [Act.eval, hs, k3, k4, k6, k7, k8, k9, k10, k12, k49, ptr]) ?_
  go_upto_region 24 with (go_at_call 20; ((with_reducible refine hfl.mono ?_); rintro e w1 ⟨ok, rfl, _, hyes, hno, ho1⟩; have HY := hide hyes; have HNO := hide hno; have O1 := hide ho1; clear hyes hno ho1 hfl))
  cases ok
  · go_upto_if 92 with fail
    refine wp_cond_false (by simp [Act.eval, hs, k3, k4, k6, k7, k8, k9, k10, k12, k49, ptr, hcd1, hcd2]) ?_
    go_upto_if 96 with fail
    refine wp_cond_false (by simp [Act.eval, hs, k3, k4, k6, k7, k8, k9, k10, k12, k49, ptr, hcd1, hcd2]) ?_
    go_wp2
    exact HK.out _ _ X gx gen _ all s true false ov none (by repeat (first | (with_reducible exact Keeps.refl _ _) | ((with_reducible refine Keeps.put ?_ ?_ _); rfl))) (by simp [hs, k3, k4, k6, k7, k8, k9, k10, k12, k49, ptr]) (by simp [hs, k3, k4, k6, k7, k8, k9, k10, k12, k49, ptr]) (by simp [hs, k3, k4, k6, k7, k8, k9, k10, k12, k49, ptr]) (by simp [hs, k3, k4, k6, k7, k8, k9, k10, k12, k49, ptr]) (by simp [hs, k3, k4, k6, k7, k8, k9, k10, k12, k49, ptr]) (by simp [hs, k3, k4, k6, k7, k8, k9, k10, k12, k49, ptr]) (H.out.fell O1.out (by first | exact HNO.out rfl | exact HNO.out trivial) (by omega) (fun e => by cases e) (fun _ => rfl))
  · go_upto_if 92 with fail
    refine wp_cond_true (by simp [Act.eval, hs, k3, k4, k6, k7, k8, k9, k10, k12, k49, ptr, hcd1, hcd2]) ?_
    have hl : Live w1 X dg gx 0 538 (3000 * q + 301) gen false all all.length := by first | exact HY.out rfl | exact HY.out trivial
    rw [HN.out] at hl
    have hg := H.out.gens
    have hfw := H.out.few
    go_wp2
    exact HK.out _ _ X gx gen _ all n false false ov none (by repeat (first | (with_reducible exact Keeps.refl _ _) | ((with_reducible refine Keeps.put ?_ ?_ _); rfl))) (by simp [hs, k3, k4, k6, k7, k8, k9, k10, k12, k49, ptr]) (by simp [hs, k3, k4, k6, k7, k8, k9, k10, k12, k49, ptr]) (by simp [hs, k3, k4, k6, k7, k8, k9, k10, k12, k49, ptr]) (by simp [hs, k3, k4, k6, k7, k8, k9, k10, k12, k49, ptr]) (by simp [hs, k3, k4, k6, k7, k8, k9, k10, k12, k49, ptr]) (by simp [hs, k3, k4, k6, k7, k8, k9, k10, k12, k49, ptr]) ((H.out.step O1.out (fun _ h => h) hl (by omega) (by omega) (by omega) (H.out.recs.out O1.out)).af ov)
set_option maxHeartbeats 4000000 in
theorem sw_anew {wi w : World} {X : Nat → Prop} {dg gx bx q gen s : Nat} {allv ov : Value} {all : List Rc} {dk dnn d2 d3 d4 d5 d6 d7 d8 : Int} {dA : Option Addr} {dl dc M : Nat} (h : Rs wi w X dg gx bx q gen allv all s #[.int .i64 dk, .int .i64 dnn, .int .i64 d2, .int .i64 d3, .int .i64 d4, .int .i64 d5, .int .u8 d6, .int .u8 d7, .int .u8 d8, .slice dA dl dc, .int .u64 (M : Int)]) (hq : q ≤ 130)  {tm : Array Value} (hs : tm.size = 247) (f3 : tm[3]? = some (ptr dg)) (f4 : tm[4]? = some (ptr gx)) (f6 : tm[6]? = some (allv)) (f7 : tm[7]? = some (.int .i64 (s : Int))) (f8 : tm[8]? = some (ov)) (f9 : tm[9]? = some (.bool false)) (f10 : tm[10]? = some (.bool false)) (f12 : tm[12]? = some (ptr bx)) (f49 : tm[49]? = some (.int .i64 2)) {Q : Exit → Act → World → Prop}
    (hK : ∀ (tm' : Array Value) (w' : World) (X' : Nat → Prop) (gx' gen' : Nat) (allv' : Value) (all' : List Rc) (s' : Nat) (dn an : Bool) (ov' : Value) (other' : Option (List Rc)), Keeps SSW tm tm' → tm'[4]? = some (ptr gx') → tm'[6]? = some allv' → tm'[7]? = some (.int .i64 (s' : Int)) → tm'[8]? = some ov' → tm'[9]? = some (.bool dn) → tm'[10]? = some (.bool an) → Af wi w' X' dg gx' bx (q + 1) gen' allv' all' s' #[.int .i64 dk, .int .i64 dnn, .int .i64 d2, .int .i64 d3, .int .i64 d4, .int .i64 d5, .int .u8 d6, .int .u8 d7, .int .u8 d8, .slice dA dl dc, .int .u64 (M : Int)] dn an ov' other' → Q .normal ⟨tm', []⟩ w') :
    Code.wp Try.prog (subC (Try.f3.body.getD .skip) [1,1,1,1,1,1,1,1,0,1,0,0,1,1,0,0,1,0,1,0]) Q ⟨tm, []⟩ w := by
  conv => arg 2; whnf
  have hun : ∀ b : Bool, ¬ (undef = Value.bool b) := fun b => by simp [undef]
  have HK := hide hK
  clear hK
  have k3 := slot_at f3 (by omega)
  have k4 := slot_at f4 (by omega)
  have k6 := slot_at f6 (by omega)
  have k7 := slot_at f7 (by omega)
  have k8 := slot_at f8 (by omega)
  have k9 := slot_at f9 (by omega)
  have k10 := slot_at f10 (by omega)
  have k12 := slot_at f12 (by omega)
  have k49 := slot_at f49 (by omega)
  unfold ptr at k3 k4 k12
  clear f3 f4 f6 f7 f8 f9 f10 f12 f49
  obtain ⟨Aa, ca, rfl, hca⟩ := h.recs.form
  have hrecs := h.recs
  have c1 := h.box.cell 1 _ rfl
  have hlen := h.live.len
  obtain ⟨m, hm, hand⟩ := and7r dnn
  obtain ⟨n, hn⟩ : ∃ n, all.length = n := ⟨_, rfl⟩
  rw [hn] at k6 hrecs hca
  have hfew := h.few
  rw [hn] at hfew
  obtain ⟨t, ht⟩ : ∃ t, min m n = t := ⟨_, rfl⟩
  have htn : t ≤ n := by omega
  have ht8 : t ≤ 7 := by omega
  have hcut := fun W => run_highR Aa n ca (n - t) (by omega) hca W
  rw [show ((n - t : Nat) : Int) = (n : Int) - (t : Int) by omega] at hcut
  have hhigh := hrecs.high (k := n - t) (by omega)
  rw [show n - (n - t) = t by omega] at hcut hhigh
  obtain ⟨As, hAs⟩ : ∃ As, hiR Aa ca (n - t) = As := ⟨_, rfl⟩
  obtain ⟨cs, hcs⟩ : ∃ cs, ca - (n - t) = cs := ⟨_, rfl⟩
  rw [hAs, hcs] at hcut hhigh
  obtain ⟨some_, hsome⟩ : ∃ r, all.drop (n - t) = r := ⟨_, rfl⟩
  rw [hsome] at hhigh
  have hsl : some_.length = t := by rw [← hsome, List.length_drop]; omega
  have hsub : ∀ r ∈ some_, r.Ok := fun r hr => h.live.ok r (List.mem_of_mem_drop (by rw [hsome]; exact hr))
  have hsfr : (frsR some_).length ≤ 14336 := by
    have e : frsR all = frsR (all.take (n - t)) ++ frsR (all.drop (n - t)) := by rw [← frsR_append, List.take_append_drop]
    rw [hsome] at e
    have := congrArg List.length e
    rw [List.length_append] at this
    omega
  have hg := h.gens
  have han := la_anew h.live (by omega) (by omega) (by omega) hhigh hsub hsfr
  unfold ptr at han
  have H := hide h
  rw [hn] at H
  have HS := hide hhigh
  have HSL := hide hsl
  have hn2 : (n : Int) ≤ 1000 := by omega
  have htn2 : (t : Int) ≤ (n : Int) := by omega
  have hmin : min (m : Int) (n : Int) = (t : Int) := by omega
  have HMIN := hide hmin
  clear h hrecs hhigh hsub hsfr hlen hn hAs hcs hsome ht hmin hsl
  have hcd1 : cd true = 0 := rfl
  have hcd2 : cd false = 10 := rfl
  go_upto_if 55 with fail
  refine wp_cond_false (by simp [Act.eval, hs, k3, k4, k6, k7, k8, k9, k10, k12, k49, ptr]) ?_
  go_upto_if 87 with fail
  refine wp_cond_false (by simp [Act.eval, hs, k3, k4, k6, k7, k8, k9, k10, k12, k49, ptr]) ?_
  go_upto_if 97 with fail
  refine wp_cond_true (by simp [Act.eval, hs, k3, k4, k6, k7, k8, k9, k10, k12, k49, ptr]) ?_
  go_upto_if 113 with (first
    | ((with_reducible refine wpList_min (.tmp 104) (.tmp 106) (m : Int) (n : Int) 3 rfl rfl ?_ ?_ (by omega) (by omega) ?_); simp [Act.eval, hs, k3, k4, k6, k7, k8, k9, k10, k12, k49, ptr]; simp [Act.eval, hs, k3, k4, k6, k7, k8, k9, k10, k12, k49, ptr]; intro T hT; have eT : T = t := (by have := HMIN.out; omega); clear hT; subst eT)
    | (go_at_call 21; ((with_reducible refine han.mono ?_); rintro e w1 ⟨ok, rfl, _, hyes, hno, ho1⟩; have HY := hide hyes; have HNO := hide hno; have O1 := hide ho1; clear hyes hno ho1 han c1 hcut)))
  cases ok
  · refine wp_cond_false (by simp [Act.eval, hs, k3, k4, k6, k7, k8, k9, k10, k12, k49, ptr, hcd1, hcd2]) ?_
    go_upto_if 119 with fail
    refine wp_cond_true (by simp [Act.eval, hs, k3, k4, k6, k7, k8, k9, k10, k12, k49, ptr, hcd1, hcd2]) ?_
    have hb : Brok w1 X dg gx 0 538 (3000 * q + 700) gen all s (some some_) := by first | exact HNO.out rfl | exact HNO.out trivial
    go_wp2
    exact HK.out _ _ X gx gen _ all s true true (.slice As T cs) (some some_) (by repeat (first | (with_reducible exact Keeps.refl _ _) | ((with_reducible refine Keeps.put ?_ ?_ _); rfl))) (by simp [hs, k3, k4, k6, k7, k8, k9, k10, k12, k49, ptr]) (by simp [hs, k3, k4, k6, k7, k8, k9, k10, k12, k49, ptr]) (by simp [hs, k3, k4, k6, k7, k8, k9, k10, k12, k49, ptr]) (by simp [hs, k3, k4, k6, k7, k8, k9, k10, k12, k49, ptr]) (by simp [hs, k3, k4, k6, k7, k8, k9, k10, k12, k49, ptr]) (by simp [hs, k3, k4, k6, k7, k8, k9, k10, k12, k49, ptr]) (H.out.fell O1.out hb (by omega) (fun _ => ⟨some_, rfl, by rw [HSL.out]; omega, HS.out.out O1.out⟩) (fun e => by cases e))
  · refine wp_cond_true (by simp [Act.eval, hs, k3, k4, k6, k7, k8, k9, k10, k12, k49, ptr, hcd1, hcd2]) ?_
    have hl : Live w1 X dg gx 0 538 (3000 * q + 700) (gen + 1) false some_ some_.length := by first | exact HY.out rfl | exact HY.out trivial
    rw [HSL.out] at hl
    have hxl := H.out.xlt
    obtain ⟨v5, w5, hrun, hrec, hb5⟩ := run_nil_recs (HS.out.out O1.out) (by omega) (fun k hk => Nat.lt_of_lt_of_le (hxl k hk) O1.out.size)
    have R5 := hide (hrec.sub (Y := Ext X w1.heap.size w5.heap.size) (fun k hk hx => hx.imp id (fun h => ⟨h, hk⟩)))
    have V5 := hide (hl.more hb5 (Y := Ext X w1.heap.size w5.heap.size) (fun _ hk => hk))
    have O5 := hide (O1.out.trans (Out.of_below hb5))
    have hgn := H.out.gens
    clear hrec hb5 hl hxl
    go_wp2_with (at_builtin; refine wpList_run (by first | rfl | simp [Region.wanted, yielded]) (.const (.slice none 0 0)) (.tmp 115) 34 rfl rfl (by simp [Act.eval, hs, k3, k4, k6, k7, k8, k9, k10, k12, k49, ptr]) hrun ?_)
    exact HK.out _ _ _ gx (gen + 1) v5 some_ T false false ov none (by repeat (first | (with_reducible exact Keeps.refl _ _) | ((with_reducible refine Keeps.put ?_ ?_ _); rfl))) (by simp [hs, k3, k4, k6, k7, k8, k9, k10, k12, k49, ptr]) (by simp [hs, k3, k4, k6, k7, k8, k9, k10, k12, k49, ptr]) (by simp [hs, k3, k4, k6, k7, k8, k9, k10, k12, k49, ptr]) (by simp [hs, k3, k4, k6, k7, k8, k9, k10, k12, k49, ptr]) (by simp [hs, k3, k4, k6, k7, k8, k9, k10, k12, k49, ptr]) (by simp [hs, k3, k4, k6, k7, k8, k9, k10, k12, k49, ptr]) ((H.out.step O5.out (fun k hk => .inl hk) V5.out (by omega) (by omega) (by rw [HSL.out]; omega) R5.out).af ov)
end Go.Proofs.Ytlmoiepbnnfebaa
