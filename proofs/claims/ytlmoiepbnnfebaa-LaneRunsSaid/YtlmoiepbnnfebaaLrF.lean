/-
  LaneRuns' walk: its pieces, the deed that appends.
-/
import Derived.Test.YtlmoiepbnnfebaaLrE
import Derived.BigQuiet
namespace Go.Proofs.Ytlmoiepbnnfebaa
open Go.RowKit
set_option maxRecDepth 20000
set_option linter.unusedSimpArgs false
set_option linter.unusedVariables false

/-- It is a slice of just this record. -/
def Say.rone (r : Rc) (A : Option Addr) (c : Nat) : Say := ⟨fun w v => ∃ g, v = .slice (some ⟨g, 0, none⟩) 1 1 ∧ Blk w g 33 #[.int .i64 (r.k : Int), .int .i64 (r.t : Int), .int .i64 (r.p : Int), .int .i64 (r.s : Int), .string r.b, .string r.a, .string r.i, .slice A r.ds.length c], fun _ _ _ ⟨g, e, h⟩ hb => ⟨g, e, h.below hb⟩⟩
/-- It is a slice of these records. -/
def Say.recs (Z : Nat → Prop) (rs : List Rc) : Say := ⟨fun w v => RecsAt w Z v rs, fun _ _ _ h hb => h.below hb⟩
theorem exec_append {o : Oper} {a : Act} {w w' : World} {s y : Operand} {t : TypeId} {v x v' : Value} (ho : o.op = .call { callee := .builtin .append, args := #[s, y], argTypes := #[t, t] }) (hs : a.eval s = v) (hy : a.eval y = x) (hrun : (Builtin.append_ #[t, t] o.type #[v, x]).run Try.prog w = .ok v' w') :
    (execOp a.eval o).run Try.prog w = .ok (.value v') w' := by
  simp [execOp, ho, resolve, invoke, builtin, hs, hy, hrun, Result.andThen]
theorem size_g {W w2 : World} {X : Nat → Prop} {v : Value} {rs : List Rc} {L : Nat} (h : RecsAt W X v rs) (hok : ∀ r ∈ rs, r.Ok) (hl : rs.length ≤ 10000) (hL : (frsR rs).length = L) (hb : Below W.heap.size W w2) :
    Calls Try.prog 18 #[v] w2 fun e w' => ∃ u, e = .returned u ∧ (Say.is (.int .i64 (L : Int))).p w' u ∧ Below w2.heap.size w2 w' := by
  refine (size_any (h.below hb) hok hl).mono ?_
  rintro e w' ⟨rfl, hb2⟩
  exact ⟨_, rfl, by rw [hL]; rfl, hb2⟩
theorem enc_g {W w2 : World} {X : Nat → Prop} {g c fl : Nat} {r : Rc} {A : Option Addr} (h : RBox W X g r A c) (ho : r.Ok) (hl : r.frame.length = fl) (hb : Below W.heap.size W w2) :
    Calls Try.prog 19 #[.agg #[.int .i64 (r.k : Int), .int .i64 (r.t : Int), .int .i64 (r.p : Int), .int .i64 (r.s : Int), .string r.b, .string r.a, .string r.i, .slice A r.ds.length c]] w2 fun e w' => ∃ u, e = .returned u ∧ (Say.rd fl r.frame).p w' u ∧ Below w2.heap.size w2 w' := by
  refine (enc_told r A c w2 ho (h.rd.below hb)).mono ?_
  rintro e w' ⟨A3, c3, rfl, hm, hb2⟩
  exact ⟨_, rfl, ⟨A3, c3, by rw [hl], by rw [← hl]; exact hm.rd⟩, hb2⟩
set_option maxHeartbeats 8000000 in
theorem sw_app_yes {wi w : World} {X : Nat → Prop} {dg gx bx q gen s : Nat} {allv ov : Value} {all : List Rc} {dk dnn : Int} {x : SeedD} {A2 : Option Addr} {n2 c2 M : Nat} {r : Rc} (h : Rs wi w X dg gx bx q gen allv all s #[.int .i64 dk, .int .i64 dnn, .int .i64 x.k, .int .i64 x.t, .int .i64 x.p, .int .i64 x.s, .int .u8 (x.b.toNat : Int), .int .u8 (x.a.toNat : Int), .int .u8 (x.i.toNat : Int), .slice A2 n2 c2, .int .u64 (M : Int)]) (hq : q ≤ 130) (hn2 : x.ds.length = n2) (hr : seedR x = r) (hro : r.Ok) (hrow : Rd w (.slice A2 n2 c2) (u64s x.ds)) (hfit : (frsR all).length + r.frame.length ≤ 14336) {tm : Array Value} (hs : tm.size = 247) (f3 : tm[3]? = some (ptr dg)) (f4 : tm[4]? = some (ptr gx)) (f6 : tm[6]? = some (allv)) (f7 : tm[7]? = some (.int .i64 (s : Int))) (f8 : tm[8]? = some (ov)) (f9 : tm[9]? = some (.bool false)) (f10 : tm[10]? = some (.bool false)) (f12 : tm[12]? = some (ptr bx)) (f49 : tm[49]? = some (.int .i64 0)) {Q : Exit → Act → World → Prop}
    (hK : ∀ (tm' : Array Value) (w' : World) (X' : Nat → Prop) (gx' gen' : Nat) (allv' : Value) (all' : List Rc) (s' : Nat) (dn an : Bool) (ov' : Value) (other' : Option (List Rc)), Keeps SSW tm tm' → tm'[4]? = some (ptr gx') → tm'[6]? = some allv' → tm'[7]? = some (.int .i64 (s' : Int)) → tm'[8]? = some ov' → tm'[9]? = some (.bool dn) → tm'[10]? = some (.bool an) → Af wi w' X' dg gx' bx (q + 1) gen' allv' all' s' #[.int .i64 dk, .int .i64 dnn, .int .i64 x.k, .int .i64 x.t, .int .i64 x.p, .int .i64 x.s, .int .u8 (x.b.toNat : Int), .int .u8 (x.a.toNat : Int), .int .u8 (x.i.toNat : Int), .slice A2 n2 c2, .int .u64 (M : Int)] dn an ov' other' → Q .normal ⟨tm', []⟩ w') :
    Code.wp Try.prog (subC (Try.f3.body.getD .skip) [1,1,1,1,1,1,1,1,0,1,0,0,1,1,0,0,1,0,1,0]) Q ⟨tm, []⟩ w := by
  conv => arg 2; whnf
  have hun : ∀ b : Bool, ¬ (undef = Value.bool b) := fun b => by simp [undef]
  have HK := hide hK
  clear hK
  have k3 := slot_at f3 (by omega)
  have k4 := slot_at f4 (by omega)
  have k6 := slot_at f6 (by omega)
  have k7 := slot_at f7 (by omega)
  have k8 := slot_at f8 (by omega)
  have k9 := slot_at f9 (by omega)
  have k10 := slot_at f10 (by omega)
  have k12 := slot_at f12 (by omega)
  have k49 := slot_at f49 (by omega)
  unfold ptr at k3 k4 k12
  clear f3 f4 f6 f7 f8 f9 f10 f12 f49
  obtain ⟨Aa, ca, rfl, hca⟩ := h.recs.form
  obtain ⟨n, hn⟩ : ∃ n, all.length = n := ⟨_, rfl⟩
  have H := hide h
  rw [hn] at k6 H hca
  have HN := hide hn
  have HRG := hide (show w.rangeAt bx 2 [.int .i64 x.k, .int .i64 x.t, .int .i64 x.p, .int .i64 x.s, .int .u8 (x.b.toNat : Int), .int .u8 (x.a.toNat : Int), .int .u8 (x.i.toNat : Int), .slice A2 n2 c2] from fun j u hu => by
    rw [show (2 + j) = 2 + j from rfl]
    refine h.box.cell (2 + j) u ?_
    match j, hu with
    | 0, hu | 1, hu | 2, hu | 3, hu | 4, hu | 5, hu | 6, hu | 7, hu => exact hu
    | j + 8, hu => simp at hu)
  have XIS := hide infoSeed
  have HN2 := hide hn2
  have HR := hide hr
  have HO := hide hro
  have HROW := hide hrow
  have hn3 : (n : Int) ≤ 1000 := by have := h.few; omega
  clear h hn hn2 hr hro hrow
  go_upto_if 55 with fail
  refine wp_cond_true (by simp [Act.eval, hs, k3, k4, k6, k7, k8, k9, k10, k12, k49, ptr]) ?_
  go_upto_region 17 with (first
    | ((with_reducible refine wpList_load_mid rfl 36 (.tmp 57) rfl bx 2 ?_ [.int .i64 x.k, .int .i64 x.t, .int .i64 x.p, .int .i64 x.s, .int .u8 (x.b.toNat : Int), .int .u8 (x.a.toNat : Int), .int .u8 (x.i.toNat : Int), .slice A2 n2 c2] _ ?_ Try.underlying36 ?_ ?_ ?_); simp [Act.eval, hs, k3, k4, k6, k7, k8, k9, k10, k12, k49, ptr]; exact HRG.out; rfl; exact XIS.out)
    | (go_at_call 16; ((with_reducible refine (seed_in x A2 n2 c2 _ HN2.out HR.out HROW.out).mono ?_); rintro e w6 ⟨A6, c6, rfl, R6, hb6⟩; have B6 := hide hb6; have R6H := hide R6; clear hb6 R6)))
  have P7 := hide (B6.out.alloc B6.out.size (.cells #[.int .i64 (r.k : Int), .int .i64 (r.t : Int), .int .i64 (r.p : Int), .int .i64 (r.s : Int), .string r.b, .string r.a, .string r.i, .slice A6 r.ds.length c6] 33))
  have H7 := hide (show Rs wi (w6.alloc (.cells #[.int .i64 (r.k : Int), .int .i64 (r.t : Int), .int .i64 (r.p : Int), .int .i64 (r.s : Int), .string r.b, .string r.a, .string r.i, .slice A6 r.ds.length c6] 33)) (Ext X w.heap.size (w6.heap.size + 1)) dg gx bx q gen (.slice Aa n ca) all s #[.int .i64 dk, .int .i64 dnn, .int .i64 x.k, .int .i64 x.t, .int .i64 x.p, .int .i64 x.s, .int .u8 (x.b.toNat : Int), .int .u8 (x.a.toNat : Int), .int .u8 (x.i.toNat : Int), .slice A2 n2 c2, .int .u64 (M : Int)] by have := H.out.ext P7.out; rwa [sz_alloc] at this)
  have RB := hide (RBox.new_ (X := X) (Nat.le_refl _) B6.out.size R6H.out)
  obtain ⟨X7, hX7⟩ : ∃ X7, Ext X w.heap.size (w6.heap.size + 1) = X7 := ⟨_, rfl⟩
  rw [hX7] at H7 RB
  clear hX7
  obtain ⟨L, hL⟩ : ∃ L, (frsR all).length = L := ⟨_, rfl⟩
  obtain ⟨fl, hfl⟩ : ∃ fl, r.frame.length = fl := ⟨_, rfl⟩
  obtain ⟨F, hF⟩ : ∃ F, L + fl = F := ⟨_, rfl⟩
  have hmost := H7.out.live.len
  have hfm := HO.out.most
  have hfit' := hfit
  rw [hL, hfl, hF] at hfit'
  rw [hL] at hmost
  rw [hfl] at hfm
  have hap := la_append H7.out.live HO.out RB.out.rd hfit
  unfold ptr at hap
  have HL := hide hL
  have HFL := hide hfl
  have HW := hide (show IntKind.i64.wrap ((L : Int) + (fl : Int)) = (F : Int) by rw [IntKind.wrap_i64]; omega)
  have HLE := hide (show decide ((F : Int) ≤ 14336) = true by simp; omega)
  have HLE2 := hide (show decide (F ≤ 14336) = true by simp; omega)
  clear hL hfl hfm hmost hfit' HROW HRG
  go_upto_region 18 with (go_at_call 17; ((with_reducible refine hap.mono ?_); rintro e w7 ⟨rfl, hv7, ho7⟩; have V7 := hide hv7; have O7 := hide ho7; have RBC := hide (RB.out.out ho7); have REC7 := hide (H7.out.recs.out ho7); clear hv7 ho7 hap))
  have HLT := hide RBC.out.blk.lt
  have HOK := hide H7.out.live.ok
  have HLN := hide (show all.length ≤ 10000 by have := H.out.few; omega)
  refine region_grows_n 247 (by simp [hs, k3, k4, k6, k7, k8, k9, k10, k12, k49, ptr]) [Say.is (.int .i64 0), Say.is (.bool true), Say.is (.slice Aa n ca), Say.is (.int .i64 (L : Int)), Say.is (.agg #[.int .i64 (r.k : Int), .int .i64 (r.t : Int), .int .i64 (r.p : Int), .int .i64 (r.s : Int), .string r.b, .string r.a, .string r.i, .slice A6 r.ds.length c6]), Say.rd fl (r.frame), Say.is (.int .i64 (fl : Int)), Say.is (.int .i64 (F : Int)), Say.is (.bool true), Say.is (.bool false)] (by kernel_rfl) (by kernel_rfl) (by kernel_rfl) (by kernel_rfl) ?_ ?_
  · intro i o ho a w2 hb hsz old dep
    match i, ho with
    | 0, ho =>
      obtain rfl := Option.some.inj ho
      have o15 : a.tmps.getD 15 undef = .int .i64 0 := (old 15 (by kernel_rfl)).trans (by simp [Array.getD_eq_getD_getElem?, hs, k3, k4, k6, k7, k8, k9, k10, k12, k49, ptr])
      have oe15 : a.tmps[15]?.getD undef = _ := (Array.getD_eq_getD_getElem? ..).symm.trans o15
      rw [if_pos (wanted_none rfl)]
      refine grow_same (v := .int .i64 0) ?_ rfl
      clear old dep ho hsz hb
      go_simp
    | 1, ho =>
      obtain rfl := Option.some.inj ho
      have d0 : a.tmps.getD 66 undef = .int .i64 0 := dep 0 _ _ (by kernel_rfl) rfl rfl
      have e0 : a.tmps[66]?.getD undef = _ := (Array.getD_eq_getD_getElem? ..).symm.trans d0
      rw [if_pos (wanted_none rfl)]
      refine grow_same (v := .bool true) ?_ rfl
      clear old dep ho hsz hb
      go_simp
    | 2, ho =>
      obtain rfl := Option.some.inj ho
      have o6 : a.tmps.getD 6 undef = .slice Aa n ca := (old 6 (by kernel_rfl)).trans (by simp [Array.getD_eq_getD_getElem?, hs, k3, k4, k6, k7, k8, k9, k10, k12, k49, ptr])
      have oe6 : a.tmps[6]?.getD undef = _ := (Array.getD_eq_getD_getElem? ..).symm.trans o6
      rw [if_pos (wanted_none rfl)]
      refine grow_same (v := .slice Aa n ca) ?_ rfl
      clear old dep ho hsz hb
      go_simp
    | 3, ho =>
      obtain rfl := Option.some.inj ho
      have d2 : a.tmps.getD 68 undef = .slice Aa n ca := dep 2 _ _ (by kernel_rfl) rfl rfl
      have e2 : a.tmps[68]?.getD undef = _ := (Array.getD_eq_getD_getElem? ..).symm.trans d2
      rw [if_pos (wanted_none rfl)]
      refine grow_enters (f := 18) (args := #[.slice Aa n ca]) ?_ (size_g REC7.out HOK.out HLN.out HL.out hb)
      clear old dep ho hsz hb
      go_simp
    | 4, ho =>
      obtain rfl := Option.some.inj ho
      have o13 : a.tmps.getD 13 undef = .pointer (some ⟨w6.heap.size, 0, none⟩) := (old 13 (by kernel_rfl)).trans (by simp [Array.getD_eq_getD_getElem?, hs, k3, k4, k6, k7, k8, k9, k10, k12, k49, ptr])
      have oe13 : a.tmps[13]?.getD undef = _ := (Array.getD_eq_getD_getElem? ..).symm.trans o13
      rw [if_pos (wanted_none rfl)]
      have g0 := (hb.cell (p := ⟨w6.heap.size, 0, none⟩) HLT.out).trans (RBC.out.blk.cell 0 _ rfl)
      have g1 := (hb.cell (p := ⟨w6.heap.size, 1, none⟩) HLT.out).trans (RBC.out.blk.cell 1 _ rfl)
      have g2 := (hb.cell (p := ⟨w6.heap.size, 2, none⟩) HLT.out).trans (RBC.out.blk.cell 2 _ rfl)
      have g3 := (hb.cell (p := ⟨w6.heap.size, 3, none⟩) HLT.out).trans (RBC.out.blk.cell 3 _ rfl)
      have g4 := (hb.cell (p := ⟨w6.heap.size, 4, none⟩) HLT.out).trans (RBC.out.blk.cell 4 _ rfl)
      have g5 := (hb.cell (p := ⟨w6.heap.size, 5, none⟩) HLT.out).trans (RBC.out.blk.cell 5 _ rfl)
      have g6 := (hb.cell (p := ⟨w6.heap.size, 6, none⟩) HLT.out).trans (RBC.out.blk.cell 6 _ rfl)
      have g7 := (hb.cell (p := ⟨w6.heap.size, 7, none⟩) HLT.out).trans (RBC.out.blk.cell 7 _ rfl)
      refine grow_same (v := .agg #[.int .i64 (r.k : Int), .int .i64 (r.t : Int), .int .i64 (r.p : Int), .int .i64 (r.s : Int), .string r.b, .string r.a, .string r.i, .slice A6 r.ds.length c6]) ?_ rfl
      clear old dep ho hsz hb
      go_simp
    | 5, ho =>
      obtain rfl := Option.some.inj ho
      have d4 : a.tmps.getD 70 undef = .agg #[.int .i64 (r.k : Int), .int .i64 (r.t : Int), .int .i64 (r.p : Int), .int .i64 (r.s : Int), .string r.b, .string r.a, .string r.i, .slice A6 r.ds.length c6] := dep 4 _ _ (by kernel_rfl) rfl rfl
      have e4 : a.tmps[70]?.getD undef = _ := (Array.getD_eq_getD_getElem? ..).symm.trans d4
      rw [if_pos (wanted_none rfl)]
      refine grow_enters (f := 19) (args := #[.agg #[.int .i64 (r.k : Int), .int .i64 (r.t : Int), .int .i64 (r.p : Int), .int .i64 (r.s : Int), .string r.b, .string r.a, .string r.i, .slice A6 r.ds.length c6]]) ?_ (enc_g RBC.out HO.out HFL.out hb)
      clear old dep ho hsz hb
      go_simp
    | 6, ho =>
      obtain rfl := Option.some.inj ho
      obtain ⟨A5, C5, d5, r5⟩ : ∃ A c, a.tmps.getD 71 undef = .slice A fl c ∧ Rd w2 (.slice A fl c) (u8s (r.frame)) := dep 5 _ _ (by kernel_rfl) rfl rfl
      have e5 : a.tmps[71]?.getD undef = _ := (Array.getD_eq_getD_getElem? ..).symm.trans d5
      rw [if_pos (wanted_none rfl)]
      refine grow_same (v := .int .i64 (fl : Int)) ?_ rfl
      clear old dep ho hsz hb r5
      go_simp
    | 7, ho =>
      obtain rfl := Option.some.inj ho
      have d3 : a.tmps.getD 69 undef = .int .i64 (L : Int) := dep 3 _ _ (by kernel_rfl) rfl rfl
      have e3 : a.tmps[69]?.getD undef = _ := (Array.getD_eq_getD_getElem? ..).symm.trans d3
      have d6 : a.tmps.getD 72 undef = .int .i64 (fl : Int) := dep 6 _ _ (by kernel_rfl) rfl rfl
      have e6 : a.tmps[72]?.getD undef = _ := (Array.getD_eq_getD_getElem? ..).symm.trans d6
      rw [if_pos (wanted_none rfl)]
      have hw := HW.out
      refine grow_same (v := .int .i64 (F : Int)) ?_ rfl
      clear old dep ho hsz hb
      go_simp
    | 8, ho =>
      obtain rfl := Option.some.inj ho
      have d7 : a.tmps.getD 73 undef = .int .i64 (F : Int) := dep 7 _ _ (by kernel_rfl) rfl rfl
      have e7 : a.tmps[73]?.getD undef = _ := (Array.getD_eq_getD_getElem? ..).symm.trans d7
      rw [if_pos (wanted_none rfl)]
      have hw := HLE.out
      have hw2 := HLE2.out
      refine grow_same (v := .bool true) ?_ rfl
      clear old dep ho hsz hb
      go_simp
    | 9, ho =>
      obtain rfl := Option.some.inj ho
      have d1 : a.tmps.getD 67 undef = .bool true := dep 1 _ _ (by kernel_rfl) rfl rfl
      have e1 : a.tmps[67]?.getD undef = _ := (Array.getD_eq_getD_getElem? ..).symm.trans d1
      have d8 : a.tmps.getD 74 undef = .bool true := dep 8 _ _ (by kernel_rfl) rfl rfl
      have e8 : a.tmps[74]?.getD undef = _ := (Array.getD_eq_getD_getElem? ..).symm.trans d8
      rw [if_pos (wanted_none rfl)]
      refine grow_same (v := .bool false) ?_ rfl
      clear old dep ho hsz hb
      go_simp
    | i + 10, ho => exact absurd ho (by simp)
  · intro a w8 hb hsz hdf fin keep
    have kptm2 : Keeps SSW tm a.tmps := Keeps.region hsz keep (by kernel_rfl) (by dsimp only; repeat (first | (with_reducible exact Keeps.refl _ _) | ((with_reducible refine Keeps.put ?_ ?_ _); rfl)))
    have hstm2 : a.tmps.size = 247 := hsz.trans (by simp [hs, k3, k4, k6, k7, k8, k9, k10, k12, k49, ptr])
    have vtm2_4 : a.tmps[4]? = some (.pointer (some ⟨gx, 0, none⟩)) := slot_get ((keep 4 (by kernel_rfl)).trans (by simp [Array.getD_eq_getD_getElem?, hs, k3, k4, k6, k7, k8, k9, k10, k12, k49, ptr])) (by omega)
    have vtm2_6 : a.tmps[6]? = some (.slice Aa n ca) := slot_get ((keep 6 (by kernel_rfl)).trans (by simp [Array.getD_eq_getD_getElem?, hs, k3, k4, k6, k7, k8, k9, k10, k12, k49, ptr])) (by omega)
    have vtm2_7 : a.tmps[7]? = some (.int .i64 (s : Int)) := slot_get ((keep 7 (by kernel_rfl)).trans (by simp [Array.getD_eq_getD_getElem?, hs, k3, k4, k6, k7, k8, k9, k10, k12, k49, ptr])) (by omega)
    have vtm2_8 : a.tmps[8]? = some (ov) := slot_get ((keep 8 (by kernel_rfl)).trans (by simp [Array.getD_eq_getD_getElem?, hs, k3, k4, k6, k7, k8, k9, k10, k12, k49, ptr])) (by omega)
    have vtm2_9 : a.tmps[9]? = some (.bool false) := slot_get ((keep 9 (by kernel_rfl)).trans (by simp [Array.getD_eq_getD_getElem?, hs, k3, k4, k6, k7, k8, k9, k10, k12, k49, ptr])) (by omega)
    have vtm2_10 : a.tmps[10]? = some (.bool false) := slot_get ((keep 10 (by kernel_rfl)).trans (by simp [Array.getD_eq_getD_getElem?, hs, k3, k4, k6, k7, k8, k9, k10, k12, k49, ptr])) (by omega)
    have vtm2_13 : a.tmps[13]? = some (.pointer (some ⟨w6.heap.size, 0, none⟩)) := slot_get ((keep 13 (by kernel_rfl)).trans (by simp [Array.getD_eq_getD_getElem?, hs, k3, k4, k6, k7, k8, k9, k10, k12, k49, ptr])) (by omega)
    have vtm2_15 : a.tmps[15]? = some (.int .i64 0) := slot_get ((keep 15 (by kernel_rfl)).trans (by simp [Array.getD_eq_getD_getElem?, hs, k3, k4, k6, k7, k8, k9, k10, k12, k49, ptr])) (by omega)
    have vtm2_75 : a.tmps[75]? = some (.bool false) := slot_get (fin 9 _ _ rfl rfl) (by omega)
    obtain ⟨tm2, df⟩ := a
    dsimp only at hdf hsz kptm2 hstm2 vtm2_4 vtm2_6 vtm2_7 vtm2_8 vtm2_9 vtm2_10 vtm2_13 vtm2_15 vtm2_75
    subst hdf
    clear fin keep hsz
    have z4 := slot_at vtm2_4 (by omega)
    have z6 := slot_at vtm2_6 (by omega)
    have z7 := slot_at vtm2_7 (by omega)
    have z8 := slot_at vtm2_8 (by omega)
    have z9 := slot_at vtm2_9 (by omega)
    have z10 := slot_at vtm2_10 (by omega)
    have z13 := slot_at vtm2_13 (by omega)
    have z15 := slot_at vtm2_15 (by omega)
    have z75 := slot_at vtm2_75 (by omega)
    have B8 := hide hb
    clear hb
    go_upto_if 75 with fail
    refine wp_cond_false (by simp [Act.eval, hstm2, z75]) ?_
    go_upto_if 77 with fail
    refine wp_cond_true (by simp [Act.eval, hstm2, z4, z6, z7, z8, z9, z10, z13, z15, ptr]) ?_
    go_upto_region 21 with fail
    have HCAP := hide (Nat.le_refl n)
    have HCP2 := hide hca
    have HXL := hide V7.out.xlt
    have RB8 := hide (RBC.out.below B8.out)
    have HL8 := hide RB8.out.blk.lt
    have RC8 := hide (REC7.out.below B8.out)
    have HX8 := hide (show ∀ k, X7 k → k < w8.heap.size from fun k hk => Nat.lt_of_lt_of_le (HXL.out k hk) B8.out.size)
    have HN1 := hide (show n ≤ 1000 by omega)
    have hsl6 : ∀ W : World, (Instr.buildSlice 34 1 #[(0, .agg #[.int .i64 (r.k : Int), .int .i64 (r.t : Int), .int .i64 (r.p : Int), .int .i64 (r.s : Int), .string r.b, .string r.a, .string r.i, .slice A6 r.ds.length c6])]).run Try.prog W = .ok (.slice (some ⟨W.heap.size, 0, none⟩) 1 1) (W.alloc (.cells #[.int .i64 (r.k : Int), .int .i64 (r.t : Int), .int .i64 (r.p : Int), .int .i64 (r.s : Int), .string r.b, .string r.a, .string r.i, .slice A6 r.ds.length c6] 33)) := fun W => run_slice_one (P := Try.prog) W 34 33 #[.int .i64 (r.k : Int), .int .i64 (r.t : Int), .int .i64 (r.p : Int), .int .i64 (r.s : Int), .string r.b, .string r.a, .string r.i, .slice A6 r.ds.length c6] #[.int .i64 0, .int .i64 0, .int .i64 0, .int .i64 0, .string ⟨#[]⟩, .string ⟨#[]⟩, .string ⟨#[]⟩, .slice none 0 0] 8 104 Try.underlying34 infoRec3 rfl (by omega) (by omega)
    have HSL6 := hide hsl6
    clear hsl6
    refine region_grows_n 247 (by simp [hstm2, z4, z6, z7, z8, z9, z10, z13, z15, ptr]) [Say.is (.slice Aa n ca), Say.is (.slice Aa n ca), Say.is (.int .i64 (n : Int)), Say.is (.slice Aa n ca), Say.is (.int .i64 (n : Int)), Say.is (.slice Aa n n), Say.is (.agg #[.int .i64 (r.k : Int), .int .i64 (r.t : Int), .int .i64 (r.p : Int), .int .i64 (r.s : Int), .string r.b, .string r.a, .string r.i, .slice A6 r.ds.length c6]), Say.rone r A6 c6, Say.recs (fun k => X7 k ∨ w8.heap.size ≤ k) (all ++ [r]), Say.recs (fun k => X7 k ∨ w8.heap.size ≤ k) (all ++ [r])] (by kernel_rfl) (by kernel_rfl) (by kernel_rfl) (by kernel_rfl) ?_ ?_
    · intro i o ho a w2 hb hsz old dep
      match i, ho with
      | 0, ho =>
        obtain rfl := Option.some.inj ho
        have o6 : a.tmps.getD 6 undef = .slice Aa n ca := (old 6 (by kernel_rfl)).trans (by simp [Array.getD_eq_getD_getElem?, hstm2, z4, z6, z7, z8, z9, z10, z13, z15, ptr])
        have oe6 : a.tmps[6]?.getD undef = _ := (Array.getD_eq_getD_getElem? ..).symm.trans o6
        rw [if_pos (wanted_none rfl)]
        refine grow_same (v := .slice Aa n ca) ?_ rfl
        clear old dep ho hsz hb
        go_simp
      | 1, ho =>
        obtain rfl := Option.some.inj ho
        have o6 : a.tmps.getD 6 undef = .slice Aa n ca := (old 6 (by kernel_rfl)).trans (by simp [Array.getD_eq_getD_getElem?, hstm2, z4, z6, z7, z8, z9, z10, z13, z15, ptr])
        have oe6 : a.tmps[6]?.getD undef = _ := (Array.getD_eq_getD_getElem? ..).symm.trans o6
        rw [if_pos (wanted_none rfl)]
        refine grow_same (v := .slice Aa n ca) ?_ rfl
        clear old dep ho hsz hb
        go_simp
      | 2, ho =>
        obtain rfl := Option.some.inj ho
        have d1 : a.tmps.getD 79 undef = .slice Aa n ca := dep 1 _ _ (by kernel_rfl) rfl rfl
        have e1 : a.tmps[79]?.getD undef = _ := (Array.getD_eq_getD_getElem? ..).symm.trans d1
        rw [if_pos (wanted_none rfl)]
        refine grow_same (v := .int .i64 (n : Int)) ?_ rfl
        clear old dep ho hsz hb
        go_simp
      | 3, ho =>
        obtain rfl := Option.some.inj ho
        have o6 : a.tmps.getD 6 undef = .slice Aa n ca := (old 6 (by kernel_rfl)).trans (by simp [Array.getD_eq_getD_getElem?, hstm2, z4, z6, z7, z8, z9, z10, z13, z15, ptr])
        have oe6 : a.tmps[6]?.getD undef = _ := (Array.getD_eq_getD_getElem? ..).symm.trans o6
        rw [if_pos (wanted_none rfl)]
        refine grow_same (v := .slice Aa n ca) ?_ rfl
        clear old dep ho hsz hb
        go_simp
      | 4, ho =>
        obtain rfl := Option.some.inj ho
        have d3 : a.tmps.getD 81 undef = .slice Aa n ca := dep 3 _ _ (by kernel_rfl) rfl rfl
        have e3 : a.tmps[81]?.getD undef = _ := (Array.getD_eq_getD_getElem? ..).symm.trans d3
        rw [if_pos (wanted_none rfl)]
        refine grow_same (v := .int .i64 (n : Int)) ?_ rfl
        clear old dep ho hsz hb
        go_simp
      | 5, ho =>
        obtain rfl := Option.some.inj ho
        have d0 : a.tmps.getD 78 undef = .slice Aa n ca := dep 0 _ _ (by kernel_rfl) rfl rfl
        have e0 : a.tmps[78]?.getD undef = _ := (Array.getD_eq_getD_getElem? ..).symm.trans d0
        have d2 : a.tmps.getD 80 undef = .int .i64 (n : Int) := dep 2 _ _ (by kernel_rfl) rfl rfl
        have e2 : a.tmps[80]?.getD undef = _ := (Array.getD_eq_getD_getElem? ..).symm.trans d2
        have d4 : a.tmps.getD 82 undef = .int .i64 (n : Int) := dep 4 _ _ (by kernel_rfl) rfl rfl
        have e4 : a.tmps[82]?.getD undef = _ := (Array.getD_eq_getD_getElem? ..).symm.trans d4
        rw [if_pos (wanted_none rfl)]
        refine grow_same (v := .slice Aa n n) (exec_lowR n rfl d0 d2 d4 HCP2.out) rfl
      | 6, ho =>
        obtain rfl := Option.some.inj ho
        have o13 : a.tmps.getD 13 undef = .pointer (some ⟨w6.heap.size, 0, none⟩) := (old 13 (by kernel_rfl)).trans (by simp [Array.getD_eq_getD_getElem?, hstm2, z4, z6, z7, z8, z9, z10, z13, z15, ptr])
        have oe13 : a.tmps[13]?.getD undef = _ := (Array.getD_eq_getD_getElem? ..).symm.trans o13
        rw [if_pos (wanted_none rfl)]
        have g0 := (hb.cell (p := ⟨w6.heap.size, 0, none⟩) HL8.out).trans (RB8.out.blk.cell 0 _ rfl)
        have g1 := (hb.cell (p := ⟨w6.heap.size, 1, none⟩) HL8.out).trans (RB8.out.blk.cell 1 _ rfl)
        have g2 := (hb.cell (p := ⟨w6.heap.size, 2, none⟩) HL8.out).trans (RB8.out.blk.cell 2 _ rfl)
        have g3 := (hb.cell (p := ⟨w6.heap.size, 3, none⟩) HL8.out).trans (RB8.out.blk.cell 3 _ rfl)
        have g4 := (hb.cell (p := ⟨w6.heap.size, 4, none⟩) HL8.out).trans (RB8.out.blk.cell 4 _ rfl)
        have g5 := (hb.cell (p := ⟨w6.heap.size, 5, none⟩) HL8.out).trans (RB8.out.blk.cell 5 _ rfl)
        have g6 := (hb.cell (p := ⟨w6.heap.size, 6, none⟩) HL8.out).trans (RB8.out.blk.cell 6 _ rfl)
        have g7 := (hb.cell (p := ⟨w6.heap.size, 7, none⟩) HL8.out).trans (RB8.out.blk.cell 7 _ rfl)
        refine grow_same (v := .agg #[.int .i64 (r.k : Int), .int .i64 (r.t : Int), .int .i64 (r.p : Int), .int .i64 (r.s : Int), .string r.b, .string r.a, .string r.i, .slice A6 r.ds.length c6]) ?_ rfl
        clear old dep ho hsz hb
        go_simp
      | 7, ho =>
        obtain rfl := Option.some.inj ho
        have d6 : a.tmps.getD 84 undef = .agg #[.int .i64 (r.k : Int), .int .i64 (r.t : Int), .int .i64 (r.p : Int), .int .i64 (r.s : Int), .string r.b, .string r.a, .string r.i, .slice A6 r.ds.length c6] := dep 6 _ _ (by kernel_rfl) rfl rfl
        have e6 : a.tmps[84]?.getD undef = _ := (Array.getD_eq_getD_getElem? ..).symm.trans d6
        rw [if_pos (wanted_none rfl)]
        refine grow_yields (v := .slice (some ⟨w2.heap.size, 0, none⟩) 1 1) (w' := w2.alloc (.cells #[.int .i64 (r.k : Int), .int .i64 (r.t : Int), .int .i64 (r.p : Int), .int .i64 (r.s : Int), .string r.b, .string r.a, .string r.i, .slice A6 r.ds.length c6] 33)) ?_ ⟨w2.heap.size, rfl, Blk.new_ w2 _ _ rfl⟩ ((Below.refl _ _).alloc (Nat.le_refl _) _)
        have hsl6 := HSL6.out
        clear old dep ho hsz hb
        go_simp
      | 8, ho =>
        obtain rfl := Option.some.inj ho
        have d5 : a.tmps.getD 83 undef = .slice Aa n n := dep 5 _ _ (by kernel_rfl) rfl rfl
        have e5 : a.tmps[83]?.getD undef = _ := (Array.getD_eq_getD_getElem? ..).symm.trans d5
        have s7 : (Say.rone r A6 c6).p w2 (a.tmps.getD 85 undef) := dep 7 _ _ (by kernel_rfl) rfl rfl
        rw [if_pos (wanted_none rfl)]
        obtain ⟨g, e85, hblk⟩ := s7
        have hlow := (RC8.out.below hb).low (k := n) (Nat.le_refl n)
        rw [List.take_of_length_le (by rw [HN.out]; exact Nat.le_refl _)] at hlow
        obtain ⟨v', w', hrun, hrec, hb'⟩ := run_full_recs hlow (Nat.le_trans HN1.out (by omega)) (fun k hk => Nat.lt_of_lt_of_le (HX8.out k hk) hb.size) hblk ((RB8.out.below hb).ds)
        exact grow_yields (exec_append rfl d5 e85 hrun) (hrec.sub (fun k _ hk => hk.imp id (fun h => Nat.le_trans hb.size h))) hb'
      | 9, ho =>
        obtain rfl := Option.some.inj ho
        have s8 : (Say.recs (fun k => X7 k ∨ w8.heap.size ≤ k) (all ++ [r])).p w2 (a.tmps.getD 86 undef) := dep 8 _ _ (by kernel_rfl) rfl rfl
        rw [if_pos (wanted_none rfl)]
        refine grow_same (v := a.tmps.getD 86 undef) ?_ s8
        clear old dep ho hsz hb
        go_simp
      | i + 10, ho => exact absurd ho (by simp)
    · intro a w9 hb hsz hdf fin keep
      have kptm3 : Keeps SSW tm2 a.tmps := Keeps.region hsz keep (by kernel_rfl) (by dsimp only; repeat (first | (with_reducible exact Keeps.refl _ _) | ((with_reducible refine Keeps.put ?_ ?_ _); rfl)))
      have hstm3 : a.tmps.size = 247 := hsz.trans (by simp [hstm2, z4, z6, z7, z8, z9, z10, z13, z15, ptr])
      have vtm3_4 : a.tmps[4]? = some (.pointer (some ⟨gx, 0, none⟩)) := slot_get ((keep 4 (by kernel_rfl)).trans (by simp [Array.getD_eq_getD_getElem?, hstm2, z4, z6, z7, z8, z9, z10, z13, z15, ptr])) (by omega)
      have vtm3_7 : a.tmps[7]? = some (.int .i64 (s : Int)) := slot_get ((keep 7 (by kernel_rfl)).trans (by simp [Array.getD_eq_getD_getElem?, hstm2, z4, z6, z7, z8, z9, z10, z13, z15, ptr])) (by omega)
      have vtm3_8 : a.tmps[8]? = some (ov) := slot_get ((keep 8 (by kernel_rfl)).trans (by simp [Array.getD_eq_getD_getElem?, hstm2, z4, z6, z7, z8, z9, z10, z13, z15, ptr])) (by omega)
      have vtm3_9 : a.tmps[9]? = some (.bool false) := slot_get ((keep 9 (by kernel_rfl)).trans (by simp [Array.getD_eq_getD_getElem?, hstm2, z4, z6, z7, z8, z9, z10, z13, z15, ptr])) (by omega)
      have vtm3_10 : a.tmps[10]? = some (.bool false) := slot_get ((keep 10 (by kernel_rfl)).trans (by simp [Array.getD_eq_getD_getElem?, hstm2, z4, z6, z7, z8, z9, z10, z13, z15, ptr])) (by omega)
      have S6 : (Say.recs (fun k => X7 k ∨ w8.heap.size ≤ k) (all ++ [r])).p w9 (a.tmps.getD 6 undef) := fin 9 _ _ rfl rfl
      obtain ⟨tm3, df⟩ := a
      dsimp only at hdf hsz kptm3 hstm3 vtm3_4 vtm3_7 vtm3_8 vtm3_9 vtm3_10 S6
      subst hdf
      clear fin keep hsz
      have hgn := H7.out.gens
      have hfw := H7.out.few
      obtain ⟨v6, hv6⟩ : ∃ v6, tm3.getD 6 undef = v6 := ⟨_, rfl⟩
      have S6' : RecsAt w9 (fun k => X7 k ∨ w8.heap.size ≤ k) v6 (all ++ [r]) := by rw [← hv6]; exact S6
      have g6 := slot_get hv6 (by omega)
      have V9 := (V7.out.below B8.out).more hb (Y := Ext X7 w8.heap.size w9.heap.size) (fun _ hk => hk)
      exact HK.out _ _ (Ext X7 w8.heap.size w9.heap.size) gx gen v6 (all ++ [r]) s false false ov none (kptm2.trans kptm3) vtm3_4 g6 vtm3_7 vtm3_8 vtm3_9 vtm3_10 ((H7.out.step (O7.out.trans ((Out.of_below B8.out).trans (Out.of_below hb))) (fun k hk => .inl hk) V9 (by omega) (by omega) (by rw [List.length_append, List.length_singleton]; omega) (S6'.sub (fun k hlt hk => hk.imp id (fun h => ⟨h, hlt⟩)))).af ov)
set_option maxHeartbeats 8000000 in
theorem sw_app_no {wi w : World} {X : Nat → Prop} {dg gx bx q gen s : Nat} {allv ov : Value} {all : List Rc} {dk dnn : Int} {x : SeedD} {A2 : Option Addr} {n2 c2 M : Nat} {r : Rc} (h : Rs wi w X dg gx bx q gen allv all s #[.int .i64 dk, .int .i64 dnn, .int .i64 x.k, .int .i64 x.t, .int .i64 x.p, .int .i64 x.s, .int .u8 (x.b.toNat : Int), .int .u8 (x.a.toNat : Int), .int .u8 (x.i.toNat : Int), .slice A2 n2 c2, .int .u64 (M : Int)]) (hq : q ≤ 130) (hn2 : x.ds.length = n2) (hr : seedR x = r) (hro : r.Ok) (hrow : Rd w (.slice A2 n2 c2) (u64s x.ds)) (hfit : 14336 < (frsR all).length + r.frame.length) {tm : Array Value} (hs : tm.size = 247) (f3 : tm[3]? = some (ptr dg)) (f4 : tm[4]? = some (ptr gx)) (f6 : tm[6]? = some (allv)) (f7 : tm[7]? = some (.int .i64 (s : Int))) (f8 : tm[8]? = some (ov)) (f9 : tm[9]? = some (.bool false)) (f10 : tm[10]? = some (.bool false)) (f12 : tm[12]? = some (ptr bx)) (f49 : tm[49]? = some (.int .i64 0)) {Q : Exit → Act → World → Prop}
    (hK : ∀ (tm' : Array Value) (w' : World) (X' : Nat → Prop) (gx' gen' : Nat) (allv' : Value) (all' : List Rc) (s' : Nat) (dn an : Bool) (ov' : Value) (other' : Option (List Rc)), Keeps SSW tm tm' → tm'[4]? = some (ptr gx') → tm'[6]? = some allv' → tm'[7]? = some (.int .i64 (s' : Int)) → tm'[8]? = some ov' → tm'[9]? = some (.bool dn) → tm'[10]? = some (.bool an) → Af wi w' X' dg gx' bx (q + 1) gen' allv' all' s' #[.int .i64 dk, .int .i64 dnn, .int .i64 x.k, .int .i64 x.t, .int .i64 x.p, .int .i64 x.s, .int .u8 (x.b.toNat : Int), .int .u8 (x.a.toNat : Int), .int .u8 (x.i.toNat : Int), .slice A2 n2 c2, .int .u64 (M : Int)] dn an ov' other' → Q .normal ⟨tm', []⟩ w') :
    Code.wp Try.prog (subC (Try.f3.body.getD .skip) [1,1,1,1,1,1,1,1,0,1,0,0,1,1,0,0,1,0,1,0]) Q ⟨tm, []⟩ w := by
  conv => arg 2; whnf
  have hun : ∀ b : Bool, ¬ (undef = Value.bool b) := fun b => by simp [undef]
  have HK := hide hK
  clear hK
  have k3 := slot_at f3 (by omega)
  have k4 := slot_at f4 (by omega)
  have k6 := slot_at f6 (by omega)
  have k7 := slot_at f7 (by omega)
  have k8 := slot_at f8 (by omega)
  have k9 := slot_at f9 (by omega)
  have k10 := slot_at f10 (by omega)
  have k12 := slot_at f12 (by omega)
  have k49 := slot_at f49 (by omega)
  unfold ptr at k3 k4 k12
  clear f3 f4 f6 f7 f8 f9 f10 f12 f49
  obtain ⟨Aa, ca, rfl, hca⟩ := h.recs.form
  obtain ⟨n, hn⟩ : ∃ n, all.length = n := ⟨_, rfl⟩
  have H := hide h
  rw [hn] at k6 H hca
  have HN := hide hn
  have HRG := hide (show w.rangeAt bx 2 [.int .i64 x.k, .int .i64 x.t, .int .i64 x.p, .int .i64 x.s, .int .u8 (x.b.toNat : Int), .int .u8 (x.a.toNat : Int), .int .u8 (x.i.toNat : Int), .slice A2 n2 c2] from fun j u hu => by
    rw [show (2 + j) = 2 + j from rfl]
    refine h.box.cell (2 + j) u ?_
    match j, hu with
    | 0, hu | 1, hu | 2, hu | 3, hu | 4, hu | 5, hu | 6, hu | 7, hu => exact hu
    | j + 8, hu => simp at hu)
  have XIS := hide infoSeed
  have HN2 := hide hn2
  have HR := hide hr
  have HO := hide hro
  have HROW := hide hrow
  have hn3 : (n : Int) ≤ 1000 := by have := h.few; omega
  clear h hn hn2 hr hro hrow
  go_upto_if 55 with fail
  refine wp_cond_true (by simp [Act.eval, hs, k3, k4, k6, k7, k8, k9, k10, k12, k49, ptr]) ?_
  go_upto_region 17 with (first
    | ((with_reducible refine wpList_load_mid rfl 36 (.tmp 57) rfl bx 2 ?_ [.int .i64 x.k, .int .i64 x.t, .int .i64 x.p, .int .i64 x.s, .int .u8 (x.b.toNat : Int), .int .u8 (x.a.toNat : Int), .int .u8 (x.i.toNat : Int), .slice A2 n2 c2] _ ?_ Try.underlying36 ?_ ?_ ?_); simp [Act.eval, hs, k3, k4, k6, k7, k8, k9, k10, k12, k49, ptr]; exact HRG.out; rfl; exact XIS.out)
    | (go_at_call 16; ((with_reducible refine (seed_in x A2 n2 c2 _ HN2.out HR.out HROW.out).mono ?_); rintro e w6 ⟨A6, c6, rfl, R6, hb6⟩; have B6 := hide hb6; have R6H := hide R6; clear hb6 R6)))
  have P7 := hide (B6.out.alloc B6.out.size (.cells #[.int .i64 (r.k : Int), .int .i64 (r.t : Int), .int .i64 (r.p : Int), .int .i64 (r.s : Int), .string r.b, .string r.a, .string r.i, .slice A6 r.ds.length c6] 33))
  have H7 := hide (show Rs wi (w6.alloc (.cells #[.int .i64 (r.k : Int), .int .i64 (r.t : Int), .int .i64 (r.p : Int), .int .i64 (r.s : Int), .string r.b, .string r.a, .string r.i, .slice A6 r.ds.length c6] 33)) (Ext X w.heap.size (w6.heap.size + 1)) dg gx bx q gen (.slice Aa n ca) all s #[.int .i64 dk, .int .i64 dnn, .int .i64 x.k, .int .i64 x.t, .int .i64 x.p, .int .i64 x.s, .int .u8 (x.b.toNat : Int), .int .u8 (x.a.toNat : Int), .int .u8 (x.i.toNat : Int), .slice A2 n2 c2, .int .u64 (M : Int)] by have := H.out.ext P7.out; rwa [sz_alloc] at this)
  have RB := hide (RBox.new_ (X := X) (Nat.le_refl _) B6.out.size R6H.out)
  obtain ⟨X7, hX7⟩ : ∃ X7, Ext X w.heap.size (w6.heap.size + 1) = X7 := ⟨_, rfl⟩
  rw [hX7] at H7 RB
  clear hX7
  obtain ⟨L, hL⟩ : ∃ L, (frsR all).length = L := ⟨_, rfl⟩
  obtain ⟨fl, hfl⟩ : ∃ fl, r.frame.length = fl := ⟨_, rfl⟩
  obtain ⟨F, hF⟩ : ∃ F, L + fl = F := ⟨_, rfl⟩
  have hmost := H7.out.live.len
  have hfm := HO.out.most
  have hfit' := hfit
  rw [hL, hfl, hF] at hfit'
  rw [hL] at hmost
  rw [hfl] at hfm
  have hap := la_quota H7.out.live HO.out RB.out.rd hfit
  unfold ptr at hap
  have HL := hide hL
  have HFL := hide hfl
  have HW := hide (show IntKind.i64.wrap ((L : Int) + (fl : Int)) = (F : Int) by rw [IntKind.wrap_i64]; omega)
  have HLE := hide (show decide ((F : Int) ≤ 14336) = false by simp; omega)
  have HLE2 := hide (show decide (F ≤ 14336) = false by simp; omega)
  clear hL hfl hfm hmost hfit' HROW HRG
  go_upto_region 18 with (go_at_call 17; ((with_reducible refine hap.mono ?_); rintro e w7 ⟨rfl, hb7⟩; have O7 := hide (Out.of_below (X := X7) hb7); have V7 := hide (H7.out.live.below hb7); have RBC := hide (RB.out.below hb7); have REC7 := hide (H7.out.recs.below hb7); clear hb7 hap))
  have HLT := hide RBC.out.blk.lt
  have HOK := hide H7.out.live.ok
  have HLN := hide (show all.length ≤ 10000 by have := H.out.few; omega)
  refine region_grows_n 247 (by simp [hs, k3, k4, k6, k7, k8, k9, k10, k12, k49, ptr]) [Say.is (.int .i64 7), Say.is (.bool false), Say.is (.slice Aa n ca), Say.is (.int .i64 (L : Int)), Say.is (.agg #[.int .i64 (r.k : Int), .int .i64 (r.t : Int), .int .i64 (r.p : Int), .int .i64 (r.s : Int), .string r.b, .string r.a, .string r.i, .slice A6 r.ds.length c6]), Say.rd fl (r.frame), Say.is (.int .i64 (fl : Int)), Say.is (.int .i64 (F : Int)), Say.is (.bool false), Say.is (.bool false)] (by kernel_rfl) (by kernel_rfl) (by kernel_rfl) (by kernel_rfl) ?_ ?_
  · intro i o ho a w2 hb hsz old dep
    match i, ho with
    | 0, ho =>
      obtain rfl := Option.some.inj ho
      have o15 : a.tmps.getD 15 undef = .int .i64 7 := (old 15 (by kernel_rfl)).trans (by simp [Array.getD_eq_getD_getElem?, hs, k3, k4, k6, k7, k8, k9, k10, k12, k49, ptr])
      have oe15 : a.tmps[15]?.getD undef = _ := (Array.getD_eq_getD_getElem? ..).symm.trans o15
      rw [if_pos (wanted_none rfl)]
      refine grow_same (v := .int .i64 7) ?_ rfl
      clear old dep ho hsz hb
      go_simp
    | 1, ho =>
      obtain rfl := Option.some.inj ho
      have d0 : a.tmps.getD 66 undef = .int .i64 7 := dep 0 _ _ (by kernel_rfl) rfl rfl
      have e0 : a.tmps[66]?.getD undef = _ := (Array.getD_eq_getD_getElem? ..).symm.trans d0
      rw [if_pos (wanted_none rfl)]
      refine grow_same (v := .bool false) ?_ rfl
      clear old dep ho hsz hb
      go_simp
    | 2, ho =>
      obtain rfl := Option.some.inj ho
      have o6 : a.tmps.getD 6 undef = .slice Aa n ca := (old 6 (by kernel_rfl)).trans (by simp [Array.getD_eq_getD_getElem?, hs, k3, k4, k6, k7, k8, k9, k10, k12, k49, ptr])
      have oe6 : a.tmps[6]?.getD undef = _ := (Array.getD_eq_getD_getElem? ..).symm.trans o6
      rw [if_pos (wanted_none rfl)]
      refine grow_same (v := .slice Aa n ca) ?_ rfl
      clear old dep ho hsz hb
      go_simp
    | 3, ho =>
      obtain rfl := Option.some.inj ho
      have d2 : a.tmps.getD 68 undef = .slice Aa n ca := dep 2 _ _ (by kernel_rfl) rfl rfl
      have e2 : a.tmps[68]?.getD undef = _ := (Array.getD_eq_getD_getElem? ..).symm.trans d2
      rw [if_pos (wanted_none rfl)]
      refine grow_enters (f := 18) (args := #[.slice Aa n ca]) ?_ (size_g REC7.out HOK.out HLN.out HL.out hb)
      clear old dep ho hsz hb
      go_simp
    | 4, ho =>
      obtain rfl := Option.some.inj ho
      have o13 : a.tmps.getD 13 undef = .pointer (some ⟨w6.heap.size, 0, none⟩) := (old 13 (by kernel_rfl)).trans (by simp [Array.getD_eq_getD_getElem?, hs, k3, k4, k6, k7, k8, k9, k10, k12, k49, ptr])
      have oe13 : a.tmps[13]?.getD undef = _ := (Array.getD_eq_getD_getElem? ..).symm.trans o13
      rw [if_pos (wanted_none rfl)]
      have g0 := (hb.cell (p := ⟨w6.heap.size, 0, none⟩) HLT.out).trans (RBC.out.blk.cell 0 _ rfl)
      have g1 := (hb.cell (p := ⟨w6.heap.size, 1, none⟩) HLT.out).trans (RBC.out.blk.cell 1 _ rfl)
      have g2 := (hb.cell (p := ⟨w6.heap.size, 2, none⟩) HLT.out).trans (RBC.out.blk.cell 2 _ rfl)
      have g3 := (hb.cell (p := ⟨w6.heap.size, 3, none⟩) HLT.out).trans (RBC.out.blk.cell 3 _ rfl)
      have g4 := (hb.cell (p := ⟨w6.heap.size, 4, none⟩) HLT.out).trans (RBC.out.blk.cell 4 _ rfl)
      have g5 := (hb.cell (p := ⟨w6.heap.size, 5, none⟩) HLT.out).trans (RBC.out.blk.cell 5 _ rfl)
      have g6 := (hb.cell (p := ⟨w6.heap.size, 6, none⟩) HLT.out).trans (RBC.out.blk.cell 6 _ rfl)
      have g7 := (hb.cell (p := ⟨w6.heap.size, 7, none⟩) HLT.out).trans (RBC.out.blk.cell 7 _ rfl)
      refine grow_same (v := .agg #[.int .i64 (r.k : Int), .int .i64 (r.t : Int), .int .i64 (r.p : Int), .int .i64 (r.s : Int), .string r.b, .string r.a, .string r.i, .slice A6 r.ds.length c6]) ?_ rfl
      clear old dep ho hsz hb
      go_simp
    | 5, ho =>
      obtain rfl := Option.some.inj ho
      have d4 : a.tmps.getD 70 undef = .agg #[.int .i64 (r.k : Int), .int .i64 (r.t : Int), .int .i64 (r.p : Int), .int .i64 (r.s : Int), .string r.b, .string r.a, .string r.i, .slice A6 r.ds.length c6] := dep 4 _ _ (by kernel_rfl) rfl rfl
      have e4 : a.tmps[70]?.getD undef = _ := (Array.getD_eq_getD_getElem? ..).symm.trans d4
      rw [if_pos (wanted_none rfl)]
      refine grow_enters (f := 19) (args := #[.agg #[.int .i64 (r.k : Int), .int .i64 (r.t : Int), .int .i64 (r.p : Int), .int .i64 (r.s : Int), .string r.b, .string r.a, .string r.i, .slice A6 r.ds.length c6]]) ?_ (enc_g RBC.out HO.out HFL.out hb)
      clear old dep ho hsz hb
      go_simp
    | 6, ho =>
      obtain rfl := Option.some.inj ho
      obtain ⟨A5, C5, d5, r5⟩ : ∃ A c, a.tmps.getD 71 undef = .slice A fl c ∧ Rd w2 (.slice A fl c) (u8s (r.frame)) := dep 5 _ _ (by kernel_rfl) rfl rfl
      have e5 : a.tmps[71]?.getD undef = _ := (Array.getD_eq_getD_getElem? ..).symm.trans d5
      rw [if_pos (wanted_none rfl)]
      refine grow_same (v := .int .i64 (fl : Int)) ?_ rfl
      clear old dep ho hsz hb r5
      go_simp
    | 7, ho =>
      obtain rfl := Option.some.inj ho
      have d3 : a.tmps.getD 69 undef = .int .i64 (L : Int) := dep 3 _ _ (by kernel_rfl) rfl rfl
      have e3 : a.tmps[69]?.getD undef = _ := (Array.getD_eq_getD_getElem? ..).symm.trans d3
      have d6 : a.tmps.getD 72 undef = .int .i64 (fl : Int) := dep 6 _ _ (by kernel_rfl) rfl rfl
      have e6 : a.tmps[72]?.getD undef = _ := (Array.getD_eq_getD_getElem? ..).symm.trans d6
      rw [if_pos (wanted_none rfl)]
      have hw := HW.out
      refine grow_same (v := .int .i64 (F : Int)) ?_ rfl
      clear old dep ho hsz hb
      go_simp
    | 8, ho =>
      obtain rfl := Option.some.inj ho
      have d7 : a.tmps.getD 73 undef = .int .i64 (F : Int) := dep 7 _ _ (by kernel_rfl) rfl rfl
      have e7 : a.tmps[73]?.getD undef = _ := (Array.getD_eq_getD_getElem? ..).symm.trans d7
      rw [if_pos (wanted_none rfl)]
      have hw := HLE.out
      have hw2 := HLE2.out
      refine grow_same (v := .bool false) ?_ rfl
      clear old dep ho hsz hb
      go_simp
    | 9, ho =>
      obtain rfl := Option.some.inj ho
      have d1 : a.tmps.getD 67 undef = .bool false := dep 1 _ _ (by kernel_rfl) rfl rfl
      have e1 : a.tmps[67]?.getD undef = _ := (Array.getD_eq_getD_getElem? ..).symm.trans d1
      have d8 : a.tmps.getD 74 undef = .bool false := dep 8 _ _ (by kernel_rfl) rfl rfl
      have e8 : a.tmps[74]?.getD undef = _ := (Array.getD_eq_getD_getElem? ..).symm.trans d8
      rw [if_pos (wanted_none rfl)]
      refine grow_same (v := .bool false) ?_ rfl
      clear old dep ho hsz hb
      go_simp
    | i + 10, ho => exact absurd ho (by simp)
  · intro a w8 hb hsz hdf fin keep
    have kptm2 : Keeps SSW tm a.tmps := Keeps.region hsz keep (by kernel_rfl) (by dsimp only; repeat (first | (with_reducible exact Keeps.refl _ _) | ((with_reducible refine Keeps.put ?_ ?_ _); rfl)))
    have hstm2 : a.tmps.size = 247 := hsz.trans (by simp [hs, k3, k4, k6, k7, k8, k9, k10, k12, k49, ptr])
    have vtm2_4 : a.tmps[4]? = some (.pointer (some ⟨gx, 0, none⟩)) := slot_get ((keep 4 (by kernel_rfl)).trans (by simp [Array.getD_eq_getD_getElem?, hs, k3, k4, k6, k7, k8, k9, k10, k12, k49, ptr])) (by omega)
    have vtm2_6 : a.tmps[6]? = some (.slice Aa n ca) := slot_get ((keep 6 (by kernel_rfl)).trans (by simp [Array.getD_eq_getD_getElem?, hs, k3, k4, k6, k7, k8, k9, k10, k12, k49, ptr])) (by omega)
    have vtm2_7 : a.tmps[7]? = some (.int .i64 (s : Int)) := slot_get ((keep 7 (by kernel_rfl)).trans (by simp [Array.getD_eq_getD_getElem?, hs, k3, k4, k6, k7, k8, k9, k10, k12, k49, ptr])) (by omega)
    have vtm2_8 : a.tmps[8]? = some (ov) := slot_get ((keep 8 (by kernel_rfl)).trans (by simp [Array.getD_eq_getD_getElem?, hs, k3, k4, k6, k7, k8, k9, k10, k12, k49, ptr])) (by omega)
    have vtm2_9 : a.tmps[9]? = some (.bool false) := slot_get ((keep 9 (by kernel_rfl)).trans (by simp [Array.getD_eq_getD_getElem?, hs, k3, k4, k6, k7, k8, k9, k10, k12, k49, ptr])) (by omega)
    have vtm2_10 : a.tmps[10]? = some (.bool false) := slot_get ((keep 10 (by kernel_rfl)).trans (by simp [Array.getD_eq_getD_getElem?, hs, k3, k4, k6, k7, k8, k9, k10, k12, k49, ptr])) (by omega)
    have vtm2_13 : a.tmps[13]? = some (.pointer (some ⟨w6.heap.size, 0, none⟩)) := slot_get ((keep 13 (by kernel_rfl)).trans (by simp [Array.getD_eq_getD_getElem?, hs, k3, k4, k6, k7, k8, k9, k10, k12, k49, ptr])) (by omega)
    have vtm2_15 : a.tmps[15]? = some (.int .i64 7) := slot_get ((keep 15 (by kernel_rfl)).trans (by simp [Array.getD_eq_getD_getElem?, hs, k3, k4, k6, k7, k8, k9, k10, k12, k49, ptr])) (by omega)
    have vtm2_75 : a.tmps[75]? = some (.bool false) := slot_get (fin 9 _ _ rfl rfl) (by omega)
    obtain ⟨tm2, df⟩ := a
    dsimp only at hdf hsz kptm2 hstm2 vtm2_4 vtm2_6 vtm2_7 vtm2_8 vtm2_9 vtm2_10 vtm2_13 vtm2_15 vtm2_75
    subst hdf
    clear fin keep hsz
    have z4 := slot_at vtm2_4 (by omega)
    have z6 := slot_at vtm2_6 (by omega)
    have z7 := slot_at vtm2_7 (by omega)
    have z8 := slot_at vtm2_8 (by omega)
    have z9 := slot_at vtm2_9 (by omega)
    have z10 := slot_at vtm2_10 (by omega)
    have z13 := slot_at vtm2_13 (by omega)
    have z15 := slot_at vtm2_15 (by omega)
    have z75 := slot_at vtm2_75 (by omega)
    have B8 := hide hb
    clear hb
    go_upto_if 75 with fail
    refine wp_cond_false (by simp [Act.eval, hstm2, z75]) ?_
    go_upto_if 77 with fail
    refine wp_cond_false (by simp [Act.eval, hstm2, z4, z6, z7, z8, z9, z10, z13, z15, ptr]) ?_
    have hgn := H7.out.gens
    have hfw := H7.out.few
    go_wp2
    exact HK.out _ _ X7 gx gen _ all s false false ov none (by repeat (first | (with_reducible exact kptm2) | ((with_reducible refine Keeps.put ?_ ?_ _); rfl))) (by simp [hstm2, z4, z6, z7, z8, z9, z10, z13, z15, ptr]) (by simp [hstm2, z4, z6, z7, z8, z9, z10, z13, z15, ptr]) (by simp [hstm2, z4, z6, z7, z8, z9, z10, z13, z15, ptr]) (by simp [hstm2, z4, z6, z7, z8, z9, z10, z13, z15, ptr]) (by simp [hstm2, z4, z6, z7, z8, z9, z10, z13, z15, ptr]) (by simp [hstm2, z4, z6, z7, z8, z9, z10, z13, z15, ptr]) ((H7.out.step (O7.out.trans (Out.of_below B8.out)) (fun _ h => h) (V7.out.below B8.out) (by omega) (by omega) (by omega) (REC7.out.below B8.out)).af ov)
end Go.Proofs.Ytlmoiepbnnfebaa
