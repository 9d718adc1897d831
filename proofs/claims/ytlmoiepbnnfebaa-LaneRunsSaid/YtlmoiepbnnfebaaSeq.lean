/-
  Seeds, sizes, beginnings: what the statements of stage 7 make of records in slices.
-/
import Derived.Test.YtlmoiepbnnfebaaFit
import Derived.WalkKit
namespace Go.Proofs.Ytlmoiepbnnfebaa
open Go.RowKit
set_option maxRecDepth 20000
set_option linter.unusedSimpArgs false
set_option linter.unusedVariables false

/-- Record of a seed. -/
theorem seed_in (x : SeedD) (A : Option Addr) (n c : Nat) (w : World) (hn : x.ds.length = n) {r : Rc} (hr : seedR x = r) (hv : Rd w (.slice A n c) (u64s x.ds)) :
    Calls Try.prog 16 #[.agg #[.int .i64 x.k, .int .i64 x.t, .int .i64 x.p, .int .i64 x.s, .int .u8 (x.b.toNat : Int), .int .u8 (x.a.toNat : Int), .int .u8 (x.i.toNat : Int), .slice A n c]] w fun e w' => ∃ (A : Option Addr) (c : Nat), e = .returned (.agg #[.int .i64 (r.k : Int), .int .i64 (r.t : Int), .int .i64 (r.p : Int), .int .i64 (r.s : Int), .string r.b, .string r.a, .string r.i, .slice A r.ds.length c]) ∧ RIn w' (fun k => w.heap.size ≤ k ∧ k < w'.heap.size) (.slice A r.ds.length c) (u64s r.ds) ∧ Below w.heap.size w w' := by
  subst hr
  refine (seed_any x A n c w hn hv).mono ?_
  rintro e w' ⟨A, c, rfl, h1, h2⟩
  exact ⟨A, c, rfl, RIn.of_btw h1 (Nat.le_refl _), h2⟩
theorem same_told {w : World} {r q : Rc} {A B : Option Addr} {c d : Nat} {sb : Bool} (h : r.Ok) (hv : Rd w (.slice A r.ds.length c) (u64s r.ds)) (hu : Rd w (.slice B q.ds.length d) (u64s q.ds)) (hs : sameB r q = sb) :
    Calls Try.prog 32 #[.agg #[.int .i64 (r.k : Int), .int .i64 (r.t : Int), .int .i64 (r.p : Int), .int .i64 (r.s : Int), .string r.b, .string r.a, .string r.i, .slice A r.ds.length c], .agg #[.int .i64 (q.k : Int), .int .i64 (q.t : Int), .int .i64 (q.p : Int), .int .i64 (q.s : Int), .string q.b, .string q.a, .string q.i, .slice B q.ds.length d]] w fun e w' => ∃ v, e = .returned v ∧ (Say.is (.bool sb)).p w' v ∧ Below w.heap.size w w' := by
  subst hs
  exact same_grow w h hv hu
/-- What starts says. -/
noncomputable def startsB (al bs : List Rc) : Bool := @decide (al.length ≤ bs.length ∧ al = bs.take al.length) (Classical.propDecidable _)
theorem startsB_iff {al bs : List Rc} : startsB al bs = true ↔ al.length ≤ bs.length ∧ al = bs.take al.length := @decide_eq_true_iff _ (Classical.propDecidable _)
theorem startsB_no {al bs : List Rc} (h : ¬ (al.length ≤ bs.length ∧ al = bs.take al.length)) : startsB al bs = false := Bool.eq_false_iff.2 fun e => h (startsB_iff.1 e)
set_option maxHeartbeats 8000000 in
theorem starts_any {w : World} {X Z : Nat → Prop} {v u : Value} {gen : Nat} {al bs : List Rc} (hv : EntsAt w X v gen al) (hu : RecsAt w Z u bs) (ha : ∀ r ∈ al, r.Ok) (hl : al.length ≤ 100000) :
    Calls Try.prog 24 #[v, u] w fun e w' => e = .returned (.bool (startsB al bs)) ∧ Below w.heap.size w w' := by
  obtain ⟨A, cap, rfl, _⟩ := hv.1.form
  obtain ⟨A2, cap2, rfl, _⟩ := hu.form
  have HV := hide hv
  have HU := hide hu
  have HA := hide ha
  clear hv hu ha
  go_enter Try.func24, Try.ntmps24
  by_cases hlen : al.length ≤ bs.length
  · have hlen' : ¬ (bs.length : Int) < (al.length : Int) := by omega
    go_wp2
    go_loopw [13] (fun i wr => ∃ j : Nat, j ≤ al.length ∧ i = .int .i64 j ∧ al.take j = bs.take j ∧ Below w.heap.size w wr) (fun i _ => al.length - (intOf i).toNat)
    case atStart => exact ⟨0, by omega, rfl, by simp, Below.refl _ _⟩
    case round =>
      obtain ⟨j, hj, rfl, heq, hb⟩ := hrel
      by_cases hlt : j < al.length
      · obtain ⟨ra, hra⟩ : ∃ r, al[j]? = some r := ⟨_, List.getElem?_eq_getElem hlt⟩
        obtain ⟨rb, hrb⟩ : ∃ r, bs[j]? = some r := ⟨_, List.getElem?_eq_getElem (by omega)⟩
        obtain ⟨b, o1, rfl, hba, _, Aa, ca, hrga, hda⟩ := (HV.out.1.below hb).get hra
        obtain ⟨b2, o2, rfl, hbb, _, Ab, cb, hrgb, hdb⟩ := (HU.out.below hb).get hrb
        have HRA := hide hrga
        have HRB := hide hrgb
        have HBA := hide hba
        have HBB := hide hbb
        have HDA := hide hda.rd
        have HDB := hide hdb.rd
        have XIC := hide infoRec
        have HOA := hide (HA.out ra (List.mem_of_getElem? hra))
        have HJ0 := hide (show (0 : Int) ≤ (j : Int) by omega)
        have HJ1 := hide (show (j : Int) < (al.length : Int) by omega)
        have HJ2 := hide (show (j : Int) < (bs.length : Int) by omega)
        have hlt' : (j : Int) < (al.length : Int) := by omega
        obtain ⟨sb, hsb⟩ : ∃ sb, sameB ra rb = sb := ⟨_, rfl⟩
        have HSB := hide hsb
        have HB := hide hb
        have HEQ := hide heq
        have hta : al.take (j + 1) = al.take j ++ [ra] := by obtain ⟨h1, h2⟩ := List.getElem?_eq_some_iff.1 hra; rw [List.take_succ_eq_append_getElem h1, h2]
        have htb : bs.take (j + 1) = bs.take j ++ [rb] := by obtain ⟨h1, h2⟩ := List.getElem?_eq_some_iff.1 hrb; rw [List.take_succ_eq_append_getElem h1, h2]
        have HTA := hide hta
        have HTB := hide htb
        have hll := hl
        clear hrga hrgb hba hbb hda hdb hsb hb heq hta htb
        go_upto_region 6 with fail
        refine region_grows [Say.is (.slice (some ⟨b, o1, none⟩) al.length cap), Say.is (.int .i64 (j : Int)), Say.is (.pointer (some ⟨b, o1 + j * 9, none⟩)), Say.is (.pointer (some ⟨b, o1 + j * 9, none⟩)), Say.is (.agg #[.int .i64 (ra.k : Int), .int .i64 (ra.t : Int), .int .i64 (ra.p : Int), .int .i64 (ra.s : Int), .string ra.b, .string ra.a, .string ra.i, .slice Aa ra.ds.length ca]), Say.is (.slice (some ⟨b2, o2, none⟩) bs.length cap2), Say.is (.int .i64 (j : Int)), Say.is (.pointer (some ⟨b2, o2 + j * 8, none⟩)), Say.is (.agg #[.int .i64 (rb.k : Int), .int .i64 (rb.t : Int), .int .i64 (rb.p : Int), .int .i64 (rb.s : Int), .string rb.b, .string rb.a, .string rb.i, .slice Ab rb.ds.length cb]), Say.is (.bool sb), Say.is (.bool (!sb))] (by kernel_rfl) (by kernel_rfl) (by kernel_rfl) (by kernel_rfl) ?_ ?_
        · intro i o ho a w2 hb hsz old dep
          match i, ho with
          | 0, ho =>
            obtain rfl := Option.some.inj ho
            have o0 : a.tmps.getD 0 undef = _ := old 0 (by kernel_rfl)
            rw [if_pos (wanted_none rfl)]
            refine grow_same (v := .slice (some ⟨b, o1, none⟩) al.length cap) ?_ rfl
            clear old dep ho hsz hb
            go_simp
          | 1, ho =>
            obtain rfl := Option.some.inj ho
            have o5 : a.tmps.getD 5 undef = _ := old 5 (by kernel_rfl)
            rw [if_pos (wanted_none rfl)]
            refine grow_same (v := .int .i64 (j : Int)) ?_ rfl
            clear old dep ho hsz hb
            go_simp
          | 2, ho =>
            obtain rfl := Option.some.inj ho
            have d0 : a.tmps.getD 16 undef = .slice (some ⟨b, o1, none⟩) al.length cap := dep 0 _ _ (by kernel_rfl) rfl rfl
            have e0 : a.tmps[16]?.getD undef = _ := (Array.getD_eq_getD_getElem? ..).symm.trans d0
            have d1 : a.tmps.getD 17 undef = .int .i64 (j : Int) := dep 1 _ _ (by kernel_rfl) rfl rfl
            have e1 : a.tmps[17]?.getD undef = _ := (Array.getD_eq_getD_getElem? ..).symm.trans d1
            rw [if_pos (wanted_none rfl)]
            have j0 := HJ0.out
            have j1 := HJ1.out
            refine grow_same (v := .pointer (some ⟨b, o1 + j * 9, none⟩)) ?_ rfl
            clear old dep ho hsz hb
            go_simp
          | 3, ho =>
            obtain rfl := Option.some.inj ho
            have d2 : a.tmps.getD 18 undef = .pointer (some ⟨b, o1 + j * 9, none⟩) := dep 2 _ _ (by kernel_rfl) rfl rfl
            have e2 : a.tmps[18]?.getD undef = _ := (Array.getD_eq_getD_getElem? ..).symm.trans d2
            rw [if_pos (wanted_none rfl)]
            refine grow_same (v := .pointer (some ⟨b, o1 + j * 9, none⟩)) ?_ rfl
            clear old dep ho hsz hb
            go_simp
          | 4, ho =>
            obtain rfl := Option.some.inj ho
            have d3 : a.tmps.getD 19 undef = .pointer (some ⟨b, o1 + j * 9, none⟩) := dep 3 _ _ (by kernel_rfl) rfl rfl
            have e3 : a.tmps[19]?.getD undef = _ := (Array.getD_eq_getD_getElem? ..).symm.trans d3
            rw [if_pos (wanted_none rfl)]
            refine wp_load_mid 33 _ rfl b (o1 + j * 9) d3 [.int .i64 (ra.k : Int), .int .i64 (ra.t : Int), .int .i64 (ra.p : Int), .int .i64 (ra.s : Int), .string ra.b, .string ra.a, .string ra.i, .slice Aa ra.ds.length ca] _ (rangeAt_keep HRA.out (fun p hp => hb.cell (by rw [hp]; exact HBA.out))) Try.underlying33 rfl XIC.out ⟨_, rfl, rfl, Below.refl _ _⟩
          | 5, ho =>
            obtain rfl := Option.some.inj ho
            have o1 : a.tmps.getD 1 undef = _ := old 1 (by kernel_rfl)
            rw [if_pos (wanted_none rfl)]
            refine grow_same (v := .slice (some ⟨b2, o2, none⟩) bs.length cap2) ?_ rfl
            clear old dep ho hsz hb
            go_simp
          | 6, ho =>
            obtain rfl := Option.some.inj ho
            have o5 : a.tmps.getD 5 undef = _ := old 5 (by kernel_rfl)
            rw [if_pos (wanted_none rfl)]
            refine grow_same (v := .int .i64 (j : Int)) ?_ rfl
            clear old dep ho hsz hb
            go_simp
          | 7, ho =>
            obtain rfl := Option.some.inj ho
            have d5 : a.tmps.getD 21 undef = .slice (some ⟨b2, o2, none⟩) bs.length cap2 := dep 5 _ _ (by kernel_rfl) rfl rfl
            have e5 : a.tmps[21]?.getD undef = _ := (Array.getD_eq_getD_getElem? ..).symm.trans d5
            have d6 : a.tmps.getD 22 undef = .int .i64 (j : Int) := dep 6 _ _ (by kernel_rfl) rfl rfl
            have e6 : a.tmps[22]?.getD undef = _ := (Array.getD_eq_getD_getElem? ..).symm.trans d6
            rw [if_pos (wanted_none rfl)]
            have j0 := HJ0.out
            have j2 := HJ2.out
            refine grow_same (v := .pointer (some ⟨b2, o2 + j * 8, none⟩)) ?_ rfl
            clear old dep ho hsz hb
            go_simp
          | 8, ho =>
            obtain rfl := Option.some.inj ho
            have d7 : a.tmps.getD 23 undef = .pointer (some ⟨b2, o2 + j * 8, none⟩) := dep 7 _ _ (by kernel_rfl) rfl rfl
            have e7 : a.tmps[23]?.getD undef = _ := (Array.getD_eq_getD_getElem? ..).symm.trans d7
            rw [if_pos (wanted_none rfl)]
            refine wp_load_mid 33 _ rfl b2 (o2 + j * 8) d7 [.int .i64 (rb.k : Int), .int .i64 (rb.t : Int), .int .i64 (rb.p : Int), .int .i64 (rb.s : Int), .string rb.b, .string rb.a, .string rb.i, .slice Ab rb.ds.length cb] _ (rangeAt_keep HRB.out (fun p hp => hb.cell (by rw [hp]; exact HBB.out))) Try.underlying33 rfl XIC.out ⟨_, rfl, rfl, Below.refl _ _⟩
          | 9, ho =>
            obtain rfl := Option.some.inj ho
            have d4 : a.tmps.getD 20 undef = .agg #[.int .i64 (ra.k : Int), .int .i64 (ra.t : Int), .int .i64 (ra.p : Int), .int .i64 (ra.s : Int), .string ra.b, .string ra.a, .string ra.i, .slice Aa ra.ds.length ca] := dep 4 _ _ (by kernel_rfl) rfl rfl
            have e4 : a.tmps[20]?.getD undef = _ := (Array.getD_eq_getD_getElem? ..).symm.trans d4
            have d8 : a.tmps.getD 24 undef = .agg #[.int .i64 (rb.k : Int), .int .i64 (rb.t : Int), .int .i64 (rb.p : Int), .int .i64 (rb.s : Int), .string rb.b, .string rb.a, .string rb.i, .slice Ab rb.ds.length cb] := dep 8 _ _ (by kernel_rfl) rfl rfl
            have e8 : a.tmps[24]?.getD undef = _ := (Array.getD_eq_getD_getElem? ..).symm.trans d8
            rw [if_pos (wanted_none rfl)]
            refine grow_enters (f := 32) (args := #[.agg #[.int .i64 (ra.k : Int), .int .i64 (ra.t : Int), .int .i64 (ra.p : Int), .int .i64 (ra.s : Int), .string ra.b, .string ra.a, .string ra.i, .slice Aa ra.ds.length ca], .agg #[.int .i64 (rb.k : Int), .int .i64 (rb.t : Int), .int .i64 (rb.p : Int), .int .i64 (rb.s : Int), .string rb.b, .string rb.a, .string rb.i, .slice Ab rb.ds.length cb]]) ?_ (same_told HOA.out (HDA.out.below hb) (HDB.out.below hb) HSB.out)
            clear old dep ho hsz hb
            go_simp
          | 10, ho =>
            obtain rfl := Option.some.inj ho
            have d9 : a.tmps.getD 25 undef = .bool sb := dep 9 _ _ (by kernel_rfl) rfl rfl
            have e9 : a.tmps[25]?.getD undef = _ := (Array.getD_eq_getD_getElem? ..).symm.trans d9
            rw [if_pos (wanted_none rfl)]
            refine grow_same (v := .bool (!sb)) ?_ rfl
            clear old dep ho hsz hb
            go_simp
            try (cases sb <;> rfl)
          | i + 11, ho => exact absurd ho (by simp)
        · intro a w2 hb hsz hdf fin keep
          obtain ⟨tm, df⟩ := a
          have hx := frame_of [16, 17, 18, 19, 20, 21, 22, 23, 24, 25, 26] (by kernel_rfl) hsz keep
          dsimp only at hdf hx
          simp only [List.foldl_cons, List.foldl_nil] at hx
          subst hdf
          clear hsz keep
          have kn : tm.getD 16 undef = .slice (some ⟨b, o1, none⟩) al.length cap := fin 0 _ _ rfl rfl
          rw [kn] at hx
          clear kn
          have kn : tm.getD 17 undef = .int .i64 (j : Int) := fin 1 _ _ rfl rfl
          rw [kn] at hx
          clear kn
          have kn : tm.getD 18 undef = .pointer (some ⟨b, o1 + j * 9, none⟩) := fin 2 _ _ rfl rfl
          rw [kn] at hx
          clear kn
          have kn : tm.getD 19 undef = .pointer (some ⟨b, o1 + j * 9, none⟩) := fin 3 _ _ rfl rfl
          rw [kn] at hx
          clear kn
          have kn : tm.getD 20 undef = .agg #[.int .i64 (ra.k : Int), .int .i64 (ra.t : Int), .int .i64 (ra.p : Int), .int .i64 (ra.s : Int), .string ra.b, .string ra.a, .string ra.i, .slice Aa ra.ds.length ca] := fin 4 _ _ rfl rfl
          rw [kn] at hx
          clear kn
          have kn : tm.getD 21 undef = .slice (some ⟨b2, o2, none⟩) bs.length cap2 := fin 5 _ _ rfl rfl
          rw [kn] at hx
          clear kn
          have kn : tm.getD 22 undef = .int .i64 (j : Int) := fin 6 _ _ rfl rfl
          rw [kn] at hx
          clear kn
          have kn : tm.getD 23 undef = .pointer (some ⟨b2, o2 + j * 8, none⟩) := fin 7 _ _ rfl rfl
          rw [kn] at hx
          clear kn
          have kn : tm.getD 24 undef = .agg #[.int .i64 (rb.k : Int), .int .i64 (rb.t : Int), .int .i64 (rb.p : Int), .int .i64 (rb.s : Int), .string rb.b, .string rb.a, .string rb.i, .slice Ab rb.ds.length cb] := fin 8 _ _ rfl rfl
          rw [kn] at hx
          clear kn
          have kn : tm.getD 25 undef = .bool sb := fin 9 _ _ rfl rfl
          rw [kn] at hx
          clear kn
          have kn : tm.getD 26 undef = .bool (!sb) := fin 10 _ _ rfl rfl
          rw [kn] at hx
          clear kn
          clear fin
          simp only [List.setIfInBounds_toArray, List.set_cons_succ, List.set_cons_zero] at hx
          subst hx
          have HB2 := hide (HB.out.trans (hb.mono HB.out.size))
          clear hb
          cases sb
          · have hno : startsB al bs = false := by
              refine startsB_no fun ee => ?_
              have e2 : al[j]? = bs[j]? := by
                rw [ee.2, List.getElem?_take, if_pos hlt]
              rw [hra, hrb] at e2
              have := HSB.out
              rw [Option.some.inj e2, same_self] at this
              cases this
            have HNO := hide hno
            clear hno
            go_wp2
            go_ret
            rw [HNO.out]
            exact ⟨rfl, HB2.out⟩
          · have he : ra = rb := (sameB_iff _ _).1 HSB.out
            go_wp2
            go_roundw
            case rel => exact ⟨j + 1, by omega, by go_num, by rw [HTA.out, HTB.out, HEQ.out, he], HB2.out⟩
            case measure => simp [intOf]; omega
      · obtain rfl : j = al.length := by omega
        rw [List.take_length] at heq
        have hyes : startsB al bs = true := startsB_iff.2 ⟨hlen, heq⟩
        have HY := hide hyes
        clear hyes heq
        go_wp2
        go_ret
        rw [HY.out]
        exact ⟨rfl, hb⟩
  · have hlen' : (bs.length : Int) < (al.length : Int) := by omega
    have hno : startsB al bs = false := startsB_no fun ee => hlen ee.1
    have HNO := hide hno
    clear hno
    go_wp2
    go_ret
    rw [HNO.out]
    exact ⟨rfl, Below.refl _ _⟩
end Go.Proofs.Ytlmoiepbnnfebaa
