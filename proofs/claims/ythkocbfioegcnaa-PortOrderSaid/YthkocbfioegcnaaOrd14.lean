/-
  PortOrder' walk.
-/
import Derived.Test.YthkocbfioegcnaaFr14
import Derived.Test.YthkocbfioegcnaaRecsW
namespace Go.Proofs.Ythkocbfioegcnaa
open Go.RowKit
set_option maxRecDepth 20000
set_option linter.unusedSimpArgs false
set_option linter.unusedVariables false

abbrev RwOkS (x : Rw) : Prop := (Lit.int .i64 x.t).wf = true ∧ x.k.size ≤ 140737488351232 ∧ x.v.size ≤ 140737488351232
abbrev RwRowS (w : World) (B : Nat) (v : Value) (rs : List Rw) : Prop := RecRow 3 rwC RwOkS w B v rs
section
open Go.ChangeShapes Go.WideShapes Go.ChangeAt Go.RowKit Go.Deep
variable {H : Type} {enc : TypeId × Value → H} {w : World} {B base b0 fuel : Nat} {spare : Nat → Bool} {held : Bool} {r : Reach} {v : Value} {d : DataW H} {ps : List MemPlace} {cs : List Value} {z : DataW H × List MemPlace}
theorem rd_rw_s (h : DataW.trod enc Try.prog w base spare held fuel 32 cs = some z) (hwt : ∀ n ∈ z.1.weights Try.prog 32, n ≤ reachBytes) : ∃ x : Rw, cs = rwC x ∧ RwOkS x := by
  have he := Try.underlying32
  obtain ⟨xs, n', _, hy, hlen, hxl, hfl⟩ := DataW.trod_struct he h
  have hC : Try.prog.cellsOf 32 = 3 := by kernel_rfl
  have hi : Try.prog.cellsOf 3 = 1 := by kernel_rfl
  have hs : Try.prog.cellsOf 9 = 1 := by kernel_rfl
  rw [hC] at hlen
  match cs, hlen with
  | [c0, c1, c2], _ =>
    match xs, hxl with
    | [y0, y1, y2], _ =>
      have g0 : DataW.trod enc Try.prog w base spare held n' 3 [c0] = some y0 := by simpa [hi, hs] using hfl 0 _ rfl
      have g1 : DataW.trod enc Try.prog w base spare held n' 9 [c1] = some y1 := by simpa [hi, hs] using hfl 1 _ rfl
      have g2 : DataW.trod enc Try.prog w base spare held n' 9 [c2] = some y2 := by simpa [hi, hs] using hfl 2 _ rfl
      obtain ⟨z0, e0, _, w0⟩ := DataW.trod_int Try.underlying3 g0
      obtain ⟨z1, e1, y1e, _⟩ := DataW.trod_string Try.underlying9 g1
      obtain ⟨z2, e2, y2e, _⟩ := DataW.trod_string Try.underlying9 g2
      have hwk : z1.size ≤ 140737488351232 := hwt z1.size (by
        subst hy y1e y2e
        simp [DataW.weights, DataW.weightsEach, he])
      have hwv : z2.size ≤ 140737488351232 := hwt z2.size (by
        subst hy y1e y2e
        simp [DataW.weights, DataW.weightsEach, he])
      injection e0 with e0
      injection e1 with e1
      injection e2 with e2
      subst e0 e1 e2
      exact ⟨⟨z0, z1, z2⟩, rfl, w0, hwk, hwv⟩
theorem open_rwsw (hval : Value.okWide Try.prog w r b0 22 v) (hd : DataW.Trod enc Try.prog w base spare held 22 v d ps) (hlt : ∀ x ∈ ps, x.block < B) (hwt : ∀ n ∈ d.weights Try.prog 22, n ≤ reachBytes) : ∃ rs : List Rw, RwRowS w B v rs :=
  open_recs_w 3 rwC RwOkS Try.underlying22 (by kernel_rfl) (by decide) (fun x => rfl) (fun fuel cs z h hw => rd_rw_s h hw) hval hd hlt hwt
end
theorem rows_of_s {w : World} {B : Nat} {v : Value} {l : List Rw} (h : RwRowS w B v l) : RwRow w B v l ∧ ∀ x ∈ l, x.k.size ≤ 140737488351232 ∧ x.v.size ≤ 140737488351232 := ⟨⟨h.1, fun x hx => (h.2 x hx).1⟩, fun x hx => (h.2 x hx).2⟩
theorem light_small {l : List Rw} (h : lightR l = true) (hs : ∀ x ∈ l, x.k.size ≤ 140737488351232 ∧ x.v.size ≤ 140737488351232) : ∀ x ∈ l, x.k.size ≤ 1000 ∧ x.v.size ≤ 1000 := fun x hx => by
  have h1 := of_decide_eq_false ((lightR_iff.1 h).2 x hx)
  have h2 := hs x hx
  unfold wrap64 at h1
  omega
/-- Rows that rise, few of them. -/
def sayRis : Say := ⟨fun w v => ∃ A c r, v = .slice A r.length c ∧ Ris r ∧ r.length ≤ 30 ∧ Rws w (.slice A r.length c) r, fun w w' v h hb => by
  obtain ⟨A, c, r, e, h1, h2, h3⟩ := h
  exact ⟨A, c, r, e, h1, h2, h3.below hb⟩⟩
/-- A text, not long. -/
def sayT : Say := ⟨fun w v => ∃ A c t, v = .slice A t.length c ∧ t.length ≤ 100000 ∧ Rd w (.slice A t.length c) (u8s t), fun w w' v h hb => by
  obtain ⟨A, c, t, e, h1, h2⟩ := h
  exact ⟨A, c, t, e, h1, h2.below hb⟩⟩
/-- Three of them. -/
structure Tx3 (w : World) (g : Nat) (vs : List Value) : Prop where
  three : vs.length = 3
  blk : Blk w g 26 vs.toArray
  txt : ∀ v ∈ vs, sayT.p w v
theorem Tx3.below {w w' : World} {g : Nat} {vs : List Value} (h : Tx3 w g vs) (hb : Below w.heap.size w w') : Tx3 w' g vs := ⟨h.three, h.blk.below hb, fun v hv => sayT.st _ _ _ (h.txt v hv) hb⟩
def say3 : Say := ⟨fun w v => ∃ g vs, v = .slice (some ⟨g, 0, none⟩) 3 3 ∧ Tx3 w g vs, fun w w' v h hb => by
  obtain ⟨g, vs, e, h⟩ := h
  exact ⟨g, vs, e, h.below hb⟩⟩
theorem ris_say {w : World} {v : Value} {l : List Rw} (hv : Rws w v l) (hl : l.length ≤ 60) : Calls Try.prog 13 #[v] w fun e w' => ∃ u, e = .returned u ∧ sayRis.p w' u ∧ Below w.heap.size w w' :=
  (ow_ris (Ow.start w) hv hl).mono fun _ _ ⟨A, c, r, e, h1, h2, h3⟩ => ⟨_, e, ⟨A, c, r, rfl, h1, h2, h3.rws (i := 0) rfl⟩, h3.bel⟩
theorem enc_say {w : World} {v : Value} {l : List Rw} (hv : Rws w v l) (hr : Ris l) (hn : l.length ≤ 30) : Calls Try.prog 14 #[v] w fun e w' => ∃ u, e = .returned u ∧ sayT.p w' u ∧ Below w.heap.size w w' :=
  (ow_penc (Ow.start w) hv hr hn).mono fun _ _ ⟨A, c, e, h3⟩ => ⟨_, e, ⟨A, c, _, rfl, by have := portL_few hr hn; omega, h3.rd8 (i := 0) rfl⟩, h3.bel⟩
theorem byt_say {w : World} {v : Value} {l : List Rw} (hv : Rws w v l) (hs : l.length < 65536 ∧ ∀ x ∈ l, x.k.size ≤ 1000 ∧ x.v.size ≤ 1000) (hp : (portL l).length ≤ 100000) : Calls Try.prog 16 #[v] w fun e w' => ∃ u, e = .returned u ∧ sayT.p w' u ∧ Below w.heap.size w w' :=
  (ow_pbytes (Ow.start w) hv hs).mono fun _ _ ⟨A, c, e, h3⟩ => ⟨_, e, ⟨A, c, _, rfl, hp, h3.rd8 (i := 0) rfl⟩, h3.bel⟩
theorem dec_ris {b : List UInt8} {m : List Rw} {z : Int} (h : DecR b m z) : Ris m := by
  cases h with
  | form _ => exact Ris.nil
  | quota _ _ _ => exact Ris.nil
  | ok _ h _ => exact h.ris
theorem dec_few {b : List UInt8} {m : List Rw} {z : Int} (h : DecR b m z) : m.length ≤ 30 := by
  cases h with
  | form _ => exact Nat.zero_le _
  | quota _ _ _ => exact Nat.zero_le _
  | ok _ _ h => exact h
theorem rws_low {w : World} {A : Option Addr} {n c k : Nat} {l : List Rw} (h : Rws w (.slice A n c) l) (hk : k ≤ l.length) : Rws w (.slice A k c) (l.take k) := by
  obtain ⟨A', c', e, h1⟩ := h
  injection e with e1 _ e3
  subst e1 e3
  have hl : (l.take k).length = k := by rw [List.length_take]; omega
  refine ⟨A, c, by rw [hl], fun hn => ?_⟩
  rw [hl] at hn
  obtain ⟨b, o, e, hb, hx, hr⟩ := h1 (by omega)
  refine ⟨b, o, e, hb, hx, fun j x hj i u hu => hr j x ?_ i u hu⟩
  rw [List.getElem?_take] at hj
  split at hj
  · exact hj
  · cases hj
set_option maxHeartbeats 8000000 in
theorem order_walk (v1 : Value) (mo : List UInt8) (v : Value) (l : List Rw) (w : World) (hm : Rd w v1 (u8s mo)) (hv : RwRowS w w.heap.size v l) : Calls Try.prog 10 #[v1, v] w fun e W' => e = .returned (.bool true) ∧ Below w.heap.size w W' := by
  obtain ⟨hv0, hsz⟩ := rows_of_s hv
  clear hv
  have hv := hv0
  clear hv0
  have HCC := hide (show ∀ A n c, v = .slice A n c → l.length ≤ c from fun A n c e => by
    obtain ⟨⟨A', c', e', hc, _⟩, _⟩ := hv
    rw [e'] at e
    injection e with _ _ e3
    rw [← e3]
    exact hc)
  obtain ⟨A, c, rfl⟩ := (Rws.of_in hv (Below.refl _ _)).form
  have HV := hide (fun W hb => Rws.of_in (w' := W) hv hb)
  clear hv
  have HCC : Hid (l.length ≤ c) := hide (HCC.out _ _ _ rfl)
  obtain ⟨AM, cM, rfl, _⟩ := id hm
  rw [u8s_length] at hm ⊢
  have HMO0 := hide (fun W (hb : Below w.heap.size w W) => Rd.below hm hb)
  clear hm
  by_cases hml : mo.length ≤ 500
  · have HM5 := hide hml
    have hm1 : ¬ (500 : Int) < (mo.length : Int) := by omega
    have hm2 : decide ((500 : Int) < (mo.length : Int)) = false := decide_eq_false hm1
    have hm3 : decide (500 < mo.length) = false := decide_eq_false (by omega)
    clear hml
    cases hL : lightR l
    · have HL := hide hL
      clear hL
      go_enter Try.func10, Try.ntmps10
      go_wp2_with (first
        | (go_at_call 11; (with_reducible refine (fit_any _).mono ?_); rintro e w0 ⟨rfl, hb⟩; have HB0 := hide hb; clear hb)
        | (go_at_call 12; (with_reducible refine (light_any (HV.out _ HB0.out)).mono ?_); rintro e w1 ⟨rfl, hb⟩; rw [HL.out]; have HB1 := hide (HB0.out.trans (hb.mono HB0.out.size)); clear hb))
      go_ret
      exact ⟨rfl, HB1.out⟩
    · have HL := hide hL
      have H60 := hide (lightR_iff.1 hL).1
      have HSM := hide (light_small hL hsz)
      have hl60 : (l.length : Int) ≤ 60 := by have := H60.out; omega
      clear hL
      go_enter Try.func10, Try.ntmps10
      go_upto_region 5 with (first
        | (go_at_call 11; (with_reducible refine (fit_any _).mono ?_); rintro e w0 ⟨rfl, hb⟩; have HB0 := hide hb; clear hb)
        | (go_at_call 12; (with_reducible refine (light_any (HV.out _ HB0.out)).mono ?_); rintro e w1 ⟨rfl, hb⟩; rw [HL.out]; have HB1 := hide (HB0.out.trans (hb.mono HB0.out.size)); clear hb))
      obtain ⟨m9, hm9, hm9l, hm99⟩ : ∃ m : Nat, min (l.length : Int) 9 = (m : Int) ∧ m ≤ l.length ∧ m ≤ 9 := ⟨min l.length 9, by omega, by omega, by omega⟩
      have HVW := hide (HV.out _ HB1.out)
      have HMC : Hid (m9 ≤ c) := hide (by have := HCC.out; omega)
      have HT9 : Hid (Rws w1 (.slice A m9 c) (l.take m9)) := hide (rws_low HVW.out (by omega))
      have HMO := hide (HMO0.out _ HB1.out)
      have HF9 : Hid ((l.take m9).length < 65536 ∧ ∀ x ∈ l.take m9, x.k.size ≤ 1000 ∧ x.v.size ≤ 1000) := hide ⟨by rw [List.length_take]; omega, fun x hx => HSM.out x (List.mem_of_mem_take hx)⟩
      have HP9 : Hid ((portL (l.take m9)).length ≤ 100000) := hide (by
        have h := rowsL_le (l := l.take m9) (m := 2000) (fun x hx => by have := HSM.out x (List.mem_of_mem_take hx); omega)
        rw [List.length_take] at h
        have : min m9 l.length * 2003 ≤ 9 * 2003 := Nat.mul_le_mul_right _ (by omega)
        rw [portL_length]
        omega)
      clear hm9l hm99
      generalize w1 = wq at *
      refine region_grows [Say.is (.slice AM mo.length cM), Say.is (.slice A l.length c), sayRis, sayT, Say.is (.slice A l.length c), Say.is (.slice A l.length c), Say.is (.int .i64 (l.length : Int)), Say.is (.int .i64 (m9 : Int)), Say.is (.slice A m9 c), sayT, say3, Say.is (.int .i64 3), Say.is (.int .i64 0)] (by kernel_rfl) (by kernel_rfl) (by kernel_rfl) (by kernel_rfl) ?_ ?_
      · intro i o ho a w2 hb hsz old dep
        match i, ho with
        | 0, ho =>
          obtain rfl := Option.some.inj ho
          have o0 : a.tmps.getD 0 undef = _ := old 0 (by kernel_rfl)
          rw [if_pos (wanted_none rfl)]
          refine grow_same (v := .slice AM mo.length cM) ?_ rfl
          clear old dep ho hsz hb
          go_simp
        | 1, ho =>
          obtain rfl := Option.some.inj ho
          have o1 : a.tmps.getD 1 undef = _ := old 1 (by kernel_rfl)
          rw [if_pos (wanted_none rfl)]
          refine grow_same (v := .slice A l.length c) ?_ rfl
          clear old dep ho hsz hb
          go_simp
        | 2, ho =>
          obtain rfl := Option.some.inj ho
          have d1 : a.tmps.getD 22 undef = .slice A l.length c := dep 1 _ _ (by kernel_rfl) rfl rfl
          have e1 : a.tmps[22]?.getD undef = _ := (Array.getD_eq_getD_getElem? ..).symm.trans d1
          rw [if_pos (wanted_none rfl)]
          refine grow_enters (f := 13) (args := #[.slice A l.length c]) ?_ (ris_say (HVW.out.below hb) H60.out)
          clear old dep ho hsz hb
          go_simp
        | 3, ho =>
          obtain rfl := Option.some.inj ho
          have s2 : (sayRis).p w2 (a.tmps.getD 23 undef) := dep 2 _ _ (by kernel_rfl) rfl rfl
          rw [if_pos (wanted_none rfl)]
          obtain ⟨A2, c2, r, e23, hris, h30, hrw⟩ := s2
          have q23 : a.tmps[23]?.getD undef = _ := (Array.getD_eq_getD_getElem? ..).symm.trans e23
          refine grow_enters (f := 14) (args := #[.slice A2 r.length c2]) ?_ (enc_say hrw hris h30)
          clear old dep ho hsz hb
          go_simp
        | 4, ho =>
          obtain rfl := Option.some.inj ho
          have o1 : a.tmps.getD 1 undef = _ := old 1 (by kernel_rfl)
          rw [if_pos (wanted_none rfl)]
          refine grow_same (v := .slice A l.length c) ?_ rfl
          clear old dep ho hsz hb
          go_simp
        | 5, ho =>
          obtain rfl := Option.some.inj ho
          have o1 : a.tmps.getD 1 undef = _ := old 1 (by kernel_rfl)
          rw [if_pos (wanted_none rfl)]
          refine grow_same (v := .slice A l.length c) ?_ rfl
          clear old dep ho hsz hb
          go_simp
        | 6, ho =>
          obtain rfl := Option.some.inj ho
          have d5 : a.tmps.getD 26 undef = .slice A l.length c := dep 5 _ _ (by kernel_rfl) rfl rfl
          have e5 : a.tmps[26]?.getD undef = _ := (Array.getD_eq_getD_getElem? ..).symm.trans d5
          rw [if_pos (wanted_none rfl)]
          refine grow_same (v := .int .i64 (l.length : Int)) ?_ rfl
          clear old dep ho hsz hb
          go_simp
        | 7, ho =>
          obtain rfl := Option.some.inj ho
          have d6 : a.tmps.getD 27 undef = .int .i64 (l.length : Int) := dep 6 _ _ (by kernel_rfl) rfl rfl
          have e6 : a.tmps[27]?.getD undef = _ := (Array.getD_eq_getD_getElem? ..).symm.trans d6
          rw [if_pos (wanted_none rfl)]
          refine grow_same (v := .int .i64 (m9 : Int)) ?_ rfl
          clear old dep ho hsz hb
          go_simp
        | 8, ho =>
          obtain rfl := Option.some.inj ho
          have d4 : a.tmps.getD 25 undef = .slice A l.length c := dep 4 _ _ (by kernel_rfl) rfl rfl
          have e4 : a.tmps[25]?.getD undef = _ := (Array.getD_eq_getD_getElem? ..).symm.trans d4
          have d7 : a.tmps.getD 28 undef = .int .i64 (m9 : Int) := dep 7 _ _ (by kernel_rfl) rfl rfl
          have e7 : a.tmps[28]?.getD undef = _ := (Array.getD_eq_getD_getElem? ..).symm.trans d7
          rw [if_pos (wanted_none rfl)]
          refine grow_same (v := .slice A m9 c) (exec_lowR (x := .tmp 25) (y := .tmp 28) m9 rfl d4 d7 HMC.out) rfl
        | 9, ho =>
          obtain rfl := Option.some.inj ho
          have d8 : a.tmps.getD 29 undef = .slice A m9 c := dep 8 _ _ (by kernel_rfl) rfl rfl
          have e8 : a.tmps[29]?.getD undef = _ := (Array.getD_eq_getD_getElem? ..).symm.trans d8
          rw [if_pos (wanted_none rfl)]
          refine grow_enters (f := 16) (args := #[.slice A m9 c]) ?_ (byt_say (HT9.out.below hb) HF9.out HP9.out)
          clear old dep ho hsz hb
          go_simp
        | 10, ho =>
          obtain rfl := Option.some.inj ho
          have d0 : a.tmps.getD 21 undef = .slice AM mo.length cM := dep 0 _ _ (by kernel_rfl) rfl rfl
          have e0 : a.tmps[21]?.getD undef = _ := (Array.getD_eq_getD_getElem? ..).symm.trans d0
          have s3 : (sayT).p w2 (a.tmps.getD 24 undef) := dep 3 _ _ (by kernel_rfl) rfl rfl
          have s9 : (sayT).p w2 (a.tmps.getD 30 undef) := dep 9 _ _ (by kernel_rfl) rfl rfl
          rw [if_pos (wanted_none rfl)]
          obtain ⟨B24, k24, t24, q24, hl24, hr24⟩ := s3
          have w24 : a.tmps[24]?.getD undef = _ := (Array.getD_eq_getD_getElem? ..).symm.trans q24
          obtain ⟨B30, k30, t30, q30, hl30, hr30⟩ := s9
          have w30 : a.tmps[30]?.getD undef = _ := (Array.getD_eq_getD_getElem? ..).symm.trans q30
          refine grow_yields (v := .slice (some ⟨w2.heap.size, 0, none⟩) 3 3) (w' := w2.alloc (.cells #[.slice AM mo.length cM, .slice B24 t24.length k24, .slice B30 t30.length k30] 26)) ?_ ⟨_, [.slice AM mo.length cM, .slice B24 t24.length k24, .slice B30 t30.length k30], rfl, rfl, heap_new w2 _, fun v hv => ?_⟩ ((Below.refl _ _).alloc (Nat.le_refl _) _)
          rotate_left
          · have hba : Below w2.heap.size w2 (w2.alloc (.cells #[.slice AM mo.length cM, .slice B24 t24.length k24, .slice B30 t30.length k30] 26)) := (Below.refl _ _).alloc (Nat.le_refl _) _
            simp only [List.mem_cons, List.not_mem_nil, or_false] at hv
            rcases hv with rfl | rfl | rfl
            · exact ⟨_, _, mo, rfl, by have := HM5.out; omega, (HMO.out.below hb).below hba⟩
            · exact ⟨_, _, t24, rfl, hl24, hr24.below hba⟩
            · exact ⟨_, _, t30, rfl, hl30, hr30.below hba⟩
          clear old dep ho hsz hb
          go_simp
        | 11, ho =>
          obtain rfl := Option.some.inj ho
          have s10 : (say3).p w2 (a.tmps.getD 31 undef) := dep 10 _ _ (by kernel_rfl) rfl rfl
          rw [if_pos (wanted_none rfl)]
          obtain ⟨g, vs, q31, hT⟩ := s10
          have w31 : a.tmps[31]?.getD undef = _ := (Array.getD_eq_getD_getElem? ..).symm.trans q31
          refine grow_same (v := .int .i64 3) ?_ rfl
          clear old dep ho hsz hb hT
          go_simp
        | 12, ho =>
          obtain rfl := Option.some.inj ho
          rw [if_pos (wanted_none rfl)]
          refine grow_same (v := .int .i64 0) ?_ rfl
          clear old dep ho hsz hb
          go_simp
        | i + 13, ho => exact absurd ho (by simp)
      · intro a w5 hb hsz hdf fin keep
        obtain ⟨tm, df⟩ := a
        have hx := frame_of [21, 22, 23, 24, 25, 26, 27, 28, 29, 30, 31, 32, 33] (by kernel_rfl) hsz keep
        dsimp only at hdf hx
        simp only [List.foldl_cons, List.foldl_nil] at hx
        subst hdf
        clear hsz keep
        have kn : tm.getD 21 undef = .slice AM mo.length cM := fin 0 _ _ rfl rfl
        rw [kn] at hx
        clear kn
        have kn : tm.getD 22 undef = .slice A l.length c := fin 1 _ _ rfl rfl
        rw [kn] at hx
        clear kn
        generalize tm.getD 23 undef = y23 at hx
        generalize tm.getD 24 undef = y24 at hx
        have kn : tm.getD 25 undef = .slice A l.length c := fin 4 _ _ rfl rfl
        rw [kn] at hx
        clear kn
        have kn : tm.getD 26 undef = .slice A l.length c := fin 5 _ _ rfl rfl
        rw [kn] at hx
        clear kn
        have kn : tm.getD 27 undef = .int .i64 (l.length : Int) := fin 6 _ _ rfl rfl
        rw [kn] at hx
        clear kn
        have kn : tm.getD 28 undef = .int .i64 (m9 : Int) := fin 7 _ _ rfl rfl
        rw [kn] at hx
        clear kn
        have kn : tm.getD 29 undef = .slice A m9 c := fin 8 _ _ rfl rfl
        rw [kn] at hx
        clear kn
        generalize tm.getD 30 undef = y30 at hx
        have S31 : (say3).p w5 (tm.getD 31 undef) := fin 10 _ _ rfl rfl
        generalize tm.getD 31 undef = y31 at hx S31
        have kn : tm.getD 32 undef = .int .i64 3 := fin 11 _ _ rfl rfl
        rw [kn] at hx
        clear kn
        have kn : tm.getD 33 undef = .int .i64 0 := fin 12 _ _ rfl rfl
        rw [kn] at hx
        clear kn
        clear fin
        simp only [List.setIfInBounds_toArray, List.set_cons_succ, List.set_cons_zero] at hx
        subst hx
        obtain ⟨g, vs, e31, hT⟩ := S31
        subst e31
        have HB5 := hide (HB1.out.trans (hb.mono HB1.out.size))
        have HT := hide hT
        clear hT hb hm9 HVW HT9 HMO HF9 HP9 HMC
        go_wp2
        go_loopw [33] (fun i wr => ∃ j : Nat, j ≤ 3 ∧ i = .int .i64 j ∧ Hid (Below w.heap.size w wr) ∧ Hid (Tx3 wr g vs)) (fun i _ => 3 - (intOf i).toNat)
        case atStart => exact ⟨0, by omega, rfl, HB5, HT⟩
        case round =>
          clear HB5 HT
          obtain ⟨j, hj, rfl, HBJ, HTJ⟩ := hrel
          by_cases hlt : j < 3
          · obtain ⟨vj, hvj⟩ : ∃ v, vs[j]? = some v := ⟨_, List.getElem?_eq_getElem (by rw [HTJ.out.three]; exact hlt)⟩
            have cj := HTJ.out.blk.cell j vj (by simpa using hvj)
            obtain ⟨Aj, kj, tj, rfl, htl, htr⟩ := HTJ.out.txt _ (List.mem_of_getElem? hvj)
            have q0 : (0 : Int) ≤ (j : Int) := by omega
            have q1 : (j : Int) < 3 := by omega
            have HLT := hide hlt
            have HTR := hide htr
            have HTL := hide htl
            clear hlt hvj htr htl
            go_upto_region 9 with (first
        | (go_at_call 15; (with_reducible refine (ow_pdec (Ow.start _) HTR.out HTL.out).mono ?_); rintro e w4 ⟨A4, c4, m, z, rfl, hd, hs⟩; have HD := hide hd; have HW4 := hide (hs.krow (i := 0) rfl); have HB4 := hide (HBJ.out.trans (hs.bel.mono HBJ.out.size)); have HT4 := hide (HTJ.out.below hs.bel); clear hd hs))
            have HRIS := hide (dec_ris HD.out)
            have HM30 := hide (dec_few HD.out)
            have hm30 : (m.length : Int) ≤ 30 := by have := HM30.out; omega
            clear HTR cj HTJ
            by_cases hz : z = 0
            · have f1 : (z != 0) = false := by rw [hz]; rfl
              have f2 : (z == 0) = true := by rw [hz]; rfl
              subst hz
              go_wp2
              go_loopw [51] (fun i wr => ∃ k : Nat, k ≤ m.length ∧ i = .int .i64 k ∧ Hid (Below w4.heap.size w4 wr)) (fun i _ => m.length - (intOf i).toNat)
              case atStart => exact ⟨0, by omega, rfl, hide (Below.refl _ _)⟩
              case round =>
                rename World => wi
                obtain ⟨k, hk, rfl, HB6i⟩ := hrel
                by_cases hkl : k < m.length
                · obtain ⟨x, hc⟩ : ∃ x, m[k]? = some x := ⟨_, List.getElem?_eq_getElem hkl⟩
                  obtain ⟨b4, o4, rfl, i0, i1, i2⟩ := (Rws.of_row HW4.out).at_ HB6i.out hc
                  have hx := okR_iff.1 (HRIS.out.ok x (List.mem_of_getElem? hc))
                  have d1 : decide (x.t < 0) = false := decide_eq_false (by omega)
                  have d2 : decide (3 < x.t) = false := decide_eq_false (by omega)
                  have d3 : decide (15 < (x.k.size : Int)) = false := decide_eq_false (by omega)
                  have d3n : decide (15 < x.k.size) = false := decide_eq_false (by omega)
                  have d4 : decide (21 < (x.v.size : Int)) = false := decide_eq_false (by omega)
                  have d4n : decide (21 < x.v.size) = false := decide_eq_false (by omega)
                  have q5 : (0 : Int) ≤ (k : Int) := by omega
                  have q6 : (k : Int) < (m.length : Int) := by omega
                  have HKL := hide hkl
                  have HC := hide hc
                  have S7 := hide ((Ow.start wi).box 32 #[.int .i64 x.t, .string x.k, .string x.v])
                  have HB6 := hide (HB6i.out.alloc HB6i.out.size (.cells #[.int .i64 x.t, .string x.k, .string x.v] 32))
                  clear hx hc
                  go_upto_region 14 with (fail)
                  generalize (wi.alloc (.cells #[.int .i64 x.t, .string x.k, .string x.v] 32)) = wb at *
                  generalize wi.heap.size = bx at *
                  have x0 := (S7.out.blk (i := 0) rfl).cell 0 _ rfl
                  have x1 := (S7.out.blk (i := 0) rfl).cell 1 _ rfl
                  have x2 := (S7.out.blk (i := 0) rfl).cell 2 _ rfl
                  have HBX := hide (S7.out.blk (i := 0) rfl).lt
                  clear i0 i1 i2
                  cases k with
                  | zero =>
                    refine region_grows [Say.is (.pointer (some ⟨bx, 0, none⟩)), Say.is (.int .i64 x.t), Say.is (.bool false), Say.is (.bool false), Say.is (.pointer (some ⟨bx, 0, none⟩)), Say.is (.int .i64 x.t), Say.is (.bool false), Say.is (.bool false), Say.is (.bool false), Say.is (.pointer (some ⟨bx, 1, none⟩)), Say.is (.string x.k), Say.is (.int .i64 (x.k.size : Int)), Say.is (.bool false), Say.is (.bool false), Say.is (.bool false), Say.is (.pointer (some ⟨bx, 2, none⟩)), Say.is (.string x.v), Say.is (.int .i64 (x.v.size : Int)), Say.is (.bool false), Say.is (.bool false), Say.is (.bool false), Say.is (.int .i64 0), Say.is (.bool false), Say.is (.bool false), Say.is (undef), Say.is (undef), Say.is (undef), Say.is (undef), Say.is (undef), Say.is (undef), Say.is (undef), Say.is (undef), Say.is (.bool false), Say.is (.bool false)] (by kernel_rfl) (by kernel_rfl) (by kernel_rfl) (by kernel_rfl) ?_ ?_
                    · intro i o ho a w2 hb hsz old dep
                      match i, ho with
                      | 0, ho =>
                        obtain rfl := Option.some.inj ho
                        have o10 : a.tmps.getD 10 undef = _ := old 10 (by kernel_rfl)
                        rw [if_pos (wanted_none rfl)]
                        refine grow_same (v := .pointer (some ⟨bx, 0, none⟩)) ?_ rfl
                        clear old dep ho hsz hb
                        go_simp
                      | 1, ho =>
                        obtain rfl := Option.some.inj ho
                        have d0 : a.tmps.getD 56 undef = .pointer (some ⟨bx, 0, none⟩) := dep 0 _ _ (by kernel_rfl) rfl rfl
                        have e0 : a.tmps[56]?.getD undef = _ := (Array.getD_eq_getD_getElem? ..).symm.trans d0
                        rw [if_pos (wanted_none rfl)]
                        have g0 := (hb.cell (p := ⟨bx, 0, none⟩) HBX.out).trans x0
                        refine grow_same (v := .int .i64 x.t) ?_ rfl
                        clear old dep ho hsz hb
                        go_simp
                      | 2, ho =>
                        obtain rfl := Option.some.inj ho
                        have d1 : a.tmps.getD 57 undef = .int .i64 x.t := dep 1 _ _ (by kernel_rfl) rfl rfl
                        have e1 : a.tmps[57]?.getD undef = _ := (Array.getD_eq_getD_getElem? ..).symm.trans d1
                        rw [if_pos (wanted_none rfl)]
                        refine grow_same (v := .bool false) ?_ rfl
                        clear old dep ho hsz hb
                        go_simp
                      | 3, ho =>
                        obtain rfl := Option.some.inj ho
                        have d2 : a.tmps.getD 58 undef = .bool false := dep 2 _ _ (by kernel_rfl) rfl rfl
                        have e2 : a.tmps[58]?.getD undef = _ := (Array.getD_eq_getD_getElem? ..).symm.trans d2
                        rw [if_pos (wanted_none rfl)]
                        refine grow_same (v := .bool false) ?_ rfl
                        clear old dep ho hsz hb
                        go_simp
                      | 4, ho =>
                        obtain rfl := Option.some.inj ho
                        have o10 : a.tmps.getD 10 undef = _ := old 10 (by kernel_rfl)
                        have d3 : a.tmps.getD 59 undef = .bool false := dep 3 _ _ (by kernel_rfl) rfl rfl
                        have e3 : a.tmps[59]?.getD undef = _ := (Array.getD_eq_getD_getElem? ..).symm.trans d3
                        rw [if_pos (wanted_some rfl rfl rfl (by rw [hsz]; exact of_decide_eq_true rfl) d3)]
                        refine grow_same (v := .pointer (some ⟨bx, 0, none⟩)) ?_ rfl
                        clear old dep ho hsz hb
                        go_simp
                      | 5, ho =>
                        obtain rfl := Option.some.inj ho
                        have d4 : a.tmps.getD 60 undef = .pointer (some ⟨bx, 0, none⟩) := dep 4 _ _ (by kernel_rfl) rfl rfl
                        have e4 : a.tmps[60]?.getD undef = _ := (Array.getD_eq_getD_getElem? ..).symm.trans d4
                        have d3 : a.tmps.getD 59 undef = .bool false := dep 3 _ _ (by kernel_rfl) rfl rfl
                        have e3 : a.tmps[59]?.getD undef = _ := (Array.getD_eq_getD_getElem? ..).symm.trans d3
                        rw [if_pos (wanted_some rfl rfl rfl (by rw [hsz]; exact of_decide_eq_true rfl) d3)]
                        have g0 := (hb.cell (p := ⟨bx, 0, none⟩) HBX.out).trans x0
                        refine grow_same (v := .int .i64 x.t) ?_ rfl
                        clear old dep ho hsz hb
                        go_simp
                      | 6, ho =>
                        obtain rfl := Option.some.inj ho
                        have d5 : a.tmps.getD 61 undef = .int .i64 x.t := dep 5 _ _ (by kernel_rfl) rfl rfl
                        have e5 : a.tmps[61]?.getD undef = _ := (Array.getD_eq_getD_getElem? ..).symm.trans d5
                        have d3 : a.tmps.getD 59 undef = .bool false := dep 3 _ _ (by kernel_rfl) rfl rfl
                        have e3 : a.tmps[59]?.getD undef = _ := (Array.getD_eq_getD_getElem? ..).symm.trans d3
                        rw [if_pos (wanted_some rfl rfl rfl (by rw [hsz]; exact of_decide_eq_true rfl) d3)]
                        refine grow_same (v := .bool false) ?_ rfl
                        clear old dep ho hsz hb
                        go_simp
                      | 7, ho =>
                        obtain rfl := Option.some.inj ho
                        have d3 : a.tmps.getD 59 undef = .bool false := dep 3 _ _ (by kernel_rfl) rfl rfl
                        have e3 : a.tmps[59]?.getD undef = _ := (Array.getD_eq_getD_getElem? ..).symm.trans d3
                        have d6 : a.tmps.getD 62 undef = .bool false := dep 6 _ _ (by kernel_rfl) rfl rfl
                        have e6 : a.tmps[62]?.getD undef = _ := (Array.getD_eq_getD_getElem? ..).symm.trans d6
                        rw [if_pos (wanted_none rfl)]
                        refine grow_same (v := .bool false) ?_ rfl
                        clear old dep ho hsz hb
                        go_simp
                      | 8, ho =>
                        obtain rfl := Option.some.inj ho
                        have d7 : a.tmps.getD 63 undef = .bool false := dep 7 _ _ (by kernel_rfl) rfl rfl
                        have e7 : a.tmps[63]?.getD undef = _ := (Array.getD_eq_getD_getElem? ..).symm.trans d7
                        rw [if_pos (wanted_none rfl)]
                        refine grow_same (v := .bool false) ?_ rfl
                        clear old dep ho hsz hb
                        go_simp
                      | 9, ho =>
                        obtain rfl := Option.some.inj ho
                        have o10 : a.tmps.getD 10 undef = _ := old 10 (by kernel_rfl)
                        have d8 : a.tmps.getD 64 undef = .bool false := dep 8 _ _ (by kernel_rfl) rfl rfl
                        have e8 : a.tmps[64]?.getD undef = _ := (Array.getD_eq_getD_getElem? ..).symm.trans d8
                        rw [if_pos (wanted_some rfl rfl rfl (by rw [hsz]; exact of_decide_eq_true rfl) d8)]
                        refine grow_same (v := .pointer (some ⟨bx, 1, none⟩)) ?_ rfl
                        clear old dep ho hsz hb
                        go_simp
                      | 10, ho =>
                        obtain rfl := Option.some.inj ho
                        have d9 : a.tmps.getD 65 undef = .pointer (some ⟨bx, 1, none⟩) := dep 9 _ _ (by kernel_rfl) rfl rfl
                        have e9 : a.tmps[65]?.getD undef = _ := (Array.getD_eq_getD_getElem? ..).symm.trans d9
                        have d8 : a.tmps.getD 64 undef = .bool false := dep 8 _ _ (by kernel_rfl) rfl rfl
                        have e8 : a.tmps[64]?.getD undef = _ := (Array.getD_eq_getD_getElem? ..).symm.trans d8
                        rw [if_pos (wanted_some rfl rfl rfl (by rw [hsz]; exact of_decide_eq_true rfl) d8)]
                        have g0 := (hb.cell (p := ⟨bx, 1, none⟩) HBX.out).trans x1
                        refine grow_same (v := .string x.k) ?_ rfl
                        clear old dep ho hsz hb
                        go_simp
                      | 11, ho =>
                        obtain rfl := Option.some.inj ho
                        have d10 : a.tmps.getD 66 undef = .string x.k := dep 10 _ _ (by kernel_rfl) rfl rfl
                        have e10 : a.tmps[66]?.getD undef = _ := (Array.getD_eq_getD_getElem? ..).symm.trans d10
                        have d8 : a.tmps.getD 64 undef = .bool false := dep 8 _ _ (by kernel_rfl) rfl rfl
                        have e8 : a.tmps[64]?.getD undef = _ := (Array.getD_eq_getD_getElem? ..).symm.trans d8
                        rw [if_pos (wanted_some rfl rfl rfl (by rw [hsz]; exact of_decide_eq_true rfl) d8)]
                        refine grow_same (v := .int .i64 (x.k.size : Int)) ?_ rfl
                        clear old dep ho hsz hb
                        go_simp
                      | 12, ho =>
                        obtain rfl := Option.some.inj ho
                        have d11 : a.tmps.getD 67 undef = .int .i64 (x.k.size : Int) := dep 11 _ _ (by kernel_rfl) rfl rfl
                        have e11 : a.tmps[67]?.getD undef = _ := (Array.getD_eq_getD_getElem? ..).symm.trans d11
                        have d8 : a.tmps.getD 64 undef = .bool false := dep 8 _ _ (by kernel_rfl) rfl rfl
                        have e8 : a.tmps[64]?.getD undef = _ := (Array.getD_eq_getD_getElem? ..).symm.trans d8
                        rw [if_pos (wanted_some rfl rfl rfl (by rw [hsz]; exact of_decide_eq_true rfl) d8)]
                        refine grow_same (v := .bool false) ?_ rfl
                        clear old dep ho hsz hb
                        go_simp
                      | 13, ho =>
                        obtain rfl := Option.some.inj ho
                        have d8 : a.tmps.getD 64 undef = .bool false := dep 8 _ _ (by kernel_rfl) rfl rfl
                        have e8 : a.tmps[64]?.getD undef = _ := (Array.getD_eq_getD_getElem? ..).symm.trans d8
                        have d12 : a.tmps.getD 68 undef = .bool false := dep 12 _ _ (by kernel_rfl) rfl rfl
                        have e12 : a.tmps[68]?.getD undef = _ := (Array.getD_eq_getD_getElem? ..).symm.trans d12
                        rw [if_pos (wanted_none rfl)]
                        refine grow_same (v := .bool false) ?_ rfl
                        clear old dep ho hsz hb
                        go_simp
                      | 14, ho =>
                        obtain rfl := Option.some.inj ho
                        have d13 : a.tmps.getD 69 undef = .bool false := dep 13 _ _ (by kernel_rfl) rfl rfl
                        have e13 : a.tmps[69]?.getD undef = _ := (Array.getD_eq_getD_getElem? ..).symm.trans d13
                        rw [if_pos (wanted_none rfl)]
                        refine grow_same (v := .bool false) ?_ rfl
                        clear old dep ho hsz hb
                        go_simp
                      | 15, ho =>
                        obtain rfl := Option.some.inj ho
                        have o10 : a.tmps.getD 10 undef = _ := old 10 (by kernel_rfl)
                        have d14 : a.tmps.getD 70 undef = .bool false := dep 14 _ _ (by kernel_rfl) rfl rfl
                        have e14 : a.tmps[70]?.getD undef = _ := (Array.getD_eq_getD_getElem? ..).symm.trans d14
                        rw [if_pos (wanted_some rfl rfl rfl (by rw [hsz]; exact of_decide_eq_true rfl) d14)]
                        refine grow_same (v := .pointer (some ⟨bx, 2, none⟩)) ?_ rfl
                        clear old dep ho hsz hb
                        go_simp
                      | 16, ho =>
                        obtain rfl := Option.some.inj ho
                        have d15 : a.tmps.getD 71 undef = .pointer (some ⟨bx, 2, none⟩) := dep 15 _ _ (by kernel_rfl) rfl rfl
                        have e15 : a.tmps[71]?.getD undef = _ := (Array.getD_eq_getD_getElem? ..).symm.trans d15
                        have d14 : a.tmps.getD 70 undef = .bool false := dep 14 _ _ (by kernel_rfl) rfl rfl
                        have e14 : a.tmps[70]?.getD undef = _ := (Array.getD_eq_getD_getElem? ..).symm.trans d14
                        rw [if_pos (wanted_some rfl rfl rfl (by rw [hsz]; exact of_decide_eq_true rfl) d14)]
                        have g0 := (hb.cell (p := ⟨bx, 2, none⟩) HBX.out).trans x2
                        refine grow_same (v := .string x.v) ?_ rfl
                        clear old dep ho hsz hb
                        go_simp
                      | 17, ho =>
                        obtain rfl := Option.some.inj ho
                        have d16 : a.tmps.getD 72 undef = .string x.v := dep 16 _ _ (by kernel_rfl) rfl rfl
                        have e16 : a.tmps[72]?.getD undef = _ := (Array.getD_eq_getD_getElem? ..).symm.trans d16
                        have d14 : a.tmps.getD 70 undef = .bool false := dep 14 _ _ (by kernel_rfl) rfl rfl
                        have e14 : a.tmps[70]?.getD undef = _ := (Array.getD_eq_getD_getElem? ..).symm.trans d14
                        rw [if_pos (wanted_some rfl rfl rfl (by rw [hsz]; exact of_decide_eq_true rfl) d14)]
                        refine grow_same (v := .int .i64 (x.v.size : Int)) ?_ rfl
                        clear old dep ho hsz hb
                        go_simp
                      | 18, ho =>
                        obtain rfl := Option.some.inj ho
                        have d17 : a.tmps.getD 73 undef = .int .i64 (x.v.size : Int) := dep 17 _ _ (by kernel_rfl) rfl rfl
                        have e17 : a.tmps[73]?.getD undef = _ := (Array.getD_eq_getD_getElem? ..).symm.trans d17
                        have d14 : a.tmps.getD 70 undef = .bool false := dep 14 _ _ (by kernel_rfl) rfl rfl
                        have e14 : a.tmps[70]?.getD undef = _ := (Array.getD_eq_getD_getElem? ..).symm.trans d14
                        rw [if_pos (wanted_some rfl rfl rfl (by rw [hsz]; exact of_decide_eq_true rfl) d14)]
                        refine grow_same (v := .bool false) ?_ rfl
                        clear old dep ho hsz hb
                        go_simp
                      | 19, ho =>
                        obtain rfl := Option.some.inj ho
                        have d14 : a.tmps.getD 70 undef = .bool false := dep 14 _ _ (by kernel_rfl) rfl rfl
                        have e14 : a.tmps[70]?.getD undef = _ := (Array.getD_eq_getD_getElem? ..).symm.trans d14
                        have d18 : a.tmps.getD 74 undef = .bool false := dep 18 _ _ (by kernel_rfl) rfl rfl
                        have e18 : a.tmps[74]?.getD undef = _ := (Array.getD_eq_getD_getElem? ..).symm.trans d18
                        rw [if_pos (wanted_none rfl)]
                        refine grow_same (v := .bool false) ?_ rfl
                        clear old dep ho hsz hb
                        go_simp
                      | 20, ho =>
                        obtain rfl := Option.some.inj ho
                        have d19 : a.tmps.getD 75 undef = .bool false := dep 19 _ _ (by kernel_rfl) rfl rfl
                        have e19 : a.tmps[75]?.getD undef = _ := (Array.getD_eq_getD_getElem? ..).symm.trans d19
                        rw [if_pos (wanted_none rfl)]
                        refine grow_same (v := .bool false) ?_ rfl
                        clear old dep ho hsz hb
                        go_simp
                      | 21, ho =>
                        obtain rfl := Option.some.inj ho
                        have o9 : a.tmps.getD 9 undef = _ := old 9 (by kernel_rfl)
                        have d20 : a.tmps.getD 76 undef = .bool false := dep 20 _ _ (by kernel_rfl) rfl rfl
                        have e20 : a.tmps[76]?.getD undef = _ := (Array.getD_eq_getD_getElem? ..).symm.trans d20
                        rw [if_pos (wanted_some rfl rfl rfl (by rw [hsz]; exact of_decide_eq_true rfl) d20)]
                        refine grow_same (v := .int .i64 0) ?_ rfl
                        clear old dep ho hsz hb
                        go_simp
                      | 22, ho =>
                        obtain rfl := Option.some.inj ho
                        have d21 : a.tmps.getD 77 undef = .int .i64 0 := dep 21 _ _ (by kernel_rfl) rfl rfl
                        have e21 : a.tmps[77]?.getD undef = _ := (Array.getD_eq_getD_getElem? ..).symm.trans d21
                        have d20 : a.tmps.getD 76 undef = .bool false := dep 20 _ _ (by kernel_rfl) rfl rfl
                        have e20 : a.tmps[76]?.getD undef = _ := (Array.getD_eq_getD_getElem? ..).symm.trans d20
                        rw [if_pos (wanted_some rfl rfl rfl (by rw [hsz]; exact of_decide_eq_true rfl) d20)]
                        refine grow_same (v := .bool false) ?_ rfl
                        clear old dep ho hsz hb
                        go_simp
                      | 23, ho =>
                        obtain rfl := Option.some.inj ho
                        have d22 : a.tmps.getD 78 undef = .bool false := dep 22 _ _ (by kernel_rfl) rfl rfl
                        have e22 : a.tmps[78]?.getD undef = _ := (Array.getD_eq_getD_getElem? ..).symm.trans d22
                        have d20 : a.tmps.getD 76 undef = .bool false := dep 20 _ _ (by kernel_rfl) rfl rfl
                        have e20 : a.tmps[76]?.getD undef = _ := (Array.getD_eq_getD_getElem? ..).symm.trans d20
                        rw [if_pos (wanted_some rfl rfl rfl (by rw [hsz]; exact of_decide_eq_true rfl) d20)]
                        refine grow_same (v := .bool false) ?_ rfl
                        clear old dep ho hsz hb
                        go_simp
                      | 24, ho =>
                        obtain rfl := Option.some.inj ho
                        have d23 : a.tmps.getD 79 undef = .bool false := dep 23 _ _ (by kernel_rfl) rfl rfl
                        have e23 : a.tmps[79]?.getD undef = _ := (Array.getD_eq_getD_getElem? ..).symm.trans d23
                        rw [if_neg (wanted_not rfl rfl rfl (by rw [hsz]; exact of_decide_eq_true rfl) d23 rfl)]
                        exact rfl
                      | 25, ho =>
                        obtain rfl := Option.some.inj ho
                        have d23 : a.tmps.getD 79 undef = .bool false := dep 23 _ _ (by kernel_rfl) rfl rfl
                        have e23 : a.tmps[79]?.getD undef = _ := (Array.getD_eq_getD_getElem? ..).symm.trans d23
                        rw [if_neg (wanted_not rfl rfl rfl (by rw [hsz]; exact of_decide_eq_true rfl) d23 rfl)]
                        exact rfl
                      | 26, ho =>
                        obtain rfl := Option.some.inj ho
                        have d23 : a.tmps.getD 79 undef = .bool false := dep 23 _ _ (by kernel_rfl) rfl rfl
                        have e23 : a.tmps[79]?.getD undef = _ := (Array.getD_eq_getD_getElem? ..).symm.trans d23
                        rw [if_neg (wanted_not rfl rfl rfl (by rw [hsz]; exact of_decide_eq_true rfl) d23 rfl)]
                        exact rfl
                      | 27, ho =>
                        obtain rfl := Option.some.inj ho
                        have d23 : a.tmps.getD 79 undef = .bool false := dep 23 _ _ (by kernel_rfl) rfl rfl
                        have e23 : a.tmps[79]?.getD undef = _ := (Array.getD_eq_getD_getElem? ..).symm.trans d23
                        rw [if_neg (wanted_not rfl rfl rfl (by rw [hsz]; exact of_decide_eq_true rfl) d23 rfl)]
                        exact rfl
                      | 28, ho =>
                        obtain rfl := Option.some.inj ho
                        have d23 : a.tmps.getD 79 undef = .bool false := dep 23 _ _ (by kernel_rfl) rfl rfl
                        have e23 : a.tmps[79]?.getD undef = _ := (Array.getD_eq_getD_getElem? ..).symm.trans d23
                        rw [if_neg (wanted_not rfl rfl rfl (by rw [hsz]; exact of_decide_eq_true rfl) d23 rfl)]
                        exact rfl
                      | 29, ho =>
                        obtain rfl := Option.some.inj ho
                        have d23 : a.tmps.getD 79 undef = .bool false := dep 23 _ _ (by kernel_rfl) rfl rfl
                        have e23 : a.tmps[79]?.getD undef = _ := (Array.getD_eq_getD_getElem? ..).symm.trans d23
                        rw [if_neg (wanted_not rfl rfl rfl (by rw [hsz]; exact of_decide_eq_true rfl) d23 rfl)]
                        exact rfl
                      | 30, ho =>
                        obtain rfl := Option.some.inj ho
                        have d23 : a.tmps.getD 79 undef = .bool false := dep 23 _ _ (by kernel_rfl) rfl rfl
                        have e23 : a.tmps[79]?.getD undef = _ := (Array.getD_eq_getD_getElem? ..).symm.trans d23
                        rw [if_neg (wanted_not rfl rfl rfl (by rw [hsz]; exact of_decide_eq_true rfl) d23 rfl)]
                        exact rfl
                      | 31, ho =>
                        obtain rfl := Option.some.inj ho
                        have d23 : a.tmps.getD 79 undef = .bool false := dep 23 _ _ (by kernel_rfl) rfl rfl
                        have e23 : a.tmps[79]?.getD undef = _ := (Array.getD_eq_getD_getElem? ..).symm.trans d23
                        rw [if_neg (wanted_not rfl rfl rfl (by rw [hsz]; exact of_decide_eq_true rfl) d23 rfl)]
                        exact rfl
                      | 32, ho =>
                        obtain rfl := Option.some.inj ho
                        have d23 : a.tmps.getD 79 undef = .bool false := dep 23 _ _ (by kernel_rfl) rfl rfl
                        have e23 : a.tmps[79]?.getD undef = _ := (Array.getD_eq_getD_getElem? ..).symm.trans d23
                        have d31 : a.tmps.getD 87 undef = undef := dep 31 _ _ (by kernel_rfl) rfl rfl
                        have e31 : a.tmps[87]?.getD undef = _ := (Array.getD_eq_getD_getElem? ..).symm.trans d31
                        have d20 : a.tmps.getD 76 undef = .bool false := dep 20 _ _ (by kernel_rfl) rfl rfl
                        have e20 : a.tmps[76]?.getD undef = _ := (Array.getD_eq_getD_getElem? ..).symm.trans d20
                        rw [if_pos (wanted_some rfl rfl rfl (by rw [hsz]; exact of_decide_eq_true rfl) d20)]
                        refine grow_same (v := .bool false) ?_ rfl
                        clear old dep ho hsz hb
                        go_simp
                      | 33, ho =>
                        obtain rfl := Option.some.inj ho
                        have d20 : a.tmps.getD 76 undef = .bool false := dep 20 _ _ (by kernel_rfl) rfl rfl
                        have e20 : a.tmps[76]?.getD undef = _ := (Array.getD_eq_getD_getElem? ..).symm.trans d20
                        have d32 : a.tmps.getD 88 undef = .bool false := dep 32 _ _ (by kernel_rfl) rfl rfl
                        have e32 : a.tmps[88]?.getD undef = _ := (Array.getD_eq_getD_getElem? ..).symm.trans d32
                        rw [if_pos (wanted_none rfl)]
                        refine grow_same (v := .bool false) ?_ rfl
                        clear old dep ho hsz hb
                        go_simp
                      | i + 34, ho => exact absurd ho (by simp)
                    · intro a wd hb hsz hdf fin keep
                      obtain ⟨tm, df⟩ := a
                      have hx := frame_of [56, 57, 58, 59, 60, 61, 62, 63, 64, 65, 66, 67, 68, 69, 70, 71, 72, 73, 74, 75, 76, 77, 78, 79, 80, 81, 82, 83, 84, 85, 86, 87, 88, 89] (by kernel_rfl) hsz keep
                      dsimp only at hdf hx
                      simp only [List.foldl_cons, List.foldl_nil] at hx
                      subst hdf
                      clear hsz keep
                      have kn : tm.getD 56 undef = .pointer (some ⟨bx, 0, none⟩) := fin 0 _ _ rfl rfl
                      rw [kn] at hx
                      clear kn
                      have kn : tm.getD 57 undef = .int .i64 x.t := fin 1 _ _ rfl rfl
                      rw [kn] at hx
                      clear kn
                      have kn : tm.getD 58 undef = .bool false := fin 2 _ _ rfl rfl
                      rw [kn] at hx
                      clear kn
                      have kn : tm.getD 59 undef = .bool false := fin 3 _ _ rfl rfl
                      rw [kn] at hx
                      clear kn
                      have kn : tm.getD 60 undef = .pointer (some ⟨bx, 0, none⟩) := fin 4 _ _ rfl rfl
                      rw [kn] at hx
                      clear kn
                      have kn : tm.getD 61 undef = .int .i64 x.t := fin 5 _ _ rfl rfl
                      rw [kn] at hx
                      clear kn
                      have kn : tm.getD 62 undef = .bool false := fin 6 _ _ rfl rfl
                      rw [kn] at hx
                      clear kn
                      have kn : tm.getD 63 undef = .bool false := fin 7 _ _ rfl rfl
                      rw [kn] at hx
                      clear kn
                      have kn : tm.getD 64 undef = .bool false := fin 8 _ _ rfl rfl
                      rw [kn] at hx
                      clear kn
                      have kn : tm.getD 65 undef = .pointer (some ⟨bx, 1, none⟩) := fin 9 _ _ rfl rfl
                      rw [kn] at hx
                      clear kn
                      have kn : tm.getD 66 undef = .string x.k := fin 10 _ _ rfl rfl
                      rw [kn] at hx
                      clear kn
                      have kn : tm.getD 67 undef = .int .i64 (x.k.size : Int) := fin 11 _ _ rfl rfl
                      rw [kn] at hx
                      clear kn
                      have kn : tm.getD 68 undef = .bool false := fin 12 _ _ rfl rfl
                      rw [kn] at hx
                      clear kn
                      have kn : tm.getD 69 undef = .bool false := fin 13 _ _ rfl rfl
                      rw [kn] at hx
                      clear kn
                      have kn : tm.getD 70 undef = .bool false := fin 14 _ _ rfl rfl
                      rw [kn] at hx
                      clear kn
                      have kn : tm.getD 71 undef = .pointer (some ⟨bx, 2, none⟩) := fin 15 _ _ rfl rfl
                      rw [kn] at hx
                      clear kn
                      have kn : tm.getD 72 undef = .string x.v := fin 16 _ _ rfl rfl
                      rw [kn] at hx
                      clear kn
                      have kn : tm.getD 73 undef = .int .i64 (x.v.size : Int) := fin 17 _ _ rfl rfl
                      rw [kn] at hx
                      clear kn
                      have kn : tm.getD 74 undef = .bool false := fin 18 _ _ rfl rfl
                      rw [kn] at hx
                      clear kn
                      have kn : tm.getD 75 undef = .bool false := fin 19 _ _ rfl rfl
                      rw [kn] at hx
                      clear kn
                      have kn : tm.getD 76 undef = .bool false := fin 20 _ _ rfl rfl
                      rw [kn] at hx
                      clear kn
                      have kn : tm.getD 77 undef = .int .i64 0 := fin 21 _ _ rfl rfl
                      rw [kn] at hx
                      clear kn
                      have kn : tm.getD 78 undef = .bool false := fin 22 _ _ rfl rfl
                      rw [kn] at hx
                      clear kn
                      have kn : tm.getD 79 undef = .bool false := fin 23 _ _ rfl rfl
                      rw [kn] at hx
                      clear kn
                      have kn : tm.getD 80 undef = undef := fin 24 _ _ rfl rfl
                      rw [kn] at hx
                      clear kn
                      have kn : tm.getD 81 undef = undef := fin 25 _ _ rfl rfl
                      rw [kn] at hx
                      clear kn
                      have kn : tm.getD 82 undef = undef := fin 26 _ _ rfl rfl
                      rw [kn] at hx
                      clear kn
                      have kn : tm.getD 83 undef = undef := fin 27 _ _ rfl rfl
                      rw [kn] at hx
                      clear kn
                      have kn : tm.getD 84 undef = undef := fin 28 _ _ rfl rfl
                      rw [kn] at hx
                      clear kn
                      have kn : tm.getD 85 undef = undef := fin 29 _ _ rfl rfl
                      rw [kn] at hx
                      clear kn
                      have kn : tm.getD 86 undef = undef := fin 30 _ _ rfl rfl
                      rw [kn] at hx
                      clear kn
                      have kn : tm.getD 87 undef = undef := fin 31 _ _ rfl rfl
                      rw [kn] at hx
                      clear kn
                      have kn : tm.getD 88 undef = .bool false := fin 32 _ _ rfl rfl
                      rw [kn] at hx
                      clear kn
                      have kn : tm.getD 89 undef = .bool false := fin 33 _ _ rfl rfl
                      rw [kn] at hx
                      clear kn
                      clear fin
                      simp only [List.setIfInBounds_toArray, List.set_cons_succ, List.set_cons_zero] at hx
                      subst hx
                      go_wp2
                      go_roundw
                      case rel => exact ⟨0 + 1, by have := HKL.out; omega, by go_num, hide (HB6.out.trans (hb.mono HB6.out.size))⟩
                      case measure => simp [intOf]; have := HKL.out; omega
                  | succ p =>
                    obtain ⟨y, hy⟩ : ∃ y, m[p]? = some y := ⟨_, List.getElem?_eq_getElem (by omega)⟩
                    obtain ⟨g4, k4, e4, hg4⟩ := HW4.out.block (by omega)
                    injection e4 with e4 _ e5
                    injection e4 with e4
                    injection e4 with e4 e6 _
                    subst e4 e5 e6
                    obtain ⟨y0, y1, y2⟩ := row_at (HW4.out.below HB6.out) hy
                    have HG4 := hide (Nat.lt_of_lt_of_le hg4 HB6.out.size)
                    have HLS : Hid (∀ w, Calls Try.prog 18 #[.agg #[.int .i64 y.t, .string y.k, .string y.v], .agg #[.int .i64 x.t, .string x.k, .string x.v]] w fun e w' => e = .returned (.bool true) ∧ Below w.heap.size w w') := hide (fun w => by
                      have h := rless_any y.t x.t y.k y.v x.k x.v w
                      rw [show lessB y.t y.k x.t x.k = true from chn_at HRIS.out.ch hy HC.out] at h
                      exact h)
                    have z0 : (0 : Int) ≤ (p : Int) + 1 := by omega
                    have z1 : (p : Int) < (m.length : Int) := by omega
                    have z2 : (0 : Int) < (p : Int) + 1 := by omega
                    have z4 : (0 : Int) ≤ (p : Int) := by omega
                    have z7 : IntKind.i64.wrap ((p : Int) + 1 - 1) = (p : Int) := by rw [IntKind.wrap_i64]; omega
                    have z8 : IntKind.i64.wrap (p : Int) = (p : Int) := by rw [IntKind.wrap_i64]; omega
                    clear hy
                    refine region_grows [Say.is (.pointer (some ⟨bx, 0, none⟩)), Say.is (.int .i64 x.t), Say.is (.bool false), Say.is (.bool false), Say.is (.pointer (some ⟨bx, 0, none⟩)), Say.is (.int .i64 x.t), Say.is (.bool false), Say.is (.bool false), Say.is (.bool false), Say.is (.pointer (some ⟨bx, 1, none⟩)), Say.is (.string x.k), Say.is (.int .i64 (x.k.size : Int)), Say.is (.bool false), Say.is (.bool false), Say.is (.bool false), Say.is (.pointer (some ⟨bx, 2, none⟩)), Say.is (.string x.v), Say.is (.int .i64 (x.v.size : Int)), Say.is (.bool false), Say.is (.bool false), Say.is (.bool false), Say.is (.int .i64 ((p : Int) + 1)), Say.is (.bool true), Say.is (.bool true), Say.is (.slice (some ⟨b4, 0, none⟩) m.length c4), Say.is (.int .i64 ((p : Int) + 1)), Say.is (.int .i64 (p : Int)), Say.is (.pointer (some ⟨b4, p * 3, none⟩)), Say.is (.agg #[.int .i64 y.t, .string y.k, .string y.v]), Say.is (.agg #[.int .i64 x.t, .string x.k, .string x.v]), Say.is (.bool true), Say.is (.bool false), Say.is (.bool false), Say.is (.bool false)] (by kernel_rfl) (by kernel_rfl) (by kernel_rfl) (by kernel_rfl) ?_ ?_
                    · intro i o ho a w2 hb hsz old dep
                      match i, ho with
                      | 0, ho =>
                        obtain rfl := Option.some.inj ho
                        have o10 : a.tmps.getD 10 undef = _ := old 10 (by kernel_rfl)
                        rw [if_pos (wanted_none rfl)]
                        refine grow_same (v := .pointer (some ⟨bx, 0, none⟩)) ?_ rfl
                        clear old dep ho hsz hb
                        go_simp
                      | 1, ho =>
                        obtain rfl := Option.some.inj ho
                        have d0 : a.tmps.getD 56 undef = .pointer (some ⟨bx, 0, none⟩) := dep 0 _ _ (by kernel_rfl) rfl rfl
                        have e0 : a.tmps[56]?.getD undef = _ := (Array.getD_eq_getD_getElem? ..).symm.trans d0
                        rw [if_pos (wanted_none rfl)]
                        have g0 := (hb.cell (p := ⟨bx, 0, none⟩) HBX.out).trans x0
                        refine grow_same (v := .int .i64 x.t) ?_ rfl
                        clear old dep ho hsz hb
                        go_simp
                      | 2, ho =>
                        obtain rfl := Option.some.inj ho
                        have d1 : a.tmps.getD 57 undef = .int .i64 x.t := dep 1 _ _ (by kernel_rfl) rfl rfl
                        have e1 : a.tmps[57]?.getD undef = _ := (Array.getD_eq_getD_getElem? ..).symm.trans d1
                        rw [if_pos (wanted_none rfl)]
                        refine grow_same (v := .bool false) ?_ rfl
                        clear old dep ho hsz hb
                        go_simp
                      | 3, ho =>
                        obtain rfl := Option.some.inj ho
                        have d2 : a.tmps.getD 58 undef = .bool false := dep 2 _ _ (by kernel_rfl) rfl rfl
                        have e2 : a.tmps[58]?.getD undef = _ := (Array.getD_eq_getD_getElem? ..).symm.trans d2
                        rw [if_pos (wanted_none rfl)]
                        refine grow_same (v := .bool false) ?_ rfl
                        clear old dep ho hsz hb
                        go_simp
                      | 4, ho =>
                        obtain rfl := Option.some.inj ho
                        have o10 : a.tmps.getD 10 undef = _ := old 10 (by kernel_rfl)
                        have d3 : a.tmps.getD 59 undef = .bool false := dep 3 _ _ (by kernel_rfl) rfl rfl
                        have e3 : a.tmps[59]?.getD undef = _ := (Array.getD_eq_getD_getElem? ..).symm.trans d3
                        rw [if_pos (wanted_some rfl rfl rfl (by rw [hsz]; exact of_decide_eq_true rfl) d3)]
                        refine grow_same (v := .pointer (some ⟨bx, 0, none⟩)) ?_ rfl
                        clear old dep ho hsz hb
                        go_simp
                      | 5, ho =>
                        obtain rfl := Option.some.inj ho
                        have d4 : a.tmps.getD 60 undef = .pointer (some ⟨bx, 0, none⟩) := dep 4 _ _ (by kernel_rfl) rfl rfl
                        have e4 : a.tmps[60]?.getD undef = _ := (Array.getD_eq_getD_getElem? ..).symm.trans d4
                        have d3 : a.tmps.getD 59 undef = .bool false := dep 3 _ _ (by kernel_rfl) rfl rfl
                        have e3 : a.tmps[59]?.getD undef = _ := (Array.getD_eq_getD_getElem? ..).symm.trans d3
                        rw [if_pos (wanted_some rfl rfl rfl (by rw [hsz]; exact of_decide_eq_true rfl) d3)]
                        have g0 := (hb.cell (p := ⟨bx, 0, none⟩) HBX.out).trans x0
                        refine grow_same (v := .int .i64 x.t) ?_ rfl
                        clear old dep ho hsz hb
                        go_simp
                      | 6, ho =>
                        obtain rfl := Option.some.inj ho
                        have d5 : a.tmps.getD 61 undef = .int .i64 x.t := dep 5 _ _ (by kernel_rfl) rfl rfl
                        have e5 : a.tmps[61]?.getD undef = _ := (Array.getD_eq_getD_getElem? ..).symm.trans d5
                        have d3 : a.tmps.getD 59 undef = .bool false := dep 3 _ _ (by kernel_rfl) rfl rfl
                        have e3 : a.tmps[59]?.getD undef = _ := (Array.getD_eq_getD_getElem? ..).symm.trans d3
                        rw [if_pos (wanted_some rfl rfl rfl (by rw [hsz]; exact of_decide_eq_true rfl) d3)]
                        refine grow_same (v := .bool false) ?_ rfl
                        clear old dep ho hsz hb
                        go_simp
                      | 7, ho =>
                        obtain rfl := Option.some.inj ho
                        have d3 : a.tmps.getD 59 undef = .bool false := dep 3 _ _ (by kernel_rfl) rfl rfl
                        have e3 : a.tmps[59]?.getD undef = _ := (Array.getD_eq_getD_getElem? ..).symm.trans d3
                        have d6 : a.tmps.getD 62 undef = .bool false := dep 6 _ _ (by kernel_rfl) rfl rfl
                        have e6 : a.tmps[62]?.getD undef = _ := (Array.getD_eq_getD_getElem? ..).symm.trans d6
                        rw [if_pos (wanted_none rfl)]
                        refine grow_same (v := .bool false) ?_ rfl
                        clear old dep ho hsz hb
                        go_simp
                      | 8, ho =>
                        obtain rfl := Option.some.inj ho
                        have d7 : a.tmps.getD 63 undef = .bool false := dep 7 _ _ (by kernel_rfl) rfl rfl
                        have e7 : a.tmps[63]?.getD undef = _ := (Array.getD_eq_getD_getElem? ..).symm.trans d7
                        rw [if_pos (wanted_none rfl)]
                        refine grow_same (v := .bool false) ?_ rfl
                        clear old dep ho hsz hb
                        go_simp
                      | 9, ho =>
                        obtain rfl := Option.some.inj ho
                        have o10 : a.tmps.getD 10 undef = _ := old 10 (by kernel_rfl)
                        have d8 : a.tmps.getD 64 undef = .bool false := dep 8 _ _ (by kernel_rfl) rfl rfl
                        have e8 : a.tmps[64]?.getD undef = _ := (Array.getD_eq_getD_getElem? ..).symm.trans d8
                        rw [if_pos (wanted_some rfl rfl rfl (by rw [hsz]; exact of_decide_eq_true rfl) d8)]
                        refine grow_same (v := .pointer (some ⟨bx, 1, none⟩)) ?_ rfl
                        clear old dep ho hsz hb
                        go_simp
                      | 10, ho =>
                        obtain rfl := Option.some.inj ho
                        have d9 : a.tmps.getD 65 undef = .pointer (some ⟨bx, 1, none⟩) := dep 9 _ _ (by kernel_rfl) rfl rfl
                        have e9 : a.tmps[65]?.getD undef = _ := (Array.getD_eq_getD_getElem? ..).symm.trans d9
                        have d8 : a.tmps.getD 64 undef = .bool false := dep 8 _ _ (by kernel_rfl) rfl rfl
                        have e8 : a.tmps[64]?.getD undef = _ := (Array.getD_eq_getD_getElem? ..).symm.trans d8
                        rw [if_pos (wanted_some rfl rfl rfl (by rw [hsz]; exact of_decide_eq_true rfl) d8)]
                        have g0 := (hb.cell (p := ⟨bx, 1, none⟩) HBX.out).trans x1
                        refine grow_same (v := .string x.k) ?_ rfl
                        clear old dep ho hsz hb
                        go_simp
                      | 11, ho =>
                        obtain rfl := Option.some.inj ho
                        have d10 : a.tmps.getD 66 undef = .string x.k := dep 10 _ _ (by kernel_rfl) rfl rfl
                        have e10 : a.tmps[66]?.getD undef = _ := (Array.getD_eq_getD_getElem? ..).symm.trans d10
                        have d8 : a.tmps.getD 64 undef = .bool false := dep 8 _ _ (by kernel_rfl) rfl rfl
                        have e8 : a.tmps[64]?.getD undef = _ := (Array.getD_eq_getD_getElem? ..).symm.trans d8
                        rw [if_pos (wanted_some rfl rfl rfl (by rw [hsz]; exact of_decide_eq_true rfl) d8)]
                        refine grow_same (v := .int .i64 (x.k.size : Int)) ?_ rfl
                        clear old dep ho hsz hb
                        go_simp
                      | 12, ho =>
                        obtain rfl := Option.some.inj ho
                        have d11 : a.tmps.getD 67 undef = .int .i64 (x.k.size : Int) := dep 11 _ _ (by kernel_rfl) rfl rfl
                        have e11 : a.tmps[67]?.getD undef = _ := (Array.getD_eq_getD_getElem? ..).symm.trans d11
                        have d8 : a.tmps.getD 64 undef = .bool false := dep 8 _ _ (by kernel_rfl) rfl rfl
                        have e8 : a.tmps[64]?.getD undef = _ := (Array.getD_eq_getD_getElem? ..).symm.trans d8
                        rw [if_pos (wanted_some rfl rfl rfl (by rw [hsz]; exact of_decide_eq_true rfl) d8)]
                        refine grow_same (v := .bool false) ?_ rfl
                        clear old dep ho hsz hb
                        go_simp
                      | 13, ho =>
                        obtain rfl := Option.some.inj ho
                        have d8 : a.tmps.getD 64 undef = .bool false := dep 8 _ _ (by kernel_rfl) rfl rfl
                        have e8 : a.tmps[64]?.getD undef = _ := (Array.getD_eq_getD_getElem? ..).symm.trans d8
                        have d12 : a.tmps.getD 68 undef = .bool false := dep 12 _ _ (by kernel_rfl) rfl rfl
                        have e12 : a.tmps[68]?.getD undef = _ := (Array.getD_eq_getD_getElem? ..).symm.trans d12
                        rw [if_pos (wanted_none rfl)]
                        refine grow_same (v := .bool false) ?_ rfl
                        clear old dep ho hsz hb
                        go_simp
                      | 14, ho =>
                        obtain rfl := Option.some.inj ho
                        have d13 : a.tmps.getD 69 undef = .bool false := dep 13 _ _ (by kernel_rfl) rfl rfl
                        have e13 : a.tmps[69]?.getD undef = _ := (Array.getD_eq_getD_getElem? ..).symm.trans d13
                        rw [if_pos (wanted_none rfl)]
                        refine grow_same (v := .bool false) ?_ rfl
                        clear old dep ho hsz hb
                        go_simp
                      | 15, ho =>
                        obtain rfl := Option.some.inj ho
                        have o10 : a.tmps.getD 10 undef = _ := old 10 (by kernel_rfl)
                        have d14 : a.tmps.getD 70 undef = .bool false := dep 14 _ _ (by kernel_rfl) rfl rfl
                        have e14 : a.tmps[70]?.getD undef = _ := (Array.getD_eq_getD_getElem? ..).symm.trans d14
                        rw [if_pos (wanted_some rfl rfl rfl (by rw [hsz]; exact of_decide_eq_true rfl) d14)]
                        refine grow_same (v := .pointer (some ⟨bx, 2, none⟩)) ?_ rfl
                        clear old dep ho hsz hb
                        go_simp
                      | 16, ho =>
                        obtain rfl := Option.some.inj ho
                        have d15 : a.tmps.getD 71 undef = .pointer (some ⟨bx, 2, none⟩) := dep 15 _ _ (by kernel_rfl) rfl rfl
                        have e15 : a.tmps[71]?.getD undef = _ := (Array.getD_eq_getD_getElem? ..).symm.trans d15
                        have d14 : a.tmps.getD 70 undef = .bool false := dep 14 _ _ (by kernel_rfl) rfl rfl
                        have e14 : a.tmps[70]?.getD undef = _ := (Array.getD_eq_getD_getElem? ..).symm.trans d14
                        rw [if_pos (wanted_some rfl rfl rfl (by rw [hsz]; exact of_decide_eq_true rfl) d14)]
                        have g0 := (hb.cell (p := ⟨bx, 2, none⟩) HBX.out).trans x2
                        refine grow_same (v := .string x.v) ?_ rfl
                        clear old dep ho hsz hb
                        go_simp
                      | 17, ho =>
                        obtain rfl := Option.some.inj ho
                        have d16 : a.tmps.getD 72 undef = .string x.v := dep 16 _ _ (by kernel_rfl) rfl rfl
                        have e16 : a.tmps[72]?.getD undef = _ := (Array.getD_eq_getD_getElem? ..).symm.trans d16
                        have d14 : a.tmps.getD 70 undef = .bool false := dep 14 _ _ (by kernel_rfl) rfl rfl
                        have e14 : a.tmps[70]?.getD undef = _ := (Array.getD_eq_getD_getElem? ..).symm.trans d14
                        rw [if_pos (wanted_some rfl rfl rfl (by rw [hsz]; exact of_decide_eq_true rfl) d14)]
                        refine grow_same (v := .int .i64 (x.v.size : Int)) ?_ rfl
                        clear old dep ho hsz hb
                        go_simp
                      | 18, ho =>
                        obtain rfl := Option.some.inj ho
                        have d17 : a.tmps.getD 73 undef = .int .i64 (x.v.size : Int) := dep 17 _ _ (by kernel_rfl) rfl rfl
                        have e17 : a.tmps[73]?.getD undef = _ := (Array.getD_eq_getD_getElem? ..).symm.trans d17
                        have d14 : a.tmps.getD 70 undef = .bool false := dep 14 _ _ (by kernel_rfl) rfl rfl
                        have e14 : a.tmps[70]?.getD undef = _ := (Array.getD_eq_getD_getElem? ..).symm.trans d14
                        rw [if_pos (wanted_some rfl rfl rfl (by rw [hsz]; exact of_decide_eq_true rfl) d14)]
                        refine grow_same (v := .bool false) ?_ rfl
                        clear old dep ho hsz hb
                        go_simp
                      | 19, ho =>
                        obtain rfl := Option.some.inj ho
                        have d14 : a.tmps.getD 70 undef = .bool false := dep 14 _ _ (by kernel_rfl) rfl rfl
                        have e14 : a.tmps[70]?.getD undef = _ := (Array.getD_eq_getD_getElem? ..).symm.trans d14
                        have d18 : a.tmps.getD 74 undef = .bool false := dep 18 _ _ (by kernel_rfl) rfl rfl
                        have e18 : a.tmps[74]?.getD undef = _ := (Array.getD_eq_getD_getElem? ..).symm.trans d18
                        rw [if_pos (wanted_none rfl)]
                        refine grow_same (v := .bool false) ?_ rfl
                        clear old dep ho hsz hb
                        go_simp
                      | 20, ho =>
                        obtain rfl := Option.some.inj ho
                        have d19 : a.tmps.getD 75 undef = .bool false := dep 19 _ _ (by kernel_rfl) rfl rfl
                        have e19 : a.tmps[75]?.getD undef = _ := (Array.getD_eq_getD_getElem? ..).symm.trans d19
                        rw [if_pos (wanted_none rfl)]
                        refine grow_same (v := .bool false) ?_ rfl
                        clear old dep ho hsz hb
                        go_simp
                      | 21, ho =>
                        obtain rfl := Option.some.inj ho
                        have o9 : a.tmps.getD 9 undef = _ := old 9 (by kernel_rfl)
                        have d20 : a.tmps.getD 76 undef = .bool false := dep 20 _ _ (by kernel_rfl) rfl rfl
                        have e20 : a.tmps[76]?.getD undef = _ := (Array.getD_eq_getD_getElem? ..).symm.trans d20
                        rw [if_pos (wanted_some rfl rfl rfl (by rw [hsz]; exact of_decide_eq_true rfl) d20)]
                        refine grow_same (v := .int .i64 ((p : Int) + 1)) ?_ rfl
                        clear old dep ho hsz hb
                        go_simp
                      | 22, ho =>
                        obtain rfl := Option.some.inj ho
                        have d21 : a.tmps.getD 77 undef = .int .i64 ((p : Int) + 1) := dep 21 _ _ (by kernel_rfl) rfl rfl
                        have e21 : a.tmps[77]?.getD undef = _ := (Array.getD_eq_getD_getElem? ..).symm.trans d21
                        have d20 : a.tmps.getD 76 undef = .bool false := dep 20 _ _ (by kernel_rfl) rfl rfl
                        have e20 : a.tmps[76]?.getD undef = _ := (Array.getD_eq_getD_getElem? ..).symm.trans d20
                        rw [if_pos (wanted_some rfl rfl rfl (by rw [hsz]; exact of_decide_eq_true rfl) d20)]
                        refine grow_same (v := .bool true) ?_ rfl
                        clear old dep ho hsz hb
                        go_simp
                      | 23, ho =>
                        obtain rfl := Option.some.inj ho
                        have d22 : a.tmps.getD 78 undef = .bool true := dep 22 _ _ (by kernel_rfl) rfl rfl
                        have e22 : a.tmps[78]?.getD undef = _ := (Array.getD_eq_getD_getElem? ..).symm.trans d22
                        have d20 : a.tmps.getD 76 undef = .bool false := dep 20 _ _ (by kernel_rfl) rfl rfl
                        have e20 : a.tmps[76]?.getD undef = _ := (Array.getD_eq_getD_getElem? ..).symm.trans d20
                        rw [if_pos (wanted_some rfl rfl rfl (by rw [hsz]; exact of_decide_eq_true rfl) d20)]
                        refine grow_same (v := .bool true) ?_ rfl
                        clear old dep ho hsz hb
                        go_simp
                      | 24, ho =>
                        obtain rfl := Option.some.inj ho
                        have o7 : a.tmps.getD 7 undef = _ := old 7 (by kernel_rfl)
                        have d23 : a.tmps.getD 79 undef = .bool true := dep 23 _ _ (by kernel_rfl) rfl rfl
                        have e23 : a.tmps[79]?.getD undef = _ := (Array.getD_eq_getD_getElem? ..).symm.trans d23
                        rw [if_pos (wanted_some rfl rfl rfl (by rw [hsz]; exact of_decide_eq_true rfl) d23)]
                        refine grow_same (v := .slice (some ⟨b4, 0, none⟩) m.length c4) ?_ rfl
                        clear old dep ho hsz hb
                        go_simp
                      | 25, ho =>
                        obtain rfl := Option.some.inj ho
                        have o9 : a.tmps.getD 9 undef = _ := old 9 (by kernel_rfl)
                        have d23 : a.tmps.getD 79 undef = .bool true := dep 23 _ _ (by kernel_rfl) rfl rfl
                        have e23 : a.tmps[79]?.getD undef = _ := (Array.getD_eq_getD_getElem? ..).symm.trans d23
                        rw [if_pos (wanted_some rfl rfl rfl (by rw [hsz]; exact of_decide_eq_true rfl) d23)]
                        refine grow_same (v := .int .i64 ((p : Int) + 1)) ?_ rfl
                        clear old dep ho hsz hb
                        go_simp
                      | 26, ho =>
                        obtain rfl := Option.some.inj ho
                        have d25 : a.tmps.getD 81 undef = .int .i64 ((p : Int) + 1) := dep 25 _ _ (by kernel_rfl) rfl rfl
                        have e25 : a.tmps[81]?.getD undef = _ := (Array.getD_eq_getD_getElem? ..).symm.trans d25
                        have d23 : a.tmps.getD 79 undef = .bool true := dep 23 _ _ (by kernel_rfl) rfl rfl
                        have e23 : a.tmps[79]?.getD undef = _ := (Array.getD_eq_getD_getElem? ..).symm.trans d23
                        rw [if_pos (wanted_some rfl rfl rfl (by rw [hsz]; exact of_decide_eq_true rfl) d23)]
                        refine grow_same (v := .int .i64 (p : Int)) ?_ rfl
                        clear old dep ho hsz hb
                        go_simp
                      | 27, ho =>
                        obtain rfl := Option.some.inj ho
                        have d24 : a.tmps.getD 80 undef = .slice (some ⟨b4, 0, none⟩) m.length c4 := dep 24 _ _ (by kernel_rfl) rfl rfl
                        have e24 : a.tmps[80]?.getD undef = _ := (Array.getD_eq_getD_getElem? ..).symm.trans d24
                        have d26 : a.tmps.getD 82 undef = .int .i64 (p : Int) := dep 26 _ _ (by kernel_rfl) rfl rfl
                        have e26 : a.tmps[82]?.getD undef = _ := (Array.getD_eq_getD_getElem? ..).symm.trans d26
                        have d23 : a.tmps.getD 79 undef = .bool true := dep 23 _ _ (by kernel_rfl) rfl rfl
                        have e23 : a.tmps[79]?.getD undef = _ := (Array.getD_eq_getD_getElem? ..).symm.trans d23
                        rw [if_pos (wanted_some rfl rfl rfl (by rw [hsz]; exact of_decide_eq_true rfl) d23)]
                        refine grow_same (v := .pointer (some ⟨b4, p * 3, none⟩)) ?_ rfl
                        clear old dep ho hsz hb
                        go_simp
                      | 28, ho =>
                        obtain rfl := Option.some.inj ho
                        have d27 : a.tmps.getD 83 undef = .pointer (some ⟨b4, p * 3, none⟩) := dep 27 _ _ (by kernel_rfl) rfl rfl
                        have e27 : a.tmps[83]?.getD undef = _ := (Array.getD_eq_getD_getElem? ..).symm.trans d27
                        have d23 : a.tmps.getD 79 undef = .bool true := dep 23 _ _ (by kernel_rfl) rfl rfl
                        have e23 : a.tmps[79]?.getD undef = _ := (Array.getD_eq_getD_getElem? ..).symm.trans d23
                        rw [if_pos (wanted_some rfl rfl rfl (by rw [hsz]; exact of_decide_eq_true rfl) d23)]
                        have g0 := (hb.cell (p := ⟨b4, p * 3, none⟩) HG4.out).trans y0
                        have g1 := (hb.cell (p := ⟨b4, p * 3 + 1, none⟩) HG4.out).trans y1
                        have g2 := (hb.cell (p := ⟨b4, p * 3 + 2, none⟩) HG4.out).trans y2
                        refine grow_same (v := .agg #[.int .i64 y.t, .string y.k, .string y.v]) ?_ rfl
                        clear old dep ho hsz hb
                        go_simp
                      | 29, ho =>
                        obtain rfl := Option.some.inj ho
                        have o10 : a.tmps.getD 10 undef = _ := old 10 (by kernel_rfl)
                        have d23 : a.tmps.getD 79 undef = .bool true := dep 23 _ _ (by kernel_rfl) rfl rfl
                        have e23 : a.tmps[79]?.getD undef = _ := (Array.getD_eq_getD_getElem? ..).symm.trans d23
                        rw [if_pos (wanted_some rfl rfl rfl (by rw [hsz]; exact of_decide_eq_true rfl) d23)]
                        have g0 := (hb.cell (p := ⟨bx, 0, none⟩) HBX.out).trans x0
                        have g1 := (hb.cell (p := ⟨bx, 1, none⟩) HBX.out).trans x1
                        have g2 := (hb.cell (p := ⟨bx, 2, none⟩) HBX.out).trans x2
                        refine grow_same (v := .agg #[.int .i64 x.t, .string x.k, .string x.v]) ?_ rfl
                        clear old dep ho hsz hb
                        go_simp
                      | 30, ho =>
                        obtain rfl := Option.some.inj ho
                        have d28 : a.tmps.getD 84 undef = .agg #[.int .i64 y.t, .string y.k, .string y.v] := dep 28 _ _ (by kernel_rfl) rfl rfl
                        have e28 : a.tmps[84]?.getD undef = _ := (Array.getD_eq_getD_getElem? ..).symm.trans d28
                        have d29 : a.tmps.getD 85 undef = .agg #[.int .i64 x.t, .string x.k, .string x.v] := dep 29 _ _ (by kernel_rfl) rfl rfl
                        have e29 : a.tmps[85]?.getD undef = _ := (Array.getD_eq_getD_getElem? ..).symm.trans d29
                        have d23 : a.tmps.getD 79 undef = .bool true := dep 23 _ _ (by kernel_rfl) rfl rfl
                        have e23 : a.tmps[79]?.getD undef = _ := (Array.getD_eq_getD_getElem? ..).symm.trans d23
                        rw [if_pos (wanted_some rfl rfl rfl (by rw [hsz]; exact of_decide_eq_true rfl) d23)]
                        refine grow_enters (f := 18) (args := #[.agg #[.int .i64 y.t, .string y.k, .string y.v], .agg #[.int .i64 x.t, .string x.k, .string x.v]]) ?_ (grow_is (HLS.out _))
                        clear old dep ho hsz hb
                        go_simp
                      | 31, ho =>
                        obtain rfl := Option.some.inj ho
                        have d30 : a.tmps.getD 86 undef = .bool true := dep 30 _ _ (by kernel_rfl) rfl rfl
                        have e30 : a.tmps[86]?.getD undef = _ := (Array.getD_eq_getD_getElem? ..).symm.trans d30
                        have d23 : a.tmps.getD 79 undef = .bool true := dep 23 _ _ (by kernel_rfl) rfl rfl
                        have e23 : a.tmps[79]?.getD undef = _ := (Array.getD_eq_getD_getElem? ..).symm.trans d23
                        rw [if_pos (wanted_some rfl rfl rfl (by rw [hsz]; exact of_decide_eq_true rfl) d23)]
                        refine grow_same (v := .bool false) ?_ rfl
                        clear old dep ho hsz hb
                        go_simp
                      | 32, ho =>
                        obtain rfl := Option.some.inj ho
                        have d23 : a.tmps.getD 79 undef = .bool true := dep 23 _ _ (by kernel_rfl) rfl rfl
                        have e23 : a.tmps[79]?.getD undef = _ := (Array.getD_eq_getD_getElem? ..).symm.trans d23
                        have d31 : a.tmps.getD 87 undef = .bool false := dep 31 _ _ (by kernel_rfl) rfl rfl
                        have e31 : a.tmps[87]?.getD undef = _ := (Array.getD_eq_getD_getElem? ..).symm.trans d31
                        have d20 : a.tmps.getD 76 undef = .bool false := dep 20 _ _ (by kernel_rfl) rfl rfl
                        have e20 : a.tmps[76]?.getD undef = _ := (Array.getD_eq_getD_getElem? ..).symm.trans d20
                        rw [if_pos (wanted_some rfl rfl rfl (by rw [hsz]; exact of_decide_eq_true rfl) d20)]
                        refine grow_same (v := .bool false) ?_ rfl
                        clear old dep ho hsz hb
                        go_simp
                      | 33, ho =>
                        obtain rfl := Option.some.inj ho
                        have d20 : a.tmps.getD 76 undef = .bool false := dep 20 _ _ (by kernel_rfl) rfl rfl
                        have e20 : a.tmps[76]?.getD undef = _ := (Array.getD_eq_getD_getElem? ..).symm.trans d20
                        have d32 : a.tmps.getD 88 undef = .bool false := dep 32 _ _ (by kernel_rfl) rfl rfl
                        have e32 : a.tmps[88]?.getD undef = _ := (Array.getD_eq_getD_getElem? ..).symm.trans d32
                        rw [if_pos (wanted_none rfl)]
                        refine grow_same (v := .bool false) ?_ rfl
                        clear old dep ho hsz hb
                        go_simp
                      | i + 34, ho => exact absurd ho (by simp)
                    · intro a wd hb hsz hdf fin keep
                      obtain ⟨tm, df⟩ := a
                      have hx := frame_of [56, 57, 58, 59, 60, 61, 62, 63, 64, 65, 66, 67, 68, 69, 70, 71, 72, 73, 74, 75, 76, 77, 78, 79, 80, 81, 82, 83, 84, 85, 86, 87, 88, 89] (by kernel_rfl) hsz keep
                      dsimp only at hdf hx
                      simp only [List.foldl_cons, List.foldl_nil] at hx
                      subst hdf
                      clear hsz keep
                      have kn : tm.getD 56 undef = .pointer (some ⟨bx, 0, none⟩) := fin 0 _ _ rfl rfl
                      rw [kn] at hx
                      clear kn
                      have kn : tm.getD 57 undef = .int .i64 x.t := fin 1 _ _ rfl rfl
                      rw [kn] at hx
                      clear kn
                      have kn : tm.getD 58 undef = .bool false := fin 2 _ _ rfl rfl
                      rw [kn] at hx
                      clear kn
                      have kn : tm.getD 59 undef = .bool false := fin 3 _ _ rfl rfl
                      rw [kn] at hx
                      clear kn
                      have kn : tm.getD 60 undef = .pointer (some ⟨bx, 0, none⟩) := fin 4 _ _ rfl rfl
                      rw [kn] at hx
                      clear kn
                      have kn : tm.getD 61 undef = .int .i64 x.t := fin 5 _ _ rfl rfl
                      rw [kn] at hx
                      clear kn
                      have kn : tm.getD 62 undef = .bool false := fin 6 _ _ rfl rfl
                      rw [kn] at hx
                      clear kn
                      have kn : tm.getD 63 undef = .bool false := fin 7 _ _ rfl rfl
                      rw [kn] at hx
                      clear kn
                      have kn : tm.getD 64 undef = .bool false := fin 8 _ _ rfl rfl
                      rw [kn] at hx
                      clear kn
                      have kn : tm.getD 65 undef = .pointer (some ⟨bx, 1, none⟩) := fin 9 _ _ rfl rfl
                      rw [kn] at hx
                      clear kn
                      have kn : tm.getD 66 undef = .string x.k := fin 10 _ _ rfl rfl
                      rw [kn] at hx
                      clear kn
                      have kn : tm.getD 67 undef = .int .i64 (x.k.size : Int) := fin 11 _ _ rfl rfl
                      rw [kn] at hx
                      clear kn
                      have kn : tm.getD 68 undef = .bool false := fin 12 _ _ rfl rfl
                      rw [kn] at hx
                      clear kn
                      have kn : tm.getD 69 undef = .bool false := fin 13 _ _ rfl rfl
                      rw [kn] at hx
                      clear kn
                      have kn : tm.getD 70 undef = .bool false := fin 14 _ _ rfl rfl
                      rw [kn] at hx
                      clear kn
                      have kn : tm.getD 71 undef = .pointer (some ⟨bx, 2, none⟩) := fin 15 _ _ rfl rfl
                      rw [kn] at hx
                      clear kn
                      have kn : tm.getD 72 undef = .string x.v := fin 16 _ _ rfl rfl
                      rw [kn] at hx
                      clear kn
                      have kn : tm.getD 73 undef = .int .i64 (x.v.size : Int) := fin 17 _ _ rfl rfl
                      rw [kn] at hx
                      clear kn
                      have kn : tm.getD 74 undef = .bool false := fin 18 _ _ rfl rfl
                      rw [kn] at hx
                      clear kn
                      have kn : tm.getD 75 undef = .bool false := fin 19 _ _ rfl rfl
                      rw [kn] at hx
                      clear kn
                      have kn : tm.getD 76 undef = .bool false := fin 20 _ _ rfl rfl
                      rw [kn] at hx
                      clear kn
                      have kn : tm.getD 77 undef = .int .i64 ((p : Int) + 1) := fin 21 _ _ rfl rfl
                      rw [kn] at hx
                      clear kn
                      have kn : tm.getD 78 undef = .bool true := fin 22 _ _ rfl rfl
                      rw [kn] at hx
                      clear kn
                      have kn : tm.getD 79 undef = .bool true := fin 23 _ _ rfl rfl
                      rw [kn] at hx
                      clear kn
                      have kn : tm.getD 80 undef = .slice (some ⟨b4, 0, none⟩) m.length c4 := fin 24 _ _ rfl rfl
                      rw [kn] at hx
                      clear kn
                      have kn : tm.getD 81 undef = .int .i64 ((p : Int) + 1) := fin 25 _ _ rfl rfl
                      rw [kn] at hx
                      clear kn
                      have kn : tm.getD 82 undef = .int .i64 (p : Int) := fin 26 _ _ rfl rfl
                      rw [kn] at hx
                      clear kn
                      have kn : tm.getD 83 undef = .pointer (some ⟨b4, p * 3, none⟩) := fin 27 _ _ rfl rfl
                      rw [kn] at hx
                      clear kn
                      have kn : tm.getD 84 undef = .agg #[.int .i64 y.t, .string y.k, .string y.v] := fin 28 _ _ rfl rfl
                      rw [kn] at hx
                      clear kn
                      have kn : tm.getD 85 undef = .agg #[.int .i64 x.t, .string x.k, .string x.v] := fin 29 _ _ rfl rfl
                      rw [kn] at hx
                      clear kn
                      have kn : tm.getD 86 undef = .bool true := fin 30 _ _ rfl rfl
                      rw [kn] at hx
                      clear kn
                      have kn : tm.getD 87 undef = .bool false := fin 31 _ _ rfl rfl
                      rw [kn] at hx
                      clear kn
                      have kn : tm.getD 88 undef = .bool false := fin 32 _ _ rfl rfl
                      rw [kn] at hx
                      clear kn
                      have kn : tm.getD 89 undef = .bool false := fin 33 _ _ rfl rfl
                      rw [kn] at hx
                      clear kn
                      clear fin
                      simp only [List.setIfInBounds_toArray, List.set_cons_succ, List.set_cons_zero] at hx
                      subst hx
                      go_wp2
                      go_roundw
                      case rel => exact ⟨(p + 1) + 1, by have := HKL.out; omega, by go_num, hide (HB6.out.trans (hb.mono HB6.out.size))⟩
                      case measure => simp [intOf]; have := HKL.out; omega
                · have q6 : ¬ (k : Int) < (m.length : Int) := by omega
                  go_wp2
                  go_roundw
                  case rel => exact ⟨j + 1, by have := HLT.out; omega, by go_num, hide (HB4.out.trans (HB6i.out.mono HB4.out.size)), hide (HT4.out.below HB6i.out)⟩
                  case measure => simp [intOf]; have := HLT.out; omega
            · have f1 : (z != 0) = true := by simpa using hz
              have f2 : (z == 0) = false := by simpa using hz
              have hem := dec_empty HD.out hz
              subst hem
              clear hz
              go_wp2
              go_loopw [51] (fun i wr => i = .int .i64 0 ∧ Hid (Below w4.heap.size w4 wr)) (fun i _ => 0)
              case atStart => exact ⟨rfl, hide (Below.refl _ _)⟩
              case round =>
                obtain ⟨rfl, HB6⟩ := hrel
                go_wp2
                go_roundw
                case rel => exact ⟨j + 1, by have := HLT.out; omega, by go_num, hide (HB4.out.trans (HB6.out.mono HB4.out.size)), hide (HT4.out.below HB6.out)⟩
                case measure => simp [intOf]; have := HLT.out; omega
          · have q1 : ¬ (j : Int) < 3 := by omega
            go_wp2
            go_ret
            exact ⟨rfl, HBJ.out⟩
  · have hm1 : (500 : Int) < (mo.length : Int) := by omega
    have hm2 : decide ((500 : Int) < (mo.length : Int)) = true := decide_eq_true hm1
    have hm3 : decide (500 < mo.length) = true := decide_eq_true (by omega)
    clear hml
    go_enter Try.func10, Try.ntmps10
    go_wp2_with (first
      | (go_at_call 11; (with_reducible refine (fit_any _).mono ?_); rintro e w0 ⟨rfl, hb⟩; have HB0 := hide hb; clear hb))
    go_ret
    exact ⟨rfl, HB0.out⟩
end Go.Proofs.Ythkocbfioegcnaa
