/-
  Contract of package index: Put.
-/
import Derived.Test.YtkcomkllnhdohaaPutA
namespace Go.Proofs.Ytkcomkllnhdohaa
open Go.RowKit
set_option maxRecDepth 20000
set_option linter.unusedSimpArgs false
set_option linter.unusedVariables false

/-- A call, as one step of a region by phases. -/
theorem wp_enters9 {P : Program} {ops : Array Oper} {Q : Exit → Act → World → Prop} {o : Oper} {a : Act} {w : World} {f : FuncId} {args : Array Value} {i : Nat} {L : Nat → Bool} {V : Nat → Value → Prop} {M : Phases} (hrun : (execOp a.eval o).run P w = .ok (.enter f args) w)
    (hc : Calls P f args w fun e w' => ∃ v, e = .returned v ∧ V i v ∧ M (also L i) (yielding (got ops a) i v) w') :
    o.wp P a w (fun a' w' => ∃ v, a' = a.put o.dst v ∧ V i v ∧ M (also L i) (yielding (got ops a) i v) w') Q := by
  unfold Oper.wp
  rw [hrun, Oper.upon_enter]
  refine hc.mono ?_
  rintro e w' ⟨v, rfl, hr⟩
  exact ⟨v, rfl, hr⟩
/-- The item alone, in a block of its own. -/
def PtA (W : World) (x : It) (u : Value) (w : World) : Prop := ∃ b, u = .slice (some ⟨b, 0, none⟩) 1 1 ∧ Blk w b 32 x.vc ∧ W.heap.size ≤ b ∧ Abv W w
/-- The index has the new row. -/
def PtC (W : World) (v : Value) (ys : List It) (g : Nat) (u : Value) (w : World) : Prop := ∃ w3, RowP W 0 v ys u w3 ∧ w = w3.setCell ⟨g, 0, none⟩ u
set_option maxHeartbeats 4000000 in
theorem put_add {w : World} {g : Nat} {r : Option Nat} {xs : List It} {x : It} (h : Ix w g r xs) (hh : hasL x xs = false) (hl : xs.length < 1000) :
    Calls Try.prog 12 #[.pointer (some ⟨g, 0, none⟩), x.v] w fun e w' => e = .returned (.tuple #[]) ∧ IxP w g r (putL x xs) w' := by
  obtain ⟨hm1, hf⟩ := putm_any (x := x) h
  rw [hh] at hf
  obtain ⟨ys, hys⟩ : ∃ ys, xs.take (posL x xs) ++ x :: xs.drop (posL x xs) = ys := ⟨_, rfl⟩
  have hpy : putL x xs = ys := (put_new h.srt hh).symm.trans hys
  rw [hpy]
  have HSR : Hid (Srt ys) := hide (by rw [← hpy]; exact srt_put h.srt)
  have HLN : Hid (ys.length ≤ 1000) := hide (by rw [← hpy]; exact Nat.le_trans (putL_length h.srt) hl)
  have HYS := hide hys
  have HP := hide (posL_le x xs)
  have HFW := hide (show xs.length ≤ 100000 by omega)
  have HFI2 := hf _ hm1
  clear hf hh hpy hys
  generalize posL x xs = m at *
  have hw := item_cells hm1.box
  obtain ⟨c0, c1, c2, c3, c4⟩ := hw
  unfold It.vc at HFI2 c0 c1 c2 c3 c4
  have HFI3 := hide HFI2
  clear HFI2 h hm1
  unfold It.v
  go_enter Try.func12, Try.ntmps12
  go_wp2_with (go_at_call 20; refine HFI3.out.mono ?_; rintro e W ⟨rfl, hm2⟩; have HM := hide hm2; clear hm2)
  clear HFI3 c0 c1 c2 c3 c4
  obtain ⟨v, hv, hit, hr⟩ := HM.out.ix.v
  have HIT := hide hit
  have HV := hide hv
  have HR := hide hr
  clear hv hit hr
  refine region_phases (ops := _) (valV [some (.pointer (some ⟨g, 0, none⟩)), some (.pointer (some ⟨g, 0, none⟩)), some (.pointer (some ⟨g, 0, none⟩)), some (.pointer (some ⟨g, 0, none⟩)), some (v), some (.int .i64 (m : Int)), some (.agg #[.int .i64 x.t, .string x.key, .string x.val, .int .i64 x.p, .int .i64 x.s]), none, none, some (.pointer (some ⟨g, 0, none⟩)), some (.pointer (some ⟨g, 0, none⟩)), none]) (phased [⟨11, 8, PtC W v ys g⟩, ⟨8, 8, RowP W 0 v ys⟩, ⟨7, 7, PtA W x⟩] (fun w => Abv W w)) (by kernel_rfl) (by kernel_rfl) (by kernel_rfl) (by kernel_rfl) (phased_ext (by kernel_rfl)) ?_ ?_ ?_
  · exact (Abv.refl _).drew
  · intro i o ho L a w2 hph hsz hLi hnot hyes old dep
    match i, ho with
    | 0, ho =>
      obtain rfl := Option.some.inj ho
      rw [if_pos (wanted_none rfl)]
      have o0 := old 0 (by kernel_rfl)
      refine wp_yields (v := .pointer (some ⟨g, 0, none⟩)) (w' := w2) ?_ (fun u hu => Option.some.inj (Option.some.inj hu)) (phased_quiet hLi (by rfl) hph)
      clear dep old ho hsz hph hnot hyes hLi
      go_simp
    | 1, ho =>
      obtain rfl := Option.some.inj ho
      rw [if_pos (wanted_none rfl)]
      have o0 := old 0 (by kernel_rfl)
      refine wp_yields (v := .pointer (some ⟨g, 0, none⟩)) (w' := w2) ?_ (fun u hu => Option.some.inj (Option.some.inj hu)) (phased_quiet hLi (by rfl) hph)
      clear dep old ho hsz hph hnot hyes hLi
      go_simp
    | 2, ho =>
      obtain rfl := Option.some.inj ho
      rw [if_pos (wanted_none rfl)]
      have d1 : a.tmps.getD 28 undef = .pointer (some ⟨g, 0, none⟩) := dep 1 _ _ (by kernel_rfl) rfl rfl _ rfl
      have e1 : a.tmps[28]?.getD undef = .pointer (some ⟨g, 0, none⟩) := (Array.getD_eq_getD_getElem? ..).symm.trans d1
      refine wp_yields (v := .pointer (some ⟨g, 0, none⟩)) (w' := w2) ?_ (fun u hu => Option.some.inj (Option.some.inj hu)) (phased_quiet hLi (by rfl) hph)
      clear dep old ho hsz hph hnot hyes hLi
      go_simp
    | 3, ho =>
      obtain rfl := Option.some.inj ho
      rw [if_pos (wanted_none rfl)]
      have d2 : a.tmps.getD 29 undef = .pointer (some ⟨g, 0, none⟩) := dep 2 _ _ (by kernel_rfl) rfl rfl _ rfl
      have e2 : a.tmps[29]?.getD undef = .pointer (some ⟨g, 0, none⟩) := (Array.getD_eq_getD_getElem? ..).symm.trans d2
      refine wp_yields (v := .pointer (some ⟨g, 0, none⟩)) (w' := w2) ?_ (fun u hu => Option.some.inj (Option.some.inj hu)) (phased_quiet hLi (by rfl) hph)
      clear dep old ho hsz hph hnot hyes hLi
      go_simp
    | 4, ho =>
      obtain rfl := Option.some.inj ho
      rw [if_pos (wanted_none rfl)]
      have d3 : a.tmps.getD 30 undef = .pointer (some ⟨g, 0, none⟩) := dep 3 _ _ (by kernel_rfl) rfl rfl _ rfl
      have e3 : a.tmps[30]?.getD undef = .pointer (some ⟨g, 0, none⟩) := (Array.getD_eq_getD_getElem? ..).symm.trans d3
      have hA : Abv W w2 := by
        have hph2 := hph
        unfold phased phased phased phased at hph2
        rw [if_neg (by rw [hnot 11 (by kernel_rfl)]; decide), if_neg (by rw [hnot 8 (by kernel_rfl)]; decide)] at hph2
        split at hph2
        · obtain ⟨_, b, _, _, _, hA⟩ := hph2; exact hA
        · exact hph2
      have hc := (HV.out.below hA).cell 0 _ rfl
      refine wp_yields (v := v) (w' := w2) ?_ (fun u hu => Option.some.inj (Option.some.inj hu)) (phased_quiet hLi (by rfl) hph)
      clear dep old ho hsz hph hnot hyes hLi
      go_simp
    | 5, ho =>
      obtain rfl := Option.some.inj ho
      rw [if_pos (wanted_none rfl)]
      have o4 := old 4 (by kernel_rfl)
      refine wp_yields (v := .int .i64 (m : Int)) (w' := w2) ?_ (fun u hu => Option.some.inj (Option.some.inj hu)) (phased_quiet hLi (by rfl) hph)
      clear dep old ho hsz hph hnot hyes hLi
      go_simp
    | 6, ho =>
      obtain rfl := Option.some.inj ho
      rw [if_pos (wanted_none rfl)]
      have o3 := old 3 (by kernel_rfl)
      have hA : Abv W w2 := phased_first (fun p hp => by simp only [List.mem_cons, List.not_mem_nil, or_false] at hp; rcases hp with rfl | rfl | rfl; exact hnot _ (by kernel_rfl); exact hnot _ (by kernel_rfl); exact hnot _ (by kernel_rfl)) hph
      obtain ⟨c0, c1, c2, c3, c4⟩ := item_cells (HM.out.box.below hA)
      refine wp_yields (v := .agg #[.int .i64 x.t, .string x.key, .string x.val, .int .i64 x.p, .int .i64 x.s]) (w' := w2) ?_ (fun u hu => Option.some.inj (Option.some.inj hu)) (phased_quiet hLi (by rfl) hph)
      clear dep old ho hsz hph hnot hyes hLi
      go_simp
    | 7, ho =>
      obtain rfl := Option.some.inj ho
      rw [if_pos (wanted_none rfl)]
      have d6 : a.tmps.getD 33 undef = .agg #[.int .i64 x.t, .string x.key, .string x.val, .int .i64 x.p, .int .i64 x.s] := dep 6 _ _ (by kernel_rfl) rfl rfl _ rfl
      have e6 : a.tmps[33]?.getD undef = .agg #[.int .i64 x.t, .string x.key, .string x.val, .int .i64 x.p, .int .i64 x.s] := (Array.getD_eq_getD_getElem? ..).symm.trans d6
      have hA : Abv W w2 := phased_first (fun p hp => by simp only [List.mem_cons, List.not_mem_nil, or_false] at hp; rcases hp with rfl | rfl | rfl; exact hnot 11 (by kernel_rfl); exact hnot 8 (by kernel_rfl); exact hLi) hph
      have hr := run_slice_one (P := Try.prog) w2 25 32 x.vc _ 5 56 Try.underlying25 infoI rfl (by omega) (by omega)
      have d6' : a.eval (.tmp 33) = .agg #[.int .i64 x.t, .string x.key, .string x.val, .int .i64 x.p, .int .i64 x.s] := d6
      refine wp_slice_run (w' := w2.alloc (.cells x.vc 32)) (v := .slice (some ⟨w2.heap.size, 0, none⟩) 1 1) 25 1 _ rfl ?_ ⟨_, rfl, (fun u hu => by cases Option.some.inj hu), ?_⟩
      · simp only [List.map_toArray, List.map_cons, List.map_nil, d6']
        exact hr
      · unfold phased phased phased
        rw [if_neg (by simp [also, hnot 11 (by kernel_rfl)]), if_neg (by simp [also, hnot 8 (by kernel_rfl)]), if_pos (by simp [also])]
        exact ⟨by simp [also], w2.heap.size, by simp [yielding], Blk.new_ w2 _ _ rfl, Below.size hA, hA.alloc _⟩
    | 8, ho =>
      obtain rfl := Option.some.inj ho
      rw [if_pos (wanted_none rfl)]
      have d4 : a.tmps.getD 31 undef = v := dep 4 _ _ (by kernel_rfl) rfl rfl _ rfl
      have e4 : a.tmps[31]?.getD undef = v := (Array.getD_eq_getD_getElem? ..).symm.trans d4
      have d5 : a.tmps.getD 32 undef = .int .i64 (m : Int) := dep 5 _ _ (by kernel_rfl) rfl rfl _ rfl
      have e5 : a.tmps[32]?.getD undef = .int .i64 (m : Int) := (Array.getD_eq_getD_getElem? ..).symm.trans d5
      unfold phased phased phased at hph
      rw [if_neg (by rw [hnot 11 (by kernel_rfl)]; decide), if_neg (by rw [hLi]; decide), if_pos (hyes 7 (by kernel_rfl))] at hph
      obtain ⟨_, b, eb, hbb, hbW, hA⟩ := hph
      have eb' : a.tmps.getD 34 undef = .slice (some ⟨b, 0, none⟩) 1 1 := eb
      have eb2 : a.tmps[34]?.getD undef = .slice (some ⟨b, 0, none⟩) 1 1 := (Array.getD_eq_getD_getElem? ..).symm.trans eb'
      have hit2 : Its 32 w2 0 v xs := HIT.out.below hA
      have hins := insert_any hit2 HFW.out (Nat.zero_le _) hbb HP.out (fun k hk e => by have h1 := (Its.lt HIT.out k hk).2; omega)
      refine wp_enters9 (f := 21) (args := #[v, .int .i64 (m : Int), .slice (some ⟨b, 0, none⟩) 1 1]) ?_ (hins.mono fun e w3 h => ?_)
      · clear dep old ho hsz hnot hyes hLi; go_simp
      · obtain ⟨v', rfl, h1, h2, h3⟩ := h
        refine ⟨v', rfl, (fun u hu => by cases Option.some.inj hu), ?_⟩
        unfold phased phased
        rw [if_neg (by simp [also, hnot 11 (by kernel_rfl)]), if_pos (by simp [also])]
        refine ⟨by simp [also], ?_⟩
        have hk : RowP W 0 v ys v' w3 := by
          rw [← HYS.out]
          refine ⟨h1, (Kept.of_below hA).trans_same h2, fun k hk => ?_⟩
          rcases h3 k hk with h4 | h4
          · exact .inl h4
          · exact .inr (Nat.le_trans (Below.size hA) h4)
        simpa [yielding] using hk
    | 9, ho =>
      obtain rfl := Option.some.inj ho
      rw [if_pos (wanted_none rfl)]
      have d0 : a.tmps.getD 27 undef = .pointer (some ⟨g, 0, none⟩) := dep 0 _ _ (by kernel_rfl) rfl rfl _ rfl
      have e0 : a.tmps[27]?.getD undef = .pointer (some ⟨g, 0, none⟩) := (Array.getD_eq_getD_getElem? ..).symm.trans d0
      refine wp_yields (v := .pointer (some ⟨g, 0, none⟩)) (w' := w2) ?_ (fun u hu => Option.some.inj (Option.some.inj hu)) (phased_quiet hLi (by rfl) hph)
      clear dep old ho hsz hph hnot hyes hLi
      go_simp
    | 10, ho =>
      obtain rfl := Option.some.inj ho
      rw [if_pos (wanted_none rfl)]
      have d9 : a.tmps.getD 36 undef = .pointer (some ⟨g, 0, none⟩) := dep 9 _ _ (by kernel_rfl) rfl rfl _ rfl
      have e9 : a.tmps[36]?.getD undef = .pointer (some ⟨g, 0, none⟩) := (Array.getD_eq_getD_getElem? ..).symm.trans d9
      refine wp_yields (v := .pointer (some ⟨g, 0, none⟩)) (w' := w2) ?_ (fun u hu => Option.some.inj (Option.some.inj hu)) (phased_quiet hLi (by rfl) hph)
      clear dep old ho hsz hph hnot hyes hLi
      go_simp
    | 11, ho =>
      obtain rfl := Option.some.inj ho
      rw [if_pos (wanted_none rfl)]
      have d10 : a.tmps.getD 37 undef = .pointer (some ⟨g, 0, none⟩) := dep 10 _ _ (by kernel_rfl) rfl rfl _ rfl
      have e10 : a.tmps[37]?.getD undef = .pointer (some ⟨g, 0, none⟩) := (Array.getD_eq_getD_getElem? ..).symm.trans d10
      unfold phased phased at hph
      rw [if_neg (by rw [hLi]; decide), if_pos (hyes 8 (by kernel_rfl))] at hph
      obtain ⟨v', ev⟩ : ∃ v', a.tmps.getD 35 undef = v' := ⟨_, rfl⟩
      have hphv : RowP W 0 v ys (a.tmps.getD 35 undef) w2 := hph.2
      have hphw := hphv
      rw [ev] at hphw
      have ev2 : a.tmps[35]?.getD undef = v' := (Array.getD_eq_getD_getElem? ..).symm.trans ev
      have V3 := hphw.2.1.blk HV.out (fun e => HM.out.ix.ne (HR.out.symm.trans e))
      have hc := V3.cell 0 _ rfl
      have hf := V3.frozen 0
      obtain ⟨A, c, rfl⟩ := Its.form hphw.1
      refine wp_skips (w' := w2.setCell ⟨g, 0, none⟩ (.slice A ys.length c)) ?_ (fun u hu => by cases Option.some.inj hu) ?_
      · clear dep old ho hsz hnot hyes hLi ev hph hphv hphw
        go_simp
      · unfold phased
        rw [if_pos (by simp [also])]
        exact ⟨by simp [also, hyes 8 (by kernel_rfl)], w2, hphv, congrArg (fun v => w2.setCell ⟨g, 0, none⟩ v) ev.symm⟩
    | i + 12, ho => exact absurd ho (by simp)
  · intro a w2 hph hsz hdf fin keep
    unfold phased at hph
    rw [if_pos rfl] at hph
    have hph2 : PtC W v ys g (a.tmps.getD 35 undef) w2 := hph.2
    obtain ⟨tm, df⟩ := a
    dsimp only at hdf
    subst hdf
    have HPH := hide hph2
    clear hph hph2 fin keep hsz
    go_wp2
    go_end0
    obtain ⟨w3, h1, rfl⟩ := HPH.out
    exact ⟨rfl, IxP.from_ HM.out.bel (ix_set HM.out.ix HV.out HR.out h1 HSR.out HLN.out)⟩
/-- Put. -/
theorem Put_any {w : World} {g : Nat} {r : Option Nat} {xs : List It} (x : It) (h : Ix w g r xs) (hl : xs.length < 1000) :
    Calls Try.prog 12 #[.pointer (some ⟨g, 0, none⟩), x.v] w fun e w' => e = .returned (.tuple #[]) ∧ IxP w g r (putL x xs) w' := by
  cases hh : hasL x xs
  · exact put_add h hh hl
  · exact put_over h hh
theorem Put_nil (x : It) (w : World) : Calls Try.prog 12 #[.pointer none, x.v] w fun e w' => e = .returned (.tuple #[]) ∧ Below w.heap.size w w' := by
  unfold It.v
  go_enter Try.func12, Try.ntmps12
  go_wp2
  refine bodyPost_ret (results_none rfl _ _ _) rfl ?_
  exact ⟨rfl, (Below.refl _ _).alloc (Nat.le_refl _) _⟩
end Go.Proofs.Ytkcomkllnhdohaa
