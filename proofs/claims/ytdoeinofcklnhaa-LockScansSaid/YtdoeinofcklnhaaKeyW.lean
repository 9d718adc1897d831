/-
  Locks.Key with change.
-/
import Derived.Test.YtdoeinofcklnhaaKey
namespace Go.Proofs.Ytdoeinofcklnhaa
open Go.RowKit
set_option maxRecDepth 20000
set_option linter.unusedSimpArgs false
set_option linter.unusedVariables false

/-- A new slice of n elements in a block of its own. -/
def Say.sl (B n : Nat) (t : TypeId) (cs : Array Value) : Say := ⟨fun w v => ∃ b, v = .slice (some ⟨b, 0, none⟩) n n ∧ B ≤ b ∧ Blk w b t cs, fun _ _ _ ⟨b, e, h1, h2⟩ hb => ⟨b, e, h1, h2.below hb⟩⟩
theorem key_change {w : World} {g n : Nat} {S : Th → Option Ho} {O : Nat → Prop} (h : Lk w g n S O) (who t : Int) (k : ByteArray) (hw : (Lit.int .i64 who).wf = true) (hx : Th.Ok ⟨t, false, k⟩) (hn : n ≤ 900000) :
    Calls Try.prog 10 #[.pointer (some ⟨g, 0, none⟩), .int .i64 who, .int .i64 t, .string k, .bool true] w fun e w' => LockP w g n S O who (keyW t k) e w' := by
  have hy : Th.Ok ⟨t, true, ⟨#[]⟩⟩ := ⟨hx.t, Nat.zero_le _⟩
  have HL := hide (fun (w1 : World) (b : Nat) (hb : Below w.heap.size w w1) (hbb : w.heap.size ≤ b) (hB : Blk w1 b 46 #[.int .i64 t, .bool true, .string ⟨#[]⟩, .int .i64 2, .int .i64 t, .bool false, .string k, .int .i64 3]) => lock_two (x := ⟨t, true, ⟨#[]⟩⟩) (y := ⟨t, false, k⟩) (m := 2) (q := 3) h hb hy hx who hw hn hbb hB)
  clear h hw hn hx hy
  have HX := hide (Blk.new_ w #[.int .i64 t, .bool false, .string k] 43 rfl)
  have HB0 := hide ((Below.refl _ w).alloc (Nat.le_refl _) (.cells #[.int .i64 t, .bool false, .string k] 43))
  go_enter Try.func10, Try.ntmps10
  go_upto_region 4 with (fail)
  refine region_last 8 31 [Say.is (.pointer (some ⟨g, 0, none⟩)), Say.is (.int .i64 who), Say.is (.int .i64 t), Say.is (.agg #[.int .i64 t, .bool true, .string ⟨#[]⟩]), Say.is (.agg #[.int .i64 t, .bool true, .string ⟨#[]⟩, .int .i64 2]), Say.is (.agg #[.int .i64 t, .bool false, .string k]), Say.is (.agg #[.int .i64 t, .bool false, .string k, .int .i64 3]), Say.sl w.heap.size 2 46 #[.int .i64 t, .bool true, .string ⟨#[]⟩, .int .i64 2, .int .i64 t, .bool false, .string k, .int .i64 3]] (fun v w' => LockP w g n S O who (keyW t k) (.returned v) w') rfl rfl rfl (by kernel_rfl) (by kernel_rfl) (by kernel_rfl) (by kernel_rfl) (by kernel_rfl) ?_ ?_ ?_ ?_
  · intro i o hik ho a w2 hb hsz old dep
    match i, ho with
    | 0, ho =>
      obtain rfl := Option.some.inj ho
      have o0 : a.tmps.getD 0 undef = _ := old 0 (by kernel_rfl)
      rw [if_pos (wanted_none rfl)]
      refine grow_same (v := .pointer (some ⟨g, 0, none⟩)) ?_ rfl
      clear old dep ho hsz hb
      go_simp
    | 1, ho =>
      obtain rfl := Option.some.inj ho
      have o1 : a.tmps.getD 1 undef = _ := old 1 (by kernel_rfl)
      rw [if_pos (wanted_none rfl)]
      refine grow_same (v := .int .i64 who) ?_ rfl
      clear old dep ho hsz hb
      go_simp
    | 2, ho =>
      obtain rfl := Option.some.inj ho
      have o2 : a.tmps.getD 2 undef = _ := old 2 (by kernel_rfl)
      rw [if_pos (wanted_none rfl)]
      refine grow_same (v := .int .i64 t) ?_ rfl
      clear old dep ho hsz hb
      go_simp
    | 3, ho =>
      obtain rfl := Option.some.inj ho
      have d2 : a.tmps.getD 25 undef = .int .i64 t := dep 2 _ _ (by kernel_rfl) rfl rfl
      have e2 : a.tmps[25]?.getD undef = _ := (Array.getD_eq_getD_getElem? ..).symm.trans d2
      rw [if_pos (wanted_none rfl)]
      refine grow_enters (f := 15) (args := #[.int .i64 t]) ?_ ((whole_any t w2).mono (by rintro e w' ⟨rfl, hb⟩; exact ⟨_, rfl, rfl, hb⟩))
      clear old dep ho hsz hb
      go_simp
    | 4, ho =>
      obtain rfl := Option.some.inj ho
      have d3 : a.tmps.getD 26 undef = .agg #[.int .i64 t, .bool true, .string ⟨#[]⟩] := dep 3 _ _ (by kernel_rfl) rfl rfl
      have e3 : a.tmps[26]?.getD undef = _ := (Array.getD_eq_getD_getElem? ..).symm.trans d3
      rw [if_pos (wanted_none rfl)]
      refine grow_same (v := .agg #[.int .i64 t, .bool true, .string ⟨#[]⟩, .int .i64 2]) ?_ rfl
      clear old dep ho hsz hb
      go_simp
    | 5, ho =>
      obtain rfl := Option.some.inj ho
      have o11 : a.tmps.getD 11 undef = _ := old 11 (by kernel_rfl)
      rw [if_pos (wanted_none rfl)]
      have c0 := (HX.out.below hb).cell 0 _ rfl
      have c1 := (HX.out.below hb).cell 1 _ rfl
      have c2 := (HX.out.below hb).cell 2 _ rfl
      refine grow_same (v := .agg #[.int .i64 t, .bool false, .string k]) ?_ rfl
      clear old dep ho hsz hb
      go_simp
    | 6, ho =>
      obtain rfl := Option.some.inj ho
      have d5 : a.tmps.getD 28 undef = .agg #[.int .i64 t, .bool false, .string k] := dep 5 _ _ (by kernel_rfl) rfl rfl
      have e5 : a.tmps[28]?.getD undef = _ := (Array.getD_eq_getD_getElem? ..).symm.trans d5
      rw [if_pos (wanted_none rfl)]
      refine grow_same (v := .agg #[.int .i64 t, .bool false, .string k, .int .i64 3]) ?_ rfl
      clear old dep ho hsz hb
      go_simp
    | 7, ho =>
      obtain rfl := Option.some.inj ho
      have d4 : a.tmps.getD 27 undef = .agg #[.int .i64 t, .bool true, .string ⟨#[]⟩, .int .i64 2] := dep 4 _ _ (by kernel_rfl) rfl rfl
      have e4 : a.tmps[27]?.getD undef = _ := (Array.getD_eq_getD_getElem? ..).symm.trans d4
      have d6 : a.tmps.getD 29 undef = .agg #[.int .i64 t, .bool false, .string k, .int .i64 3] := dep 6 _ _ (by kernel_rfl) rfl rfl
      have e6 : a.tmps[29]?.getD undef = _ := (Array.getD_eq_getD_getElem? ..).symm.trans d6
      rw [if_pos (wanted_none rfl)]
      have hlo : w.heap.size ≤ w2.heap.size := by (have := hb.size; simp at this; omega)
      refine grow_yields (v := .slice (some ⟨w2.heap.size, 0, none⟩) 2 2) (w' := w2.alloc (.cells #[.int .i64 t, .bool true, .string ⟨#[]⟩, .int .i64 2, .int .i64 t, .bool false, .string k, .int .i64 3] 46)) ?_ ⟨_, rfl, hlo, Blk.new_ _ _ _ rfl⟩ ((Below.refl _ _).alloc (Nat.le_refl _) _)
      clear old dep ho hsz hb hlo
      go_simp
    | i + 8, ho => exact absurd hik (by omega)
  · intro a w2 hb hsz old dep
    have d0 : a.tmps.getD 23 undef = .pointer (some ⟨g, 0, none⟩) := dep 0 _ _ (by kernel_rfl) rfl rfl
    have e0 : a.tmps[23]?.getD undef = _ := (Array.getD_eq_getD_getElem? ..).symm.trans d0
    have d1 : a.tmps.getD 24 undef = .int .i64 who := dep 1 _ _ (by kernel_rfl) rfl rfl
    have e1 : a.tmps[24]?.getD undef = _ := (Array.getD_eq_getD_getElem? ..).symm.trans d1
    have s7 : (Say.sl w.heap.size 2 46 #[.int .i64 t, .bool true, .string ⟨#[]⟩, .int .i64 2, .int .i64 t, .bool false, .string k, .int .i64 3]).p w2 (a.tmps.getD 30 undef) := dep 7 _ _ (by kernel_rfl) rfl rfl
    obtain ⟨b, eb, hbb, hB⟩ := s7
    have eb2 : a.tmps[30]?.getD undef = _ := (Array.getD_eq_getD_getElem? ..).symm.trans eb
    have hbw : Below w.heap.size w w2 := HB0.out.trans (hb.mono (by simp))
    refine last_enters (f := 14) (args := #[.pointer (some ⟨g, 0, none⟩), .int .i64 who, .slice (some ⟨b, 0, none⟩) 2 2]) ?_ ((HL.out _ _ hbw hbb hB).mono (fun e w' hp => ⟨_, hp.1, by rw [← hp.1]; exact hp⟩))
    clear old dep hsz hb hbw hB hbb eb
    go_simp
  · intro i o hki ho
    have hin : i < 10 := (Array.getElem?_eq_some_iff.1 ho).1
    obtain rfl : i = 9 := by omega
    obtain rfl := Option.some.inj ho
    refine ⟨rfl, fun a w => ?_⟩
    rw [Array.getD_eq_getD_getElem?]
    clear hki ho hin
    go_simp
  · intro a w2 v hR hsz hdf hk fin keep
    obtain ⟨tm, df⟩ := a
    have hx := frame_of [23, 24, 25, 26, 27, 28, 29, 30, 31, 10] (by kernel_rfl) hsz keep
    dsimp only at hdf hx hk
    simp only [List.foldl_cons, List.foldl_nil] at hx
    subst hdf
    clear hsz keep
    rw [hk] at hx
    clear hk
    generalize tm.getD 23 undef = y23 at hx
    generalize tm.getD 24 undef = y24 at hx
    generalize tm.getD 25 undef = y25 at hx
    generalize tm.getD 26 undef = y26 at hx
    generalize tm.getD 27 undef = y27 at hx
    generalize tm.getD 28 undef = y28 at hx
    generalize tm.getD 29 undef = y29 at hx
    generalize tm.getD 30 undef = y30 at hx
    have kn : tm.getD 10 undef = v := fin 9 _ _ (by decide) rfl rfl
    rw [kn] at hx
    clear kn
    clear fin
    simp only [List.setIfInBounds_toArray, List.set_cons_succ, List.set_cons_zero] at hx
    subst hx
    have HR := hide hR
    clear hR
    go_wp2
    go_ret
    exact HR.out
end Go.Proofs.Ytdoeinofcklnhaa
