/-
  Locks.lock: all that is wanted, or none of it.
-/
import Derived.Test.YtdoeinofcklnhaaTake
namespace Go.Proofs.Ytdoeinofcklnhaa
open Go.RowKit
set_option maxRecDepth 20000
set_option linter.unusedSimpArgs false
set_option linter.unusedVariables false

/-- May somebody hold a thing in a mode? -/
noncomputable def canB (S : Th → Option Ho) (who : Int) (x : Th) (mode : Int) : Bool := match S x with | none => true | some ho => letsB ho who mode
noncomputable def canAll (S : Th → Option Ho) (who : Int) (ws : List (Th × Int)) : Bool := ws.all fun x => canB S who x.1 x.2
def takeAll (S : Th → Option Ho) (who : Int) (ws : List (Th × Int)) : Th → Option Ho := ws.foldl (fun S x => takeS S who x.1 x.2) S
theorem takeAll_snoc (S : Th → Option Ho) (who : Int) (ws : List (Th × Int)) (x : Th × Int) : takeAll S who (ws ++ [x]) = takeS (takeAll S who ws) who x.1 x.2 := by
  unfold takeAll
  rw [List.foldl_append]
  rfl
/-- The wants ws lie in block b. -/
def Wants (w : World) (b : Nat) (ws : List (Th × Int)) : Prop := (∀ j x, ws[j]? = some x → w.cell? ⟨b, j * 4, none⟩ = some (.int .i64 x.1.t) ∧ w.cell? ⟨b, j * 4 + 1, none⟩ = some (.bool x.1.w) ∧ w.cell? ⟨b, j * 4 + 2, none⟩ = some (.string x.1.key) ∧ w.cell? ⟨b, j * 4 + 3, none⟩ = some (.int .i64 x.2)) ∧ b < w.heap.size ∧ ∀ x ∈ ws, x.1.Ok
theorem Wants.keep {X : Nat → Prop} {w w' : World} {b : Nat} {ws : List (Th × Int)} (h : Wants w b ws) (hk : Kept X w w') (hb : ¬ X b) : Wants w' b ws := by
  refine ⟨fun j x hj => ?_, Nat.lt_of_lt_of_le h.2.1 hk.size, h.2.2⟩
  obtain ⟨h1, h2, h3, h4⟩ := h.1 j x hj
  exact ⟨(hk.cell (p := ⟨b, j * 4, none⟩) h.2.1 hb).trans h1, (hk.cell (p := ⟨b, j * 4 + 1, none⟩) h.2.1 hb).trans h2, (hk.cell (p := ⟨b, j * 4 + 2, none⟩) h.2.1 hb).trans h3, (hk.cell (p := ⟨b, j * 4 + 3, none⟩) h.2.1 hb).trans h4⟩
theorem Wants.below {w w' : World} {b : Nat} {ws : List (Th × Int)} (h : Wants w b ws) (hb : Below w.heap.size w w') : Wants w' b ws := h.keep (Kept.of_below (S := fun _ => False) hb) id
/-- What a call of lock leaves. -/
def LockP (w : World) (g n : Nat) (S : Th → Option Ho) (O : Nat → Prop) (who : Int) (ws : List (Th × Int)) (e : Ending) (w' : World) : Prop :=
  e = .returned (.bool (canAll S who ws)) ∧ Kept O w w' ∧ Lk w' g (n + ws.length) (if canAll S who ws then takeAll S who ws else S) (fun k => O k ∨ w.heap.size ≤ k)
theorem LockP.no {w w' : World} {g n : Nat} {S : Th → Option Ho} {O : Nat → Prop} {who : Int} {ws : List (Th × Int)} (h : Lk w g n S O) (hb : Below w.heap.size w w') (hc : canAll S who ws = false) : LockP w g n S O who ws (.returned (.bool false)) w' := by
  refine ⟨by rw [hc], Kept.of_below hb, ?_⟩
  rw [hc]
  exact (((h.keep (X := fun _ => False) (Kept.of_below hb) (fun _ _ => id)).more (by omega)).mono (fun k hk _ => .inl hk))
theorem canAll_take {S : Th → Option Ho} {who : Int} {ws : List (Th × Int)} {j : Nat} {x : Th × Int} (hx : ws[j]? = some x) : canAll S who (ws.take (j + 1)) = (canAll S who (ws.take j) && canB S who x.1 x.2) := by
  unfold canAll
  rw [List.take_add_one, hx, List.all_append]
  simp
theorem canAll_no {S : Th → Option Ho} {who : Int} {ws : List (Th × Int)} {j : Nat} {x : Th × Int} (hx : ws[j]? = some x) (h : canB S who x.1 x.2 = false) : canAll S who ws = false := by
  unfold canAll
  rw [List.all_eq_false]
  exact ⟨x, List.mem_of_getElem? hx, by rw [h]; decide⟩
set_option maxHeartbeats 4000000 in
theorem lock_nil (who : Int) (v : Value) (w : World) : Calls Try.prog 14 #[.pointer none, .int .i64 who, v] w fun e w' => e = .returned (.bool false) ∧ w = w' := by
  go_enter Try.func14, Try.ntmps14
  go_wp2
  go_ret
  exact ⟨rfl, rfl⟩
/-- What a round of the second loop leaves. -/
theorem taken_kept {w wr w5 : World} {O : Nat → Prop} {g mb : Nat} {f : Th → Option Hd} {c : Obj} (hk : Kept O w wr) (hO : ∀ k, lkB g mb f k → O k ∨ w.heap.size ≤ k) (h : Kept (lkB g mb f) (wr.alloc c) w5) : Kept O w w5 :=
  (hk.trans (Kept.of_below (S := fun _ => False) ((Below.refl _ wr).alloc (Nat.le_refl _) c)) (fun k e => e.elim)).trans h hO
theorem taken_lk {w wr w5 : World} {O : Nat → Prop} {g mb n : Nat} {f : Th → Option Hd} {S : Th → Option Ho} {c : Obj} (hk : Kept O w wr) (hO : ∀ k, lkB g mb f k → O k ∨ w.heap.size ≤ k) (h : Lk w5 g n S (fun j => lkB g mb f j ∨ (wr.alloc c).heap.size ≤ j)) : Lk w5 g n S (fun k => O k ∨ w.heap.size ≤ k) :=
  h.mono (fun k e _ => by
    rcases e with e | e
    · exact hO k e
    · have := hk.size
      simp only [World.size_alloc] at e
      exact .inr (by omega))
set_option maxHeartbeats 8000000 in
theorem lock_any {w : World} {g n bw cap : Nat} {S : Th → Option Ho} {O : Nat → Prop} {ws : List (Th × Int)} (h : Lk w g n S O) (hws : Wants w bw ws) (hO : ¬ O bw) (hlen : ws.length ≤ 10) (who : Int) (hw : (Lit.int .i64 who).wf = true) (hn : n ≤ 900000) :
    Calls Try.prog 14 #[.pointer (some ⟨g, 0, none⟩), .int .i64 who, .slice (some ⟨bw, 0, none⟩) ws.length cap] w fun e w' => LockP w g n S O who ws e w' := by
  obtain ⟨mb, f, hI, hlk⟩ := id h
  have HK := hide h
  have HI := hide hI
  have HLKB := hide hlk
  have HWS := hide hws
  have HOB := hide hO
  have HW := hide hw
  have HN : Hid (n ≤ 1000000) := hide (by omega)
  have HN2 : Hid (n + ws.length ≤ 1000000) := hide (by omega)
  have hl10 : (ws.length : Int) ≤ 10 := by omega
  clear h hI hws hO hw hn hlk hlen
  go_enter Try.func14, Try.ntmps14
  go_wp2
  go_loopw [15] (fun i wr => ∃ j : Nat, j ≤ ws.length ∧ i = .int .i64 j ∧ Hid (Below w.heap.size w wr) ∧ Hid (canAll S who (ws.take j) = true)) (fun i _ => ws.length - (intOf i).toNat)
  case atStart => exact ⟨0, by omega, rfl, hide (Below.refl _ _), hide rfl⟩
  case round =>
    obtain ⟨j, hj, rfl, HB, HC⟩ := hrel
    by_cases hlt : j < ws.length
    · obtain ⟨⟨⟨t, b, k⟩, mode⟩, hxx⟩ : ∃ x, ws[j]? = some x := ⟨_, List.getElem?_eq_getElem hlt⟩
      obtain ⟨i0, i1, i2, i3⟩ := (HWS.out.below HB.out).1 j _ hxx
      have hok : Th.Ok ⟨t, b, k⟩ := HWS.out.2.2 _ (List.mem_of_getElem? hxx)
      dsimp only at i0 i1 i2 i3
      have q0 : (0 : Int) ≤ (j : Int) := by omega
      have q1 : (j : Int) < (ws.length : Int) := by omega
      have HLT := hide hlt
      have HXX := hide hxx
      clear hlt hxx
      have LB := hide ((HI.out.below HB.out).below ((Below.refl _ wr).alloc (Nat.le_refl _) (.cells #[.int .i64 t, .bool b, .string k, .int .i64 mode] 46)))
      have HX := hide (Blk.new_ wr #[.int .i64 t, .bool b, .string k, .int .i64 mode] 46 rfl)
      cases hf : f ⟨t, b, k⟩ with
      | none =>
        have HL : Hid (∀ w2, Below (wr.alloc (.cells #[.int .i64 t, .bool b, .string k, .int .i64 mode] 46)).heap.size (wr.alloc (.cells #[.int .i64 t, .bool b, .string k, .int .i64 mode] 46)) w2 → (Instr.lookup 39 (.map (some mb)) (.agg #[.int .i64 t, .bool b, .string k]) false).run Try.prog w2 = .ok (.agg #[.int .i64 0, .map none]) w2) := hide (fun w2 hb => by
          obtain ⟨c, hm⟩ := (LB.out.below hb).map
          have := hm.look_any mapHold zero_hold ⟨t, b, k⟩ hok false
          unfold gotV at this
          rw [hf] at this
          exact this)
        have HCB := hide (show canB S who ⟨t, b, k⟩ mode = true by unfold canB; rw [HI.out.none_ _ hf])
        clear hf hok
        go_upto_region 6 with (fail)
        refine region_grows [Say.is (.pointer (some ⟨g, 0, none⟩)), Say.is (.pointer (some ⟨g, 0, none⟩)), Say.is (.pointer (some ⟨g, 0, none⟩)), Say.is (.map (some mb)), Say.is (.pointer (some ⟨wr.heap.size, 0, none⟩)), Say.is (.agg #[.int .i64 t, .bool b, .string k]), Say.is (.agg #[.int .i64 0, .map none]), Say.is (.int .i64 who), Say.is (.pointer (some ⟨wr.heap.size, 3, none⟩)), Say.is (.int .i64 mode), Say.is (.bool true), Say.is (.bool false)] (by kernel_rfl) (by kernel_rfl) (by kernel_rfl) (by kernel_rfl) ?_ ?_
        · intro i o ho a w2 hb hsz old dep
          match i, ho with
          | 0, ho =>
            obtain rfl := Option.some.inj ho
            have o0 : a.tmps.getD 0 undef = _ := old 0 (by kernel_rfl)
            rw [if_pos (wanted_none rfl)]
            refine grow_same (v := .pointer (some ⟨g, 0, none⟩)) ?_ rfl
            clear old dep ho hsz hb
            go_simp
          | 1, ho =>
            obtain rfl := Option.some.inj ho
            have d0 : a.tmps.getD 19 undef = .pointer (some ⟨g, 0, none⟩) := dep 0 _ _ (by kernel_rfl) rfl rfl
            have e0 : a.tmps[19]?.getD undef = _ := (Array.getD_eq_getD_getElem? ..).symm.trans d0
            rw [if_pos (wanted_none rfl)]
            refine grow_same (v := .pointer (some ⟨g, 0, none⟩)) ?_ rfl
            clear old dep ho hsz hb
            go_simp
          | 2, ho =>
            obtain rfl := Option.some.inj ho
            have d1 : a.tmps.getD 20 undef = .pointer (some ⟨g, 0, none⟩) := dep 1 _ _ (by kernel_rfl) rfl rfl
            have e1 : a.tmps[20]?.getD undef = _ := (Array.getD_eq_getD_getElem? ..).symm.trans d1
            rw [if_pos (wanted_none rfl)]
            refine grow_same (v := .pointer (some ⟨g, 0, none⟩)) ?_ rfl
            clear old dep ho hsz hb
            go_simp
          | 3, ho =>
            obtain rfl := Option.some.inj ho
            have d2 : a.tmps.getD 21 undef = .pointer (some ⟨g, 0, none⟩) := dep 2 _ _ (by kernel_rfl) rfl rfl
            have e2 : a.tmps[21]?.getD undef = _ := (Array.getD_eq_getD_getElem? ..).symm.trans d2
            rw [if_pos (wanted_none rfl)]
            have c0 := (LB.out.below hb).blk.cell 0 _ rfl
            refine grow_same (v := .map (some mb)) ?_ rfl
            clear old dep ho hsz hb
            go_simp
          | 4, ho =>
            obtain rfl := Option.some.inj ho
            have o8 : a.tmps.getD 8 undef = _ := old 8 (by kernel_rfl)
            rw [if_pos (wanted_none rfl)]
            refine grow_same (v := .pointer (some ⟨wr.heap.size, 0, none⟩)) ?_ rfl
            clear old dep ho hsz hb
            go_simp
          | 5, ho =>
            obtain rfl := Option.some.inj ho
            have d4 : a.tmps.getD 23 undef = .pointer (some ⟨wr.heap.size, 0, none⟩) := dep 4 _ _ (by kernel_rfl) rfl rfl
            have e4 : a.tmps[23]?.getD undef = _ := (Array.getD_eq_getD_getElem? ..).symm.trans d4
            rw [if_pos (wanted_none rfl)]
            have c0 := (HX.out.below hb).cell 0 _ rfl
            have c1 := (HX.out.below hb).cell 1 _ rfl
            have c2 := (HX.out.below hb).cell 2 _ rfl
            refine grow_same (v := .agg #[.int .i64 t, .bool b, .string k]) ?_ rfl
            clear old dep ho hsz hb
            go_simp
          | 6, ho =>
            obtain rfl := Option.some.inj ho
            have d3 : a.tmps.getD 22 undef = .map (some mb) := dep 3 _ _ (by kernel_rfl) rfl rfl
            have e3 : a.tmps[22]?.getD undef = _ := (Array.getD_eq_getD_getElem? ..).symm.trans d3
            have d5 : a.tmps.getD 24 undef = .agg #[.int .i64 t, .bool b, .string k] := dep 5 _ _ (by kernel_rfl) rfl rfl
            have e5 : a.tmps[24]?.getD undef = _ := (Array.getD_eq_getD_getElem? ..).symm.trans d5
            rw [if_pos (wanted_none rfl)]
            have hl := HL.out w2 hb
            refine grow_same (v := .agg #[.int .i64 0, .map none]) ?_ rfl
            clear old dep ho hsz hb
            go_simp
          | 7, ho =>
            obtain rfl := Option.some.inj ho
            have o1 : a.tmps.getD 1 undef = _ := old 1 (by kernel_rfl)
            rw [if_pos (wanted_none rfl)]
            refine grow_same (v := .int .i64 who) ?_ rfl
            clear old dep ho hsz hb
            go_simp
          | 8, ho =>
            obtain rfl := Option.some.inj ho
            have o8 : a.tmps.getD 8 undef = _ := old 8 (by kernel_rfl)
            rw [if_pos (wanted_none rfl)]
            refine grow_same (v := .pointer (some ⟨wr.heap.size, 3, none⟩)) ?_ rfl
            clear old dep ho hsz hb
            go_simp
          | 9, ho =>
            obtain rfl := Option.some.inj ho
            have d8 : a.tmps.getD 27 undef = .pointer (some ⟨wr.heap.size, 3, none⟩) := dep 8 _ _ (by kernel_rfl) rfl rfl
            have e8 : a.tmps[27]?.getD undef = _ := (Array.getD_eq_getD_getElem? ..).symm.trans d8
            rw [if_pos (wanted_none rfl)]
            have c3 := (HX.out.below hb).cell 3 _ rfl
            refine grow_same (v := .int .i64 mode) ?_ rfl
            clear old dep ho hsz hb
            go_simp
          | 10, ho =>
            obtain rfl := Option.some.inj ho
            have d6 : a.tmps.getD 25 undef = .agg #[.int .i64 0, .map none] := dep 6 _ _ (by kernel_rfl) rfl rfl
            have e6 : a.tmps[25]?.getD undef = _ := (Array.getD_eq_getD_getElem? ..).symm.trans d6
            have d7 : a.tmps.getD 26 undef = .int .i64 who := dep 7 _ _ (by kernel_rfl) rfl rfl
            have e7 : a.tmps[26]?.getD undef = _ := (Array.getD_eq_getD_getElem? ..).symm.trans d7
            have d9 : a.tmps.getD 28 undef = .int .i64 mode := dep 9 _ _ (by kernel_rfl) rfl rfl
            have e9 : a.tmps[28]?.getD undef = _ := (Array.getD_eq_getD_getElem? ..).symm.trans d9
            rw [if_pos (wanted_none rfl)]
            refine grow_enters (f := 16) (args := #[.agg #[.int .i64 0, .map none], .int .i64 who, .int .i64 mode]) ?_ ((lets_none who mode HW.out).mono (by rintro e w' ⟨rfl, hb⟩; exact ⟨_, rfl, rfl, hb⟩))
            clear old dep ho hsz hb
            go_simp
          | 11, ho =>
            obtain rfl := Option.some.inj ho
            have d10 : a.tmps.getD 29 undef = .bool true := dep 10 _ _ (by kernel_rfl) rfl rfl
            have e10 : a.tmps[29]?.getD undef = _ := (Array.getD_eq_getD_getElem? ..).symm.trans d10
            rw [if_pos (wanted_none rfl)]
            refine grow_same (v := .bool false) ?_ rfl
            clear old dep ho hsz hb
            go_simp
          | i + 12, ho => exact absurd ho (by simp)
        · intro a w2 hb hsz hdf fin keep
          obtain ⟨tm, df⟩ := a
          have hx := frame_of [19, 20, 21, 22, 23, 24, 25, 26, 27, 28, 29, 30] (by kernel_rfl) hsz keep
          dsimp only at hdf hx
          simp only [List.foldl_cons, List.foldl_nil] at hx
          subst hdf
          clear hsz keep
          have kn : tm.getD 19 undef = .pointer (some ⟨g, 0, none⟩) := fin 0 _ _ rfl rfl
          rw [kn] at hx
          clear kn
          have kn : tm.getD 20 undef = .pointer (some ⟨g, 0, none⟩) := fin 1 _ _ rfl rfl
          rw [kn] at hx
          clear kn
          have kn : tm.getD 21 undef = .pointer (some ⟨g, 0, none⟩) := fin 2 _ _ rfl rfl
          rw [kn] at hx
          clear kn
          have kn : tm.getD 22 undef = .map (some mb) := fin 3 _ _ rfl rfl
          rw [kn] at hx
          clear kn
          have kn : tm.getD 23 undef = .pointer (some ⟨wr.heap.size, 0, none⟩) := fin 4 _ _ rfl rfl
          rw [kn] at hx
          clear kn
          have kn : tm.getD 24 undef = .agg #[.int .i64 t, .bool b, .string k] := fin 5 _ _ rfl rfl
          rw [kn] at hx
          clear kn
          have kn : tm.getD 25 undef = .agg #[.int .i64 0, .map none] := fin 6 _ _ rfl rfl
          rw [kn] at hx
          clear kn
          have kn : tm.getD 26 undef = .int .i64 who := fin 7 _ _ rfl rfl
          rw [kn] at hx
          clear kn
          have kn : tm.getD 27 undef = .pointer (some ⟨wr.heap.size, 3, none⟩) := fin 8 _ _ rfl rfl
          rw [kn] at hx
          clear kn
          have kn : tm.getD 28 undef = .int .i64 mode := fin 9 _ _ rfl rfl
          rw [kn] at hx
          clear kn
          have kn : tm.getD 29 undef = .bool true := fin 10 _ _ rfl rfl
          rw [kn] at hx
          clear kn
          have kn : tm.getD 30 undef = .bool false := fin 11 _ _ rfl rfl
          rw [kn] at hx
          clear kn
          clear fin
          simp only [List.setIfInBounds_toArray, List.set_cons_succ, List.set_cons_zero] at hx
          subst hx
          have HB4 := hide ((HB.out.alloc HB.out.size (.cells #[.int .i64 t, .bool b, .string k, .int .i64 mode] 46)).trans (hb.mono (by have := HB.out.size; simp; omega)))
          clear hb
          go_wp2
          go_roundw
          case rel => exact ⟨j + 1, by have := HLT.out; omega, by go_num, HB4, hide (by rw [canAll_take HXX.out, HC.out]; exact by rw [HCB.out]; rfl)⟩
          case measure => simp [intOf]; have := HLT.out; omega
      | some hd =>
        obtain ⟨hm, hg⟩ := hd
        have HL : Hid (∀ w2, Below (wr.alloc (.cells #[.int .i64 t, .bool b, .string k, .int .i64 mode] 46)).heap.size (wr.alloc (.cells #[.int .i64 t, .bool b, .string k, .int .i64 mode] 46)) w2 → (Instr.lookup 39 (.map (some mb)) (.agg #[.int .i64 t, .bool b, .string k]) false).run Try.prog w2 = .ok (.agg #[.int .i64 hm, .map (some hg)]) w2) := hide (fun w2 hb => by
          obtain ⟨c, hm⟩ := (LB.out.below hb).map
          have := hm.look_any mapHold zero_hold ⟨t, b, k⟩ hok false
          unfold gotV at this
          rw [hf] at this
          exact this)
        obtain ⟨ho, hS, hmm, hown, _⟩ := HI.out.some_ _ _ hf
        have hmo : hm = ho.m := hmm
        have HCE := hide (show canB S who ⟨t, b, k⟩ mode = letsB ⟨hm, ho.o⟩ who mode by (unfold canB; rw [hS, hmo]))
        have HLET : Hid (∀ w2, Below (wr.alloc (.cells #[.int .i64 t, .bool b, .string k, .int .i64 mode] 46)).heap.size (wr.alloc (.cells #[.int .i64 t, .bool b, .string k, .int .i64 mode] 46)) w2 → Calls Try.prog 16 #[.agg #[.int .i64 hm, .map (some hg)], .int .i64 who, .int .i64 mode] w2 fun e w' => e = .returned (.bool (letsB ⟨hm, ho.o⟩ who mode)) ∧ Below w2.heap.size w2 w') := hide (fun w2 hb => by
          obtain ⟨_, hS2, _, ⟨c, hown2⟩, _⟩ := (LB.out.below hb).some_ _ _ hf
          rw [hS] at hS2
          obtain rfl := Option.some.inj hS2
          exact lets_some hown2 hm who mode HW.out HN.out)
        clear hf hok hS hmm hmo hown
        cases hcb : letsB ⟨hm, ho.o⟩ who mode
        · rw [hcb] at HLET HCE
          clear hcb
          go_upto_region 6 with (fail)
          refine region_grows [Say.is (.pointer (some ⟨g, 0, none⟩)), Say.is (.pointer (some ⟨g, 0, none⟩)), Say.is (.pointer (some ⟨g, 0, none⟩)), Say.is (.map (some mb)), Say.is (.pointer (some ⟨wr.heap.size, 0, none⟩)), Say.is (.agg #[.int .i64 t, .bool b, .string k]), Say.is (.agg #[.int .i64 hm, .map (some hg)]), Say.is (.int .i64 who), Say.is (.pointer (some ⟨wr.heap.size, 3, none⟩)), Say.is (.int .i64 mode), Say.is (.bool false), Say.is (.bool true)] (by kernel_rfl) (by kernel_rfl) (by kernel_rfl) (by kernel_rfl) ?_ ?_
          · intro i o ho a w2 hb hsz old dep
            match i, ho with
            | 0, ho =>
              obtain rfl := Option.some.inj ho
              have o0 : a.tmps.getD 0 undef = _ := old 0 (by kernel_rfl)
              rw [if_pos (wanted_none rfl)]
              refine grow_same (v := .pointer (some ⟨g, 0, none⟩)) ?_ rfl
              clear old dep ho hsz hb
              go_simp
            | 1, ho =>
              obtain rfl := Option.some.inj ho
              have d0 : a.tmps.getD 19 undef = .pointer (some ⟨g, 0, none⟩) := dep 0 _ _ (by kernel_rfl) rfl rfl
              have e0 : a.tmps[19]?.getD undef = _ := (Array.getD_eq_getD_getElem? ..).symm.trans d0
              rw [if_pos (wanted_none rfl)]
              refine grow_same (v := .pointer (some ⟨g, 0, none⟩)) ?_ rfl
              clear old dep ho hsz hb
              go_simp
            | 2, ho =>
              obtain rfl := Option.some.inj ho
              have d1 : a.tmps.getD 20 undef = .pointer (some ⟨g, 0, none⟩) := dep 1 _ _ (by kernel_rfl) rfl rfl
              have e1 : a.tmps[20]?.getD undef = _ := (Array.getD_eq_getD_getElem? ..).symm.trans d1
              rw [if_pos (wanted_none rfl)]
              refine grow_same (v := .pointer (some ⟨g, 0, none⟩)) ?_ rfl
              clear old dep ho hsz hb
              go_simp
            | 3, ho =>
              obtain rfl := Option.some.inj ho
              have d2 : a.tmps.getD 21 undef = .pointer (some ⟨g, 0, none⟩) := dep 2 _ _ (by kernel_rfl) rfl rfl
              have e2 : a.tmps[21]?.getD undef = _ := (Array.getD_eq_getD_getElem? ..).symm.trans d2
              rw [if_pos (wanted_none rfl)]
              have c0 := (LB.out.below hb).blk.cell 0 _ rfl
              refine grow_same (v := .map (some mb)) ?_ rfl
              clear old dep ho hsz hb
              go_simp
            | 4, ho =>
              obtain rfl := Option.some.inj ho
              have o8 : a.tmps.getD 8 undef = _ := old 8 (by kernel_rfl)
              rw [if_pos (wanted_none rfl)]
              refine grow_same (v := .pointer (some ⟨wr.heap.size, 0, none⟩)) ?_ rfl
              clear old dep ho hsz hb
              go_simp
            | 5, ho =>
              obtain rfl := Option.some.inj ho
              have d4 : a.tmps.getD 23 undef = .pointer (some ⟨wr.heap.size, 0, none⟩) := dep 4 _ _ (by kernel_rfl) rfl rfl
              have e4 : a.tmps[23]?.getD undef = _ := (Array.getD_eq_getD_getElem? ..).symm.trans d4
              rw [if_pos (wanted_none rfl)]
              have c0 := (HX.out.below hb).cell 0 _ rfl
              have c1 := (HX.out.below hb).cell 1 _ rfl
              have c2 := (HX.out.below hb).cell 2 _ rfl
              refine grow_same (v := .agg #[.int .i64 t, .bool b, .string k]) ?_ rfl
              clear old dep ho hsz hb
              go_simp
            | 6, ho =>
              obtain rfl := Option.some.inj ho
              have d3 : a.tmps.getD 22 undef = .map (some mb) := dep 3 _ _ (by kernel_rfl) rfl rfl
              have e3 : a.tmps[22]?.getD undef = _ := (Array.getD_eq_getD_getElem? ..).symm.trans d3
              have d5 : a.tmps.getD 24 undef = .agg #[.int .i64 t, .bool b, .string k] := dep 5 _ _ (by kernel_rfl) rfl rfl
              have e5 : a.tmps[24]?.getD undef = _ := (Array.getD_eq_getD_getElem? ..).symm.trans d5
              rw [if_pos (wanted_none rfl)]
              have hl := HL.out w2 hb
              refine grow_same (v := .agg #[.int .i64 hm, .map (some hg)]) ?_ rfl
              clear old dep ho hsz hb
              go_simp
            | 7, ho =>
              obtain rfl := Option.some.inj ho
              have o1 : a.tmps.getD 1 undef = _ := old 1 (by kernel_rfl)
              rw [if_pos (wanted_none rfl)]
              refine grow_same (v := .int .i64 who) ?_ rfl
              clear old dep ho hsz hb
              go_simp
            | 8, ho =>
              obtain rfl := Option.some.inj ho
              have o8 : a.tmps.getD 8 undef = _ := old 8 (by kernel_rfl)
              rw [if_pos (wanted_none rfl)]
              refine grow_same (v := .pointer (some ⟨wr.heap.size, 3, none⟩)) ?_ rfl
              clear old dep ho hsz hb
              go_simp
            | 9, ho =>
              obtain rfl := Option.some.inj ho
              have d8 : a.tmps.getD 27 undef = .pointer (some ⟨wr.heap.size, 3, none⟩) := dep 8 _ _ (by kernel_rfl) rfl rfl
              have e8 : a.tmps[27]?.getD undef = _ := (Array.getD_eq_getD_getElem? ..).symm.trans d8
              rw [if_pos (wanted_none rfl)]
              have c3 := (HX.out.below hb).cell 3 _ rfl
              refine grow_same (v := .int .i64 mode) ?_ rfl
              clear old dep ho hsz hb
              go_simp
            | 10, ho =>
              obtain rfl := Option.some.inj ho
              have d6 : a.tmps.getD 25 undef = .agg #[.int .i64 hm, .map (some hg)] := dep 6 _ _ (by kernel_rfl) rfl rfl
              have e6 : a.tmps[25]?.getD undef = _ := (Array.getD_eq_getD_getElem? ..).symm.trans d6
              have d7 : a.tmps.getD 26 undef = .int .i64 who := dep 7 _ _ (by kernel_rfl) rfl rfl
              have e7 : a.tmps[26]?.getD undef = _ := (Array.getD_eq_getD_getElem? ..).symm.trans d7
              have d9 : a.tmps.getD 28 undef = .int .i64 mode := dep 9 _ _ (by kernel_rfl) rfl rfl
              have e9 : a.tmps[28]?.getD undef = _ := (Array.getD_eq_getD_getElem? ..).symm.trans d9
              rw [if_pos (wanted_none rfl)]
              refine grow_enters (f := 16) (args := #[.agg #[.int .i64 hm, .map (some hg)], .int .i64 who, .int .i64 mode]) ?_ ((HLET.out w2 hb).mono (by rintro e w' ⟨rfl, hb⟩; exact ⟨_, rfl, rfl, hb⟩))
              clear old dep ho hsz hb
              go_simp
            | 11, ho =>
              obtain rfl := Option.some.inj ho
              have d10 : a.tmps.getD 29 undef = .bool false := dep 10 _ _ (by kernel_rfl) rfl rfl
              have e10 : a.tmps[29]?.getD undef = _ := (Array.getD_eq_getD_getElem? ..).symm.trans d10
              rw [if_pos (wanted_none rfl)]
              refine grow_same (v := .bool true) ?_ rfl
              clear old dep ho hsz hb
              go_simp
            | i + 12, ho => exact absurd ho (by simp)
          · intro a w2 hb hsz hdf fin keep
            obtain ⟨tm, df⟩ := a
            have hx := frame_of [19, 20, 21, 22, 23, 24, 25, 26, 27, 28, 29, 30] (by kernel_rfl) hsz keep
            dsimp only at hdf hx
            simp only [List.foldl_cons, List.foldl_nil] at hx
            subst hdf
            clear hsz keep
            have kn : tm.getD 19 undef = .pointer (some ⟨g, 0, none⟩) := fin 0 _ _ rfl rfl
            rw [kn] at hx
            clear kn
            have kn : tm.getD 20 undef = .pointer (some ⟨g, 0, none⟩) := fin 1 _ _ rfl rfl
            rw [kn] at hx
            clear kn
            have kn : tm.getD 21 undef = .pointer (some ⟨g, 0, none⟩) := fin 2 _ _ rfl rfl
            rw [kn] at hx
            clear kn
            have kn : tm.getD 22 undef = .map (some mb) := fin 3 _ _ rfl rfl
            rw [kn] at hx
            clear kn
            have kn : tm.getD 23 undef = .pointer (some ⟨wr.heap.size, 0, none⟩) := fin 4 _ _ rfl rfl
            rw [kn] at hx
            clear kn
            have kn : tm.getD 24 undef = .agg #[.int .i64 t, .bool b, .string k] := fin 5 _ _ rfl rfl
            rw [kn] at hx
            clear kn
            have kn : tm.getD 25 undef = .agg #[.int .i64 hm, .map (some hg)] := fin 6 _ _ rfl rfl
            rw [kn] at hx
            clear kn
            have kn : tm.getD 26 undef = .int .i64 who := fin 7 _ _ rfl rfl
            rw [kn] at hx
            clear kn
            have kn : tm.getD 27 undef = .pointer (some ⟨wr.heap.size, 3, none⟩) := fin 8 _ _ rfl rfl
            rw [kn] at hx
            clear kn
            have kn : tm.getD 28 undef = .int .i64 mode := fin 9 _ _ rfl rfl
            rw [kn] at hx
            clear kn
            have kn : tm.getD 29 undef = .bool false := fin 10 _ _ rfl rfl
            rw [kn] at hx
            clear kn
            have kn : tm.getD 30 undef = .bool true := fin 11 _ _ rfl rfl
            rw [kn] at hx
            clear kn
            clear fin
            simp only [List.setIfInBounds_toArray, List.set_cons_succ, List.set_cons_zero] at hx
            subst hx
            have HB4 := hide ((HB.out.alloc HB.out.size (.cells #[.int .i64 t, .bool b, .string k, .int .i64 mode] 46)).trans (hb.mono (by have := HB.out.size; simp; omega)))
            clear hb
            go_wp2
            go_ret
            exact LockP.no HK.out HB4.out (canAll_no HXX.out HCE.out)
        · rw [hcb] at HLET HCE
          clear hcb
          go_upto_region 6 with (fail)
          refine region_grows [Say.is (.pointer (some ⟨g, 0, none⟩)), Say.is (.pointer (some ⟨g, 0, none⟩)), Say.is (.pointer (some ⟨g, 0, none⟩)), Say.is (.map (some mb)), Say.is (.pointer (some ⟨wr.heap.size, 0, none⟩)), Say.is (.agg #[.int .i64 t, .bool b, .string k]), Say.is (.agg #[.int .i64 hm, .map (some hg)]), Say.is (.int .i64 who), Say.is (.pointer (some ⟨wr.heap.size, 3, none⟩)), Say.is (.int .i64 mode), Say.is (.bool true), Say.is (.bool false)] (by kernel_rfl) (by kernel_rfl) (by kernel_rfl) (by kernel_rfl) ?_ ?_
          · intro i o ho a w2 hb hsz old dep
            match i, ho with
            | 0, ho =>
              obtain rfl := Option.some.inj ho
              have o0 : a.tmps.getD 0 undef = _ := old 0 (by kernel_rfl)
              rw [if_pos (wanted_none rfl)]
              refine grow_same (v := .pointer (some ⟨g, 0, none⟩)) ?_ rfl
              clear old dep ho hsz hb
              go_simp
            | 1, ho =>
              obtain rfl := Option.some.inj ho
              have d0 : a.tmps.getD 19 undef = .pointer (some ⟨g, 0, none⟩) := dep 0 _ _ (by kernel_rfl) rfl rfl
              have e0 : a.tmps[19]?.getD undef = _ := (Array.getD_eq_getD_getElem? ..).symm.trans d0
              rw [if_pos (wanted_none rfl)]
              refine grow_same (v := .pointer (some ⟨g, 0, none⟩)) ?_ rfl
              clear old dep ho hsz hb
              go_simp
            | 2, ho =>
              obtain rfl := Option.some.inj ho
              have d1 : a.tmps.getD 20 undef = .pointer (some ⟨g, 0, none⟩) := dep 1 _ _ (by kernel_rfl) rfl rfl
              have e1 : a.tmps[20]?.getD undef = _ := (Array.getD_eq_getD_getElem? ..).symm.trans d1
              rw [if_pos (wanted_none rfl)]
              refine grow_same (v := .pointer (some ⟨g, 0, none⟩)) ?_ rfl
              clear old dep ho hsz hb
              go_simp
            | 3, ho =>
              obtain rfl := Option.some.inj ho
              have d2 : a.tmps.getD 21 undef = .pointer (some ⟨g, 0, none⟩) := dep 2 _ _ (by kernel_rfl) rfl rfl
              have e2 : a.tmps[21]?.getD undef = _ := (Array.getD_eq_getD_getElem? ..).symm.trans d2
              rw [if_pos (wanted_none rfl)]
              have c0 := (LB.out.below hb).blk.cell 0 _ rfl
              refine grow_same (v := .map (some mb)) ?_ rfl
              clear old dep ho hsz hb
              go_simp
            | 4, ho =>
              obtain rfl := Option.some.inj ho
              have o8 : a.tmps.getD 8 undef = _ := old 8 (by kernel_rfl)
              rw [if_pos (wanted_none rfl)]
              refine grow_same (v := .pointer (some ⟨wr.heap.size, 0, none⟩)) ?_ rfl
              clear old dep ho hsz hb
              go_simp
            | 5, ho =>
              obtain rfl := Option.some.inj ho
              have d4 : a.tmps.getD 23 undef = .pointer (some ⟨wr.heap.size, 0, none⟩) := dep 4 _ _ (by kernel_rfl) rfl rfl
              have e4 : a.tmps[23]?.getD undef = _ := (Array.getD_eq_getD_getElem? ..).symm.trans d4
              rw [if_pos (wanted_none rfl)]
              have c0 := (HX.out.below hb).cell 0 _ rfl
              have c1 := (HX.out.below hb).cell 1 _ rfl
              have c2 := (HX.out.below hb).cell 2 _ rfl
              refine grow_same (v := .agg #[.int .i64 t, .bool b, .string k]) ?_ rfl
              clear old dep ho hsz hb
              go_simp
            | 6, ho =>
              obtain rfl := Option.some.inj ho
              have d3 : a.tmps.getD 22 undef = .map (some mb) := dep 3 _ _ (by kernel_rfl) rfl rfl
              have e3 : a.tmps[22]?.getD undef = _ := (Array.getD_eq_getD_getElem? ..).symm.trans d3
              have d5 : a.tmps.getD 24 undef = .agg #[.int .i64 t, .bool b, .string k] := dep 5 _ _ (by kernel_rfl) rfl rfl
              have e5 : a.tmps[24]?.getD undef = _ := (Array.getD_eq_getD_getElem? ..).symm.trans d5
              rw [if_pos (wanted_none rfl)]
              have hl := HL.out w2 hb
              refine grow_same (v := .agg #[.int .i64 hm, .map (some hg)]) ?_ rfl
              clear old dep ho hsz hb
              go_simp
            | 7, ho =>
              obtain rfl := Option.some.inj ho
              have o1 : a.tmps.getD 1 undef = _ := old 1 (by kernel_rfl)
              rw [if_pos (wanted_none rfl)]
              refine grow_same (v := .int .i64 who) ?_ rfl
              clear old dep ho hsz hb
              go_simp
            | 8, ho =>
              obtain rfl := Option.some.inj ho
              have o8 : a.tmps.getD 8 undef = _ := old 8 (by kernel_rfl)
              rw [if_pos (wanted_none rfl)]
              refine grow_same (v := .pointer (some ⟨wr.heap.size, 3, none⟩)) ?_ rfl
              clear old dep ho hsz hb
              go_simp
            | 9, ho =>
              obtain rfl := Option.some.inj ho
              have d8 : a.tmps.getD 27 undef = .pointer (some ⟨wr.heap.size, 3, none⟩) := dep 8 _ _ (by kernel_rfl) rfl rfl
              have e8 : a.tmps[27]?.getD undef = _ := (Array.getD_eq_getD_getElem? ..).symm.trans d8
              rw [if_pos (wanted_none rfl)]
              have c3 := (HX.out.below hb).cell 3 _ rfl
              refine grow_same (v := .int .i64 mode) ?_ rfl
              clear old dep ho hsz hb
              go_simp
            | 10, ho =>
              obtain rfl := Option.some.inj ho
              have d6 : a.tmps.getD 25 undef = .agg #[.int .i64 hm, .map (some hg)] := dep 6 _ _ (by kernel_rfl) rfl rfl
              have e6 : a.tmps[25]?.getD undef = _ := (Array.getD_eq_getD_getElem? ..).symm.trans d6
              have d7 : a.tmps.getD 26 undef = .int .i64 who := dep 7 _ _ (by kernel_rfl) rfl rfl
              have e7 : a.tmps[26]?.getD undef = _ := (Array.getD_eq_getD_getElem? ..).symm.trans d7
              have d9 : a.tmps.getD 28 undef = .int .i64 mode := dep 9 _ _ (by kernel_rfl) rfl rfl
              have e9 : a.tmps[28]?.getD undef = _ := (Array.getD_eq_getD_getElem? ..).symm.trans d9
              rw [if_pos (wanted_none rfl)]
              refine grow_enters (f := 16) (args := #[.agg #[.int .i64 hm, .map (some hg)], .int .i64 who, .int .i64 mode]) ?_ ((HLET.out w2 hb).mono (by rintro e w' ⟨rfl, hb⟩; exact ⟨_, rfl, rfl, hb⟩))
              clear old dep ho hsz hb
              go_simp
            | 11, ho =>
              obtain rfl := Option.some.inj ho
              have d10 : a.tmps.getD 29 undef = .bool true := dep 10 _ _ (by kernel_rfl) rfl rfl
              have e10 : a.tmps[29]?.getD undef = _ := (Array.getD_eq_getD_getElem? ..).symm.trans d10
              rw [if_pos (wanted_none rfl)]
              refine grow_same (v := .bool false) ?_ rfl
              clear old dep ho hsz hb
              go_simp
            | i + 12, ho => exact absurd ho (by simp)
          · intro a w2 hb hsz hdf fin keep
            obtain ⟨tm, df⟩ := a
            have hx := frame_of [19, 20, 21, 22, 23, 24, 25, 26, 27, 28, 29, 30] (by kernel_rfl) hsz keep
            dsimp only at hdf hx
            simp only [List.foldl_cons, List.foldl_nil] at hx
            subst hdf
            clear hsz keep
            have kn : tm.getD 19 undef = .pointer (some ⟨g, 0, none⟩) := fin 0 _ _ rfl rfl
            rw [kn] at hx
            clear kn
            have kn : tm.getD 20 undef = .pointer (some ⟨g, 0, none⟩) := fin 1 _ _ rfl rfl
            rw [kn] at hx
            clear kn
            have kn : tm.getD 21 undef = .pointer (some ⟨g, 0, none⟩) := fin 2 _ _ rfl rfl
            rw [kn] at hx
            clear kn
            have kn : tm.getD 22 undef = .map (some mb) := fin 3 _ _ rfl rfl
            rw [kn] at hx
            clear kn
            have kn : tm.getD 23 undef = .pointer (some ⟨wr.heap.size, 0, none⟩) := fin 4 _ _ rfl rfl
            rw [kn] at hx
            clear kn
            have kn : tm.getD 24 undef = .agg #[.int .i64 t, .bool b, .string k] := fin 5 _ _ rfl rfl
            rw [kn] at hx
            clear kn
            have kn : tm.getD 25 undef = .agg #[.int .i64 hm, .map (some hg)] := fin 6 _ _ rfl rfl
            rw [kn] at hx
            clear kn
            have kn : tm.getD 26 undef = .int .i64 who := fin 7 _ _ rfl rfl
            rw [kn] at hx
            clear kn
            have kn : tm.getD 27 undef = .pointer (some ⟨wr.heap.size, 3, none⟩) := fin 8 _ _ rfl rfl
            rw [kn] at hx
            clear kn
            have kn : tm.getD 28 undef = .int .i64 mode := fin 9 _ _ rfl rfl
            rw [kn] at hx
            clear kn
            have kn : tm.getD 29 undef = .bool true := fin 10 _ _ rfl rfl
            rw [kn] at hx
            clear kn
            have kn : tm.getD 30 undef = .bool false := fin 11 _ _ rfl rfl
            rw [kn] at hx
            clear kn
            clear fin
            simp only [List.setIfInBounds_toArray, List.set_cons_succ, List.set_cons_zero] at hx
            subst hx
            have HB4 := hide ((HB.out.alloc HB.out.size (.cells #[.int .i64 t, .bool b, .string k, .int .i64 mode] 46)).trans (hb.mono (by have := HB.out.size; simp; omega)))
            clear hb
            go_wp2
            go_roundw
            case rel => exact ⟨j + 1, by have := HLT.out; omega, by go_num, HB4, hide (by rw [canAll_take HXX.out, HC.out]; exact by rw [HCE.out]; rfl)⟩
            case measure => simp [intOf]; have := HLT.out; omega
    · obtain rfl : j = ws.length := by omega
      clear hlt hj
      rw [List.take_length] at HC
      have q2 : ¬ (ws.length : Int) < (ws.length : Int) := by omega
      have HKP : Hid (Kept O w wr) := hide (Kept.of_below HB.out)
      have HLK : Hid (Lk wr g n (takeAll S who (ws.take 0)) (fun k => O k ∨ w.heap.size ≤ k)) := hide ((HK.out.keep (X := fun _ => False) (Kept.of_below HB.out) (fun _ _ => id)).mono (fun k hk _ => .inl hk))
      clear HB
      go_wp2
      go_loopw [34] (fun i wr => ∃ q : Nat, q ≤ ws.length ∧ i = .int .i64 q ∧ Hid (Kept O w wr) ∧ Hid (Lk wr g (n + q) (takeAll S who (ws.take q)) (fun k => O k ∨ w.heap.size ≤ k))) (fun i _ => ws.length - (intOf i).toNat)
      case atStart => exact ⟨0, by omega, rfl, HKP, HLK⟩
      case round =>
        clear HKP HLK
        rename World => w1
        obtain ⟨q, hq, rfl, HKP, HLK⟩ := hrel
        by_cases hlt : q < ws.length
        · obtain ⟨⟨⟨t, b, k⟩, mode⟩, hxx⟩ : ∃ x, ws[q]? = some x := ⟨_, List.getElem?_eq_getElem hlt⟩
          obtain ⟨i0, i1, i2, i3⟩ := (HWS.out.keep HKP.out HOB.out).1 q _ hxx
          have hok : Th.Ok ⟨t, b, k⟩ := HWS.out.2.2 _ (List.mem_of_getElem? hxx)
          dsimp only at i0 i1 i2 i3
          have q0 : (0 : Int) ≤ (q : Int) := by omega
          have q1 : (q : Int) < (ws.length : Int) := by omega
          have HLT := hide hlt
          have HOK := hide hok
          have HTS := hide (show takeAll S who (ws.take (q + 1)) = takeS (takeAll S who (ws.take q)) who ⟨t, b, k⟩ mode by rw [List.take_add_one, hxx]; exact takeAll_snoc _ _ _ _)
          clear hlt hxx hok
          obtain ⟨mb2, f2, h21, h22⟩ := HLK.out
          have HI2 := hide (h21.below ((Below.refl _ w1).alloc (Nat.le_refl _) (.cells #[.int .i64 t, .bool b, .string k, .int .i64 mode] 46)))
          have HO2 := hide h22
          clear h21 h22
          have HTK := hide (take_walk (mode := mode) HI2.out HOK.out HW.out (by have := HN2.out; have := HLT.out; omega))
          go_wp2_with (go_at_call 17; (with_reducible refine HTK.out.mono ?_); rintro e w5 ⟨rfl, hk, hl⟩; have HK5 := hide (taken_kept HKP.out HO2.out hk); have HL5 := hide (taken_lk HKP.out HO2.out hl); clear hk hl)
          go_roundw
          case rel => exact ⟨q + 1, by have := HLT.out; omega, by go_num, HK5, hide (by rw [HTS.out, ← Nat.add_assoc]; exact HL5.out)⟩
          case measure => simp [intOf]; have := HLT.out; omega
        · obtain rfl : q = ws.length := by omega
          clear hlt hq
          rw [List.take_length] at HLK
          go_wp2
          go_ret
          refine ⟨by rw [HC.out]; rfl, HKP.out, ?_⟩
          rw [HC.out]
          exact HLK.out
end Go.Proofs.Ytdoeinofcklnhaa
