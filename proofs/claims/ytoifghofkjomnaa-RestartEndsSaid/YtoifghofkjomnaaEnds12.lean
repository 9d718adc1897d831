/-
  RestartEnds' walk (written by r12/mkends12.py).
-/
import Derived.Test.YtoifghofkjomnaaMute12
import Derived.BigQuiet
import Derived.Deep.CutBlock
namespace Go.Proofs.Ytoifghofkjomnaa
open Go.RowKit
set_option maxRecDepth 20000
set_option linter.unusedSimpArgs false
set_option linter.unusedVariables false

/-- An entry that a statement makes. -/
def mkE (k t s pl : Nat) : Ei := ⟨⟨k, t, 0, s, ⟨#[]⟩, ⟨#[]⟩, ⟨#[]⟩, []⟩, pl, none, 0⟩
theorem lo_end (es : List Ei) {k m s pl : Nat} (hm : 1 ≤ m ∧ m ≤ 3) (hk : k = 5 ∨ k = 6) : loP (es ++ [mkE k m s pl]) m = [] ∧ opP (es ++ [mkE k m s pl]) m = false := by
  rw [loP_snoc _ _ hm, opP_snoc _ _ hm]
  unfold loS opS mkE
  rw [if_pos rfl, if_pos rfl, if_neg (by simp only; omega), if_neg (by simp only; omega), if_pos (by simp only; omega), if_neg (by simp only; omega), if_pos (by simp only; omega)]
  exact ⟨rfl, rfl⟩
theorem lo_upd (es : List Ei) {m s pl : Nat} (hm : 1 ≤ m ∧ m ≤ 3) (h : loP es m = []) : loP (es ++ [mkE 3 m s pl]) m = [⟨0, (s : Int), ⟨#[]⟩⟩] ∧ opP (es ++ [mkE 3 m s pl]) m = true := by
  rw [loP_snoc _ _ hm, opP_snoc _ _ hm, h]
  unfold loS opS mkE
  rw [if_pos rfl, if_pos rfl, if_pos (by simp), if_pos (by simp)]
  exact ⟨rfl, rfl⟩
theorem dirt_snoc {W : World} {es : List Ei} (h : ∀ x ∈ es, DOk W x) (k t s pl : Nat) : ∀ x ∈ es ++ [mkE k t s pl], DOk W x :=
  fun x hx => (List.mem_append.1 hx).elim (h x) (fun hx => by obtain rfl := List.mem_singleton.1 hx; exact DOk.none rfl)
theorem an_end1 (HAN : AnSaid) {W : World} {v : Value} {es : List Ei} (hr : eiK.Row W v es) (hd : ∀ x ∈ es, DOk W x) (hl : es.length ≤ 1000) (h1 : loP es 1 = []) (h2 : opP es 1 = false) :
    Calls Try.prog 12 #[v] W fun e W' => ∃ (f5 : Nat) (A5 : Nat → Option Addr) (n5 c5 : Nat → Nat) (o5 : Nat → Bool), e = .returned (.agg #[.int .u64 (f5 : Int), .slice (A5 0) (n5 0) (c5 0), .slice (A5 1) 0 (c5 1), .slice (A5 2) (n5 2) (c5 2), .slice (A5 3) (n5 3) (c5 3), .bool (o5 0), .bool false, .bool (o5 2), .bool (o5 3)]) ∧ Hid (Below W.heap.size W W') := by
  refine (an_any HAN hr hd hl).mono ?_
  rintro e W' ⟨A, c, rfl, hb, _⟩
  refine ⟨frP es, A, fun t => (loP es t).length, c, opP es, ?_, hide hb⟩
  unfold planC
  dsimp only
  rw [h1, h2]
  rfl
theorem an_upd1 (HAN : AnSaid) {W : World} {v : Value} {es : List Ei} {x : Ch} (hr : eiK.Row W v es) (hd : ∀ x ∈ es, DOk W x) (hl : es.length ≤ 1000) (h1 : loP es 1 = [x]) (h2 : opP es 1 = true) :
    Calls Try.prog 12 #[v] W fun e W' => ∃ (f7 : Nat) (A7 : Nat → Option Addr) (n7 c7 : Nat → Nat) (o7 : Nat → Bool) (b o : Nat), e = .returned (.agg #[.int .u64 (f7 : Int), .slice (A7 0) (n7 0) (c7 0), .slice (some ⟨b, o, none⟩) 1 (c7 1), .slice (A7 2) (n7 2) (c7 2), .slice (A7 3) (n7 3) (c7 3), .bool (o7 0), .bool true, .bool (o7 2), .bool (o7 3)]) ∧ Hid ((W'.alloc (.cells #[.int .u64 (f7 : Int), .slice (A7 0) (n7 0) (c7 0), .slice (some ⟨b, o, none⟩) 1 (c7 1), .slice (A7 2) (n7 2) (c7 2), .slice (A7 3) (n7 3) (c7 3), .bool (o7 0), .bool true, .bool (o7 2), .bool (o7 3)] 32)).cell? ⟨b, o + 1, none⟩ = some (.int .i64 x.slot)) ∧ Hid (Below W.heap.size W W') := by
  refine (an_any HAN hr hd hl).mono ?_
  rintro e W' ⟨A, c, rfl, hb, hk⟩
  obtain ⟨A1, c1, e1, h3⟩ := hk 1 (by decide)
  injection e1 with e1 _ _
  rw [h1] at h3
  obtain ⟨b, o, rfl, hlt, _, h4⟩ := h3 (Nat.succ_pos _)
  refine ⟨frP es, A, fun t => (loP es t).length, c, opP es, b, o, ?_, hide ?_, hide hb⟩
  · unfold planC
    dsimp only
    rw [h1, h2, e1]
    rfl
  · have := h4 0 _ rfl 1 _ rfl
    rw [Nat.zero_mul, Nat.add_zero] at this
    rw [World.cell?_alloc_lt _ _ _ hlt]
    exact this
theorem an_end2 (HAN : AnSaid) {W : World} {v : Value} {es : List Ei} (hr : eiK.Row W v es) (hd : ∀ x ∈ es, DOk W x) (hl : es.length ≤ 1000) (h1 : loP es 2 = []) (h2 : opP es 2 = false) :
    Calls Try.prog 12 #[v] W fun e W' => ∃ (f5 : Nat) (A5 : Nat → Option Addr) (n5 c5 : Nat → Nat) (o5 : Nat → Bool), e = .returned (.agg #[.int .u64 (f5 : Int), .slice (A5 0) (n5 0) (c5 0), .slice (A5 1) (n5 1) (c5 1), .slice (A5 2) 0 (c5 2), .slice (A5 3) (n5 3) (c5 3), .bool (o5 0), .bool (o5 1), .bool false, .bool (o5 3)]) ∧ Hid (Below W.heap.size W W') := by
  refine (an_any HAN hr hd hl).mono ?_
  rintro e W' ⟨A, c, rfl, hb, _⟩
  refine ⟨frP es, A, fun t => (loP es t).length, c, opP es, ?_, hide hb⟩
  unfold planC
  dsimp only
  rw [h1, h2]
  rfl
theorem an_upd2 (HAN : AnSaid) {W : World} {v : Value} {es : List Ei} {x : Ch} (hr : eiK.Row W v es) (hd : ∀ x ∈ es, DOk W x) (hl : es.length ≤ 1000) (h1 : loP es 2 = [x]) (h2 : opP es 2 = true) :
    Calls Try.prog 12 #[v] W fun e W' => ∃ (f7 : Nat) (A7 : Nat → Option Addr) (n7 c7 : Nat → Nat) (o7 : Nat → Bool) (b o : Nat), e = .returned (.agg #[.int .u64 (f7 : Int), .slice (A7 0) (n7 0) (c7 0), .slice (A7 1) (n7 1) (c7 1), .slice (some ⟨b, o, none⟩) 1 (c7 2), .slice (A7 3) (n7 3) (c7 3), .bool (o7 0), .bool (o7 1), .bool true, .bool (o7 3)]) ∧ Hid ((W'.alloc (.cells #[.int .u64 (f7 : Int), .slice (A7 0) (n7 0) (c7 0), .slice (A7 1) (n7 1) (c7 1), .slice (some ⟨b, o, none⟩) 1 (c7 2), .slice (A7 3) (n7 3) (c7 3), .bool (o7 0), .bool (o7 1), .bool true, .bool (o7 3)] 32)).cell? ⟨b, o + 1, none⟩ = some (.int .i64 x.slot)) ∧ Hid (Below W.heap.size W W') := by
  refine (an_any HAN hr hd hl).mono ?_
  rintro e W' ⟨A, c, rfl, hb, hk⟩
  obtain ⟨A1, c1, e1, h3⟩ := hk 2 (by decide)
  injection e1 with e1 _ _
  rw [h1] at h3
  obtain ⟨b, o, rfl, hlt, _, h4⟩ := h3 (Nat.succ_pos _)
  refine ⟨frP es, A, fun t => (loP es t).length, c, opP es, b, o, ?_, hide ?_, hide hb⟩
  · unfold planC
    dsimp only
    rw [h1, h2, e1]
    rfl
  · have := h4 0 _ rfl 1 _ rfl
    rw [Nat.zero_mul, Nat.add_zero] at this
    rw [World.cell?_alloc_lt _ _ _ hlt]
    exact this
theorem an_end3 (HAN : AnSaid) {W : World} {v : Value} {es : List Ei} (hr : eiK.Row W v es) (hd : ∀ x ∈ es, DOk W x) (hl : es.length ≤ 1000) (h1 : loP es 3 = []) (h2 : opP es 3 = false) :
    Calls Try.prog 12 #[v] W fun e W' => ∃ (f5 : Nat) (A5 : Nat → Option Addr) (n5 c5 : Nat → Nat) (o5 : Nat → Bool), e = .returned (.agg #[.int .u64 (f5 : Int), .slice (A5 0) (n5 0) (c5 0), .slice (A5 1) (n5 1) (c5 1), .slice (A5 2) (n5 2) (c5 2), .slice (A5 3) 0 (c5 3), .bool (o5 0), .bool (o5 1), .bool (o5 2), .bool false]) ∧ Hid (Below W.heap.size W W') := by
  refine (an_any HAN hr hd hl).mono ?_
  rintro e W' ⟨A, c, rfl, hb, _⟩
  refine ⟨frP es, A, fun t => (loP es t).length, c, opP es, ?_, hide hb⟩
  unfold planC
  dsimp only
  rw [h1, h2]
  rfl
theorem an_upd3 (HAN : AnSaid) {W : World} {v : Value} {es : List Ei} {x : Ch} (hr : eiK.Row W v es) (hd : ∀ x ∈ es, DOk W x) (hl : es.length ≤ 1000) (h1 : loP es 3 = [x]) (h2 : opP es 3 = true) :
    Calls Try.prog 12 #[v] W fun e W' => ∃ (f7 : Nat) (A7 : Nat → Option Addr) (n7 c7 : Nat → Nat) (o7 : Nat → Bool) (b o : Nat), e = .returned (.agg #[.int .u64 (f7 : Int), .slice (A7 0) (n7 0) (c7 0), .slice (A7 1) (n7 1) (c7 1), .slice (A7 2) (n7 2) (c7 2), .slice (some ⟨b, o, none⟩) 1 (c7 3), .bool (o7 0), .bool (o7 1), .bool (o7 2), .bool true]) ∧ Hid ((W'.alloc (.cells #[.int .u64 (f7 : Int), .slice (A7 0) (n7 0) (c7 0), .slice (A7 1) (n7 1) (c7 1), .slice (A7 2) (n7 2) (c7 2), .slice (some ⟨b, o, none⟩) 1 (c7 3), .bool (o7 0), .bool (o7 1), .bool (o7 2), .bool true] 32)).cell? ⟨b, o + 1, none⟩ = some (.int .i64 x.slot)) ∧ Hid (Below W.heap.size W W') := by
  refine (an_any HAN hr hd hl).mono ?_
  rintro e W' ⟨A, c, rfl, hb, hk⟩
  obtain ⟨A1, c1, e1, h3⟩ := hk 3 (by decide)
  injection e1 with e1 _ _
  rw [h1] at h3
  obtain ⟨b, o, rfl, hlt, _, h4⟩ := h3 (Nat.succ_pos _)
  refine ⟨frP es, A, fun t => (loP es t).length, c, opP es, b, o, ?_, hide ?_, hide hb⟩
  · unfold planC
    dsimp only
    rw [h1, h2, e1]
    rfl
  · have := h4 0 _ rfl 1 _ rfl
    rw [Nat.zero_mul, Nat.add_zero] at this
    rw [World.cell?_alloc_lt _ _ _ hlt]
    exact this
set_option maxHeartbeats 16000000 in
theorem ends_1f (HAN2 : Hid AnSaid) {v : Value} {l : List SeedD} {z : Int} {w : World} (HV : Hid (SeedRow w w.heap.size v l)) (hlb : lightB l = true) (r1 : -3 < Int.tmod z 3) (r2 : Int.tmod z 3 < 3) (hq : Int.tmod (Int.tmod z 3 + 3) 3 = 0) :
    Calls Try.prog 6 #[v, .int .i64 z, .bool false] w fun e w' => e = .returned (.bool true) ∧ Below w.heap.size w w' := by
  have HL := hide (lightB_iff.1 hlb).1
  go_enter Try.func6, Try.ntmps6
  go_upto_region 13 with (first
    | (go_at_call 9; (with_reducible refine (fit_any HAN2.out _).mono ?_); rintro e w1 ⟨rfl, hb1⟩; have HB := hide hb1; have HK1 := hide (light_any ((SeedRow.below HV.out hb1).more hb1.size)); clear hb1; rw [hlb] at HK1)
    | (go_at_call 10; (with_reducible refine HK1.out.mono ?_); rintro e w2 ⟨rfl, hb2⟩; clear HK1; have HB := hide (HB.out.trans (hb2.mono HB.out.size)); clear hb2; have HK2 := hide (entries_any ((SeedRow.below HV.out HB.out).more HB.out.size) HL.out))
    | (go_at_call 11; (with_reducible refine HK2.out.mono ?_); rintro e w3 ⟨u, es, rfl, hes, hs⟩; clear HK2; obtain ⟨Au, cu, rfl⟩ := (hs.krow (i := 0) rfl).form
       obtain ⟨v4, w4, hrun, S9⟩ := Ow.addK (x := mkE 5 1 0 5000) (cs := #[.int .i64 5, .int .i64 1, .int .i64 0, .int .i64 0, .string ⟨#[]⟩, .string ⟨#[]⟩, .string ⟨#[]⟩, .slice none 0 0, .int .u64 5000]) hs (i := 0) rfl rfl (by rw [hes.len]; have := HL.out; omega) 25
       have HRUN1 := hide hrun
       have HE1 := hide S9
       have HLE : Hid (es.length ≤ 100) := hide (by rw [hes.len]; exact HL.out)
       clear hrun S9 hes hs)
    | (at_builtin; refine Lib.wpList_append_run _ rfl (.tmp 24) (.tmp 29) _ _ rfl _ _ rfl rfl _ _ HRUN1.out ?_; clear HRUN1
       obtain ⟨A4, cc4, e4⟩ := (HE1.out.krow (i := 0) rfl).form
       rw [List.length_append, List.length_singleton] at e4
       subst e4
       have HKA := hide (an_end1 HAN2.out (HE1.out.krow (i := 0) rfl) (dirt_snoc (HE1.out.dirt (i := 1) rfl) _ _ _ _) (by rw [List.length_append, List.length_singleton]; have := HLE.out; omega) (lo_end es (by decide) (by decide)).1 (lo_end es (by decide) (by decide)).2))
    | (go_at_call 12; (with_reducible refine HKA.out.mono ?_); rintro e w5 ⟨f5, A5, n5, c5, o5, rfl, hb5⟩; clear HKA
       have S5 := hide ((HE1.out.below hb5.out).box 32 #[.int .u64 (f5 : Int), .slice (A5 0) (n5 0) (c5 0), .slice (A5 1) 0 (c5 1), .slice (A5 2) (n5 2) (c5 2), .slice (A5 3) (n5 3) (c5 3), .bool (o5 0), .bool false, .bool (o5 2), .bool (o5 3)])
       obtain ⟨v6, w6, hrun, S9⟩ := Ow.addK (x := mkE 3 1 4 5010) (cs := #[.int .i64 3, .int .i64 1, .int .i64 0, .int .i64 4, .string ⟨#[]⟩, .string ⟨#[]⟩, .string ⟨#[]⟩, .slice none 0 0, .int .u64 5010]) S5.out (i := 0) rfl rfl (by rw [List.length_append, List.length_singleton]; have := HLE.out; omega) 25
       have e9 : (w5.alloc (.cells #[.int .u64 (f5 : Int), .slice (A5 0) (n5 0) (c5 0), .slice (A5 1) 0 (c5 1), .slice (A5 2) (n5 2) (c5 2), .slice (A5 3) (n5 3) (c5 3), .bool (o5 0), .bool false, .bool (o5 2), .bool (o5 3)] 32)).heap.size = w5.heap.size + 1 := by simp
       rw [e9] at hrun
       have HRUN2 := hide hrun
       have HE2 := hide S9
       clear hrun S9 S5 HE1 hb5 e9)
    | (at_builtin; refine Lib.wpList_append_run _ rfl (.tmp 33) (.tmp 37) _ _ rfl _ _ rfl rfl _ _ HRUN2.out ?_; clear HRUN2
       have HKB := hide (an_upd1 HAN2.out (HE2.out.krow (i := 0) rfl) (dirt_snoc (dirt_snoc (HE2.out.dirt (i := 1) rfl) _ _ _ _) _ _ _ _) (by rw [List.length_append, List.length_append, List.length_singleton, List.length_singleton]; have := HLE.out; omega) (lo_upd _ (by decide) (lo_end es (by decide) (by decide)).1).1 (lo_upd _ (by decide) (lo_end es (by decide) (by decide)).1).2))
    | (go_at_call 12; (with_reducible refine HKB.out.mono ?_); rintro e w7 ⟨f7, A7, n7, c7, o7, b, o, rfl, hc7, hb7⟩; clear HKB
       have S7 := hide ((HE2.out.below hb7.out).box 32 #[.int .u64 (f7 : Int), .slice (A7 0) (n7 0) (c7 0), .slice (some ⟨b, o, none⟩) 1 (c7 1), .slice (A7 2) (n7 2) (c7 2), .slice (A7 3) (n7 3) (c7 3), .bool (o7 0), .bool true, .bool (o7 2), .bool (o7 3)])
       have c1 := hc7.out
       clear HE2 hb7 hc7))
  obtain ⟨p0, p1, p2, p3, p4, p5, p6, p7, p8⟩ := (S7.out.blk (i := 2) rfl).nine
  go_wp2
  go_ret
  exact ⟨rfl, HB.out.trans (S7.out.bel.mono HB.out.size)⟩
set_option maxHeartbeats 16000000 in
theorem ends_1t (HAN2 : Hid AnSaid) {v : Value} {l : List SeedD} {z : Int} {w : World} (HV : Hid (SeedRow w w.heap.size v l)) (hlb : lightB l = true) (r1 : -3 < Int.tmod z 3) (r2 : Int.tmod z 3 < 3) (hq : Int.tmod (Int.tmod z 3 + 3) 3 = 0) :
    Calls Try.prog 6 #[v, .int .i64 z, .bool true] w fun e w' => e = .returned (.bool true) ∧ Below w.heap.size w w' := by
  have HL := hide (lightB_iff.1 hlb).1
  go_enter Try.func6, Try.ntmps6
  go_upto_region 13 with (first
    | (go_at_call 9; (with_reducible refine (fit_any HAN2.out _).mono ?_); rintro e w1 ⟨rfl, hb1⟩; have HB := hide hb1; have HK1 := hide (light_any ((SeedRow.below HV.out hb1).more hb1.size)); clear hb1; rw [hlb] at HK1)
    | (go_at_call 10; (with_reducible refine HK1.out.mono ?_); rintro e w2 ⟨rfl, hb2⟩; clear HK1; have HB := hide (HB.out.trans (hb2.mono HB.out.size)); clear hb2; have HK2 := hide (entries_any ((SeedRow.below HV.out HB.out).more HB.out.size) HL.out))
    | (go_at_call 11; (with_reducible refine HK2.out.mono ?_); rintro e w3 ⟨u, es, rfl, hes, hs⟩; clear HK2; obtain ⟨Au, cu, rfl⟩ := (hs.krow (i := 0) rfl).form
       obtain ⟨v4, w4, hrun, S9⟩ := Ow.addK (x := mkE 6 1 0 5000) (cs := #[.int .i64 6, .int .i64 1, .int .i64 0, .int .i64 0, .string ⟨#[]⟩, .string ⟨#[]⟩, .string ⟨#[]⟩, .slice none 0 0, .int .u64 5000]) hs (i := 0) rfl rfl (by rw [hes.len]; have := HL.out; omega) 25
       have HRUN1 := hide hrun
       have HE1 := hide S9
       have HLE : Hid (es.length ≤ 100) := hide (by rw [hes.len]; exact HL.out)
       clear hrun S9 hes hs)
    | (at_builtin; refine Lib.wpList_append_run _ rfl (.tmp 24) (.tmp 29) _ _ rfl _ _ rfl rfl _ _ HRUN1.out ?_; clear HRUN1
       obtain ⟨A4, cc4, e4⟩ := (HE1.out.krow (i := 0) rfl).form
       rw [List.length_append, List.length_singleton] at e4
       subst e4
       have HKA := hide (an_end1 HAN2.out (HE1.out.krow (i := 0) rfl) (dirt_snoc (HE1.out.dirt (i := 1) rfl) _ _ _ _) (by rw [List.length_append, List.length_singleton]; have := HLE.out; omega) (lo_end es (by decide) (by decide)).1 (lo_end es (by decide) (by decide)).2))
    | (go_at_call 12; (with_reducible refine HKA.out.mono ?_); rintro e w5 ⟨f5, A5, n5, c5, o5, rfl, hb5⟩; clear HKA
       have S5 := hide ((HE1.out.below hb5.out).box 32 #[.int .u64 (f5 : Int), .slice (A5 0) (n5 0) (c5 0), .slice (A5 1) 0 (c5 1), .slice (A5 2) (n5 2) (c5 2), .slice (A5 3) (n5 3) (c5 3), .bool (o5 0), .bool false, .bool (o5 2), .bool (o5 3)])
       obtain ⟨v6, w6, hrun, S9⟩ := Ow.addK (x := mkE 3 1 4 5010) (cs := #[.int .i64 3, .int .i64 1, .int .i64 0, .int .i64 4, .string ⟨#[]⟩, .string ⟨#[]⟩, .string ⟨#[]⟩, .slice none 0 0, .int .u64 5010]) S5.out (i := 0) rfl rfl (by rw [List.length_append, List.length_singleton]; have := HLE.out; omega) 25
       have e9 : (w5.alloc (.cells #[.int .u64 (f5 : Int), .slice (A5 0) (n5 0) (c5 0), .slice (A5 1) 0 (c5 1), .slice (A5 2) (n5 2) (c5 2), .slice (A5 3) (n5 3) (c5 3), .bool (o5 0), .bool false, .bool (o5 2), .bool (o5 3)] 32)).heap.size = w5.heap.size + 1 := by simp
       rw [e9] at hrun
       have HRUN2 := hide hrun
       have HE2 := hide S9
       clear hrun S9 S5 HE1 hb5 e9)
    | (at_builtin; refine Lib.wpList_append_run _ rfl (.tmp 33) (.tmp 37) _ _ rfl _ _ rfl rfl _ _ HRUN2.out ?_; clear HRUN2
       have HKB := hide (an_upd1 HAN2.out (HE2.out.krow (i := 0) rfl) (dirt_snoc (dirt_snoc (HE2.out.dirt (i := 1) rfl) _ _ _ _) _ _ _ _) (by rw [List.length_append, List.length_append, List.length_singleton, List.length_singleton]; have := HLE.out; omega) (lo_upd _ (by decide) (lo_end es (by decide) (by decide)).1).1 (lo_upd _ (by decide) (lo_end es (by decide) (by decide)).1).2))
    | (go_at_call 12; (with_reducible refine HKB.out.mono ?_); rintro e w7 ⟨f7, A7, n7, c7, o7, b, o, rfl, hc7, hb7⟩; clear HKB
       have S7 := hide ((HE2.out.below hb7.out).box 32 #[.int .u64 (f7 : Int), .slice (A7 0) (n7 0) (c7 0), .slice (some ⟨b, o, none⟩) 1 (c7 1), .slice (A7 2) (n7 2) (c7 2), .slice (A7 3) (n7 3) (c7 3), .bool (o7 0), .bool true, .bool (o7 2), .bool (o7 3)])
       have c1 := hc7.out
       clear HE2 hb7 hc7))
  obtain ⟨p0, p1, p2, p3, p4, p5, p6, p7, p8⟩ := (S7.out.blk (i := 2) rfl).nine
  go_wp2
  go_ret
  exact ⟨rfl, HB.out.trans (S7.out.bel.mono HB.out.size)⟩
set_option maxHeartbeats 16000000 in
theorem ends_2f (HAN2 : Hid AnSaid) {v : Value} {l : List SeedD} {z : Int} {w : World} (HV : Hid (SeedRow w w.heap.size v l)) (hlb : lightB l = true) (r1 : -3 < Int.tmod z 3) (r2 : Int.tmod z 3 < 3) (hq : Int.tmod (Int.tmod z 3 + 3) 3 = 1) :
    Calls Try.prog 6 #[v, .int .i64 z, .bool false] w fun e w' => e = .returned (.bool true) ∧ Below w.heap.size w w' := by
  have HL := hide (lightB_iff.1 hlb).1
  go_enter Try.func6, Try.ntmps6
  go_upto_region 13 with (first
    | (go_at_call 9; (with_reducible refine (fit_any HAN2.out _).mono ?_); rintro e w1 ⟨rfl, hb1⟩; have HB := hide hb1; have HK1 := hide (light_any ((SeedRow.below HV.out hb1).more hb1.size)); clear hb1; rw [hlb] at HK1)
    | (go_at_call 10; (with_reducible refine HK1.out.mono ?_); rintro e w2 ⟨rfl, hb2⟩; clear HK1; have HB := hide (HB.out.trans (hb2.mono HB.out.size)); clear hb2; have HK2 := hide (entries_any ((SeedRow.below HV.out HB.out).more HB.out.size) HL.out))
    | (go_at_call 11; (with_reducible refine HK2.out.mono ?_); rintro e w3 ⟨u, es, rfl, hes, hs⟩; clear HK2; obtain ⟨Au, cu, rfl⟩ := (hs.krow (i := 0) rfl).form
       obtain ⟨v4, w4, hrun, S9⟩ := Ow.addK (x := mkE 5 2 0 5000) (cs := #[.int .i64 5, .int .i64 2, .int .i64 0, .int .i64 0, .string ⟨#[]⟩, .string ⟨#[]⟩, .string ⟨#[]⟩, .slice none 0 0, .int .u64 5000]) hs (i := 0) rfl rfl (by rw [hes.len]; have := HL.out; omega) 25
       have HRUN1 := hide hrun
       have HE1 := hide S9
       have HLE : Hid (es.length ≤ 100) := hide (by rw [hes.len]; exact HL.out)
       clear hrun S9 hes hs)
    | (at_builtin; refine Lib.wpList_append_run _ rfl (.tmp 24) (.tmp 29) _ _ rfl _ _ rfl rfl _ _ HRUN1.out ?_; clear HRUN1
       obtain ⟨A4, cc4, e4⟩ := (HE1.out.krow (i := 0) rfl).form
       rw [List.length_append, List.length_singleton] at e4
       subst e4
       have HKA := hide (an_end2 HAN2.out (HE1.out.krow (i := 0) rfl) (dirt_snoc (HE1.out.dirt (i := 1) rfl) _ _ _ _) (by rw [List.length_append, List.length_singleton]; have := HLE.out; omega) (lo_end es (by decide) (by decide)).1 (lo_end es (by decide) (by decide)).2))
    | (go_at_call 12; (with_reducible refine HKA.out.mono ?_); rintro e w5 ⟨f5, A5, n5, c5, o5, rfl, hb5⟩; clear HKA
       have S5 := hide ((HE1.out.below hb5.out).box 32 #[.int .u64 (f5 : Int), .slice (A5 0) (n5 0) (c5 0), .slice (A5 1) (n5 1) (c5 1), .slice (A5 2) 0 (c5 2), .slice (A5 3) (n5 3) (c5 3), .bool (o5 0), .bool (o5 1), .bool false, .bool (o5 3)])
       obtain ⟨v6, w6, hrun, S9⟩ := Ow.addK (x := mkE 3 2 4 5010) (cs := #[.int .i64 3, .int .i64 2, .int .i64 0, .int .i64 4, .string ⟨#[]⟩, .string ⟨#[]⟩, .string ⟨#[]⟩, .slice none 0 0, .int .u64 5010]) S5.out (i := 0) rfl rfl (by rw [List.length_append, List.length_singleton]; have := HLE.out; omega) 25
       have e9 : (w5.alloc (.cells #[.int .u64 (f5 : Int), .slice (A5 0) (n5 0) (c5 0), .slice (A5 1) (n5 1) (c5 1), .slice (A5 2) 0 (c5 2), .slice (A5 3) (n5 3) (c5 3), .bool (o5 0), .bool (o5 1), .bool false, .bool (o5 3)] 32)).heap.size = w5.heap.size + 1 := by simp
       rw [e9] at hrun
       have HRUN2 := hide hrun
       have HE2 := hide S9
       clear hrun S9 S5 HE1 hb5 e9)
    | (at_builtin; refine Lib.wpList_append_run _ rfl (.tmp 33) (.tmp 37) _ _ rfl _ _ rfl rfl _ _ HRUN2.out ?_; clear HRUN2
       have HKB := hide (an_upd2 HAN2.out (HE2.out.krow (i := 0) rfl) (dirt_snoc (dirt_snoc (HE2.out.dirt (i := 1) rfl) _ _ _ _) _ _ _ _) (by rw [List.length_append, List.length_append, List.length_singleton, List.length_singleton]; have := HLE.out; omega) (lo_upd _ (by decide) (lo_end es (by decide) (by decide)).1).1 (lo_upd _ (by decide) (lo_end es (by decide) (by decide)).1).2))
    | (go_at_call 12; (with_reducible refine HKB.out.mono ?_); rintro e w7 ⟨f7, A7, n7, c7, o7, b, o, rfl, hc7, hb7⟩; clear HKB
       have S7 := hide ((HE2.out.below hb7.out).box 32 #[.int .u64 (f7 : Int), .slice (A7 0) (n7 0) (c7 0), .slice (A7 1) (n7 1) (c7 1), .slice (some ⟨b, o, none⟩) 1 (c7 2), .slice (A7 3) (n7 3) (c7 3), .bool (o7 0), .bool (o7 1), .bool true, .bool (o7 3)])
       have c1 := hc7.out
       clear HE2 hb7 hc7))
  obtain ⟨p0, p1, p2, p3, p4, p5, p6, p7, p8⟩ := (S7.out.blk (i := 2) rfl).nine
  go_wp2
  go_ret
  exact ⟨rfl, HB.out.trans (S7.out.bel.mono HB.out.size)⟩
set_option maxHeartbeats 16000000 in
theorem ends_2t (HAN2 : Hid AnSaid) {v : Value} {l : List SeedD} {z : Int} {w : World} (HV : Hid (SeedRow w w.heap.size v l)) (hlb : lightB l = true) (r1 : -3 < Int.tmod z 3) (r2 : Int.tmod z 3 < 3) (hq : Int.tmod (Int.tmod z 3 + 3) 3 = 1) :
    Calls Try.prog 6 #[v, .int .i64 z, .bool true] w fun e w' => e = .returned (.bool true) ∧ Below w.heap.size w w' := by
  have HL := hide (lightB_iff.1 hlb).1
  go_enter Try.func6, Try.ntmps6
  go_upto_region 13 with (first
    | (go_at_call 9; (with_reducible refine (fit_any HAN2.out _).mono ?_); rintro e w1 ⟨rfl, hb1⟩; have HB := hide hb1; have HK1 := hide (light_any ((SeedRow.below HV.out hb1).more hb1.size)); clear hb1; rw [hlb] at HK1)
    | (go_at_call 10; (with_reducible refine HK1.out.mono ?_); rintro e w2 ⟨rfl, hb2⟩; clear HK1; have HB := hide (HB.out.trans (hb2.mono HB.out.size)); clear hb2; have HK2 := hide (entries_any ((SeedRow.below HV.out HB.out).more HB.out.size) HL.out))
    | (go_at_call 11; (with_reducible refine HK2.out.mono ?_); rintro e w3 ⟨u, es, rfl, hes, hs⟩; clear HK2; obtain ⟨Au, cu, rfl⟩ := (hs.krow (i := 0) rfl).form
       obtain ⟨v4, w4, hrun, S9⟩ := Ow.addK (x := mkE 6 2 0 5000) (cs := #[.int .i64 6, .int .i64 2, .int .i64 0, .int .i64 0, .string ⟨#[]⟩, .string ⟨#[]⟩, .string ⟨#[]⟩, .slice none 0 0, .int .u64 5000]) hs (i := 0) rfl rfl (by rw [hes.len]; have := HL.out; omega) 25
       have HRUN1 := hide hrun
       have HE1 := hide S9
       have HLE : Hid (es.length ≤ 100) := hide (by rw [hes.len]; exact HL.out)
       clear hrun S9 hes hs)
    | (at_builtin; refine Lib.wpList_append_run _ rfl (.tmp 24) (.tmp 29) _ _ rfl _ _ rfl rfl _ _ HRUN1.out ?_; clear HRUN1
       obtain ⟨A4, cc4, e4⟩ := (HE1.out.krow (i := 0) rfl).form
       rw [List.length_append, List.length_singleton] at e4
       subst e4
       have HKA := hide (an_end2 HAN2.out (HE1.out.krow (i := 0) rfl) (dirt_snoc (HE1.out.dirt (i := 1) rfl) _ _ _ _) (by rw [List.length_append, List.length_singleton]; have := HLE.out; omega) (lo_end es (by decide) (by decide)).1 (lo_end es (by decide) (by decide)).2))
    | (go_at_call 12; (with_reducible refine HKA.out.mono ?_); rintro e w5 ⟨f5, A5, n5, c5, o5, rfl, hb5⟩; clear HKA
       have S5 := hide ((HE1.out.below hb5.out).box 32 #[.int .u64 (f5 : Int), .slice (A5 0) (n5 0) (c5 0), .slice (A5 1) (n5 1) (c5 1), .slice (A5 2) 0 (c5 2), .slice (A5 3) (n5 3) (c5 3), .bool (o5 0), .bool (o5 1), .bool false, .bool (o5 3)])
       obtain ⟨v6, w6, hrun, S9⟩ := Ow.addK (x := mkE 3 2 4 5010) (cs := #[.int .i64 3, .int .i64 2, .int .i64 0, .int .i64 4, .string ⟨#[]⟩, .string ⟨#[]⟩, .string ⟨#[]⟩, .slice none 0 0, .int .u64 5010]) S5.out (i := 0) rfl rfl (by rw [List.length_append, List.length_singleton]; have := HLE.out; omega) 25
       have e9 : (w5.alloc (.cells #[.int .u64 (f5 : Int), .slice (A5 0) (n5 0) (c5 0), .slice (A5 1) (n5 1) (c5 1), .slice (A5 2) 0 (c5 2), .slice (A5 3) (n5 3) (c5 3), .bool (o5 0), .bool (o5 1), .bool false, .bool (o5 3)] 32)).heap.size = w5.heap.size + 1 := by simp
       rw [e9] at hrun
       have HRUN2 := hide hrun
       have HE2 := hide S9
       clear hrun S9 S5 HE1 hb5 e9)
    | (at_builtin; refine Lib.wpList_append_run _ rfl (.tmp 33) (.tmp 37) _ _ rfl _ _ rfl rfl _ _ HRUN2.out ?_; clear HRUN2
       have HKB := hide (an_upd2 HAN2.out (HE2.out.krow (i := 0) rfl) (dirt_snoc (dirt_snoc (HE2.out.dirt (i := 1) rfl) _ _ _ _) _ _ _ _) (by rw [List.length_append, List.length_append, List.length_singleton, List.length_singleton]; have := HLE.out; omega) (lo_upd _ (by decide) (lo_end es (by decide) (by decide)).1).1 (lo_upd _ (by decide) (lo_end es (by decide) (by decide)).1).2))
    | (go_at_call 12; (with_reducible refine HKB.out.mono ?_); rintro e w7 ⟨f7, A7, n7, c7, o7, b, o, rfl, hc7, hb7⟩; clear HKB
       have S7 := hide ((HE2.out.below hb7.out).box 32 #[.int .u64 (f7 : Int), .slice (A7 0) (n7 0) (c7 0), .slice (A7 1) (n7 1) (c7 1), .slice (some ⟨b, o, none⟩) 1 (c7 2), .slice (A7 3) (n7 3) (c7 3), .bool (o7 0), .bool (o7 1), .bool true, .bool (o7 3)])
       have c1 := hc7.out
       clear HE2 hb7 hc7))
  obtain ⟨p0, p1, p2, p3, p4, p5, p6, p7, p8⟩ := (S7.out.blk (i := 2) rfl).nine
  go_wp2
  go_ret
  exact ⟨rfl, HB.out.trans (S7.out.bel.mono HB.out.size)⟩
set_option maxHeartbeats 16000000 in
theorem ends_3f (HAN2 : Hid AnSaid) {v : Value} {l : List SeedD} {z : Int} {w : World} (HV : Hid (SeedRow w w.heap.size v l)) (hlb : lightB l = true) (r1 : -3 < Int.tmod z 3) (r2 : Int.tmod z 3 < 3) (hq : Int.tmod (Int.tmod z 3 + 3) 3 = 2) :
    Calls Try.prog 6 #[v, .int .i64 z, .bool false] w fun e w' => e = .returned (.bool true) ∧ Below w.heap.size w w' := by
  have HL := hide (lightB_iff.1 hlb).1
  go_enter Try.func6, Try.ntmps6
  go_upto_region 13 with (first
    | (go_at_call 9; (with_reducible refine (fit_any HAN2.out _).mono ?_); rintro e w1 ⟨rfl, hb1⟩; have HB := hide hb1; have HK1 := hide (light_any ((SeedRow.below HV.out hb1).more hb1.size)); clear hb1; rw [hlb] at HK1)
    | (go_at_call 10; (with_reducible refine HK1.out.mono ?_); rintro e w2 ⟨rfl, hb2⟩; clear HK1; have HB := hide (HB.out.trans (hb2.mono HB.out.size)); clear hb2; have HK2 := hide (entries_any ((SeedRow.below HV.out HB.out).more HB.out.size) HL.out))
    | (go_at_call 11; (with_reducible refine HK2.out.mono ?_); rintro e w3 ⟨u, es, rfl, hes, hs⟩; clear HK2; obtain ⟨Au, cu, rfl⟩ := (hs.krow (i := 0) rfl).form
       obtain ⟨v4, w4, hrun, S9⟩ := Ow.addK (x := mkE 5 3 0 5000) (cs := #[.int .i64 5, .int .i64 3, .int .i64 0, .int .i64 0, .string ⟨#[]⟩, .string ⟨#[]⟩, .string ⟨#[]⟩, .slice none 0 0, .int .u64 5000]) hs (i := 0) rfl rfl (by rw [hes.len]; have := HL.out; omega) 25
       have HRUN1 := hide hrun
       have HE1 := hide S9
       have HLE : Hid (es.length ≤ 100) := hide (by rw [hes.len]; exact HL.out)
       clear hrun S9 hes hs)
    | (at_builtin; refine Lib.wpList_append_run _ rfl (.tmp 24) (.tmp 29) _ _ rfl _ _ rfl rfl _ _ HRUN1.out ?_; clear HRUN1
       obtain ⟨A4, cc4, e4⟩ := (HE1.out.krow (i := 0) rfl).form
       rw [List.length_append, List.length_singleton] at e4
       subst e4
       have HKA := hide (an_end3 HAN2.out (HE1.out.krow (i := 0) rfl) (dirt_snoc (HE1.out.dirt (i := 1) rfl) _ _ _ _) (by rw [List.length_append, List.length_singleton]; have := HLE.out; omega) (lo_end es (by decide) (by decide)).1 (lo_end es (by decide) (by decide)).2))
    | (go_at_call 12; (with_reducible refine HKA.out.mono ?_); rintro e w5 ⟨f5, A5, n5, c5, o5, rfl, hb5⟩; clear HKA
       have S5 := hide ((HE1.out.below hb5.out).box 32 #[.int .u64 (f5 : Int), .slice (A5 0) (n5 0) (c5 0), .slice (A5 1) (n5 1) (c5 1), .slice (A5 2) (n5 2) (c5 2), .slice (A5 3) 0 (c5 3), .bool (o5 0), .bool (o5 1), .bool (o5 2), .bool false])
       obtain ⟨v6, w6, hrun, S9⟩ := Ow.addK (x := mkE 3 3 4 5010) (cs := #[.int .i64 3, .int .i64 3, .int .i64 0, .int .i64 4, .string ⟨#[]⟩, .string ⟨#[]⟩, .string ⟨#[]⟩, .slice none 0 0, .int .u64 5010]) S5.out (i := 0) rfl rfl (by rw [List.length_append, List.length_singleton]; have := HLE.out; omega) 25
       have e9 : (w5.alloc (.cells #[.int .u64 (f5 : Int), .slice (A5 0) (n5 0) (c5 0), .slice (A5 1) (n5 1) (c5 1), .slice (A5 2) (n5 2) (c5 2), .slice (A5 3) 0 (c5 3), .bool (o5 0), .bool (o5 1), .bool (o5 2), .bool false] 32)).heap.size = w5.heap.size + 1 := by simp
       rw [e9] at hrun
       have HRUN2 := hide hrun
       have HE2 := hide S9
       clear hrun S9 S5 HE1 hb5 e9)
    | (at_builtin; refine Lib.wpList_append_run _ rfl (.tmp 33) (.tmp 37) _ _ rfl _ _ rfl rfl _ _ HRUN2.out ?_; clear HRUN2
       have HKB := hide (an_upd3 HAN2.out (HE2.out.krow (i := 0) rfl) (dirt_snoc (dirt_snoc (HE2.out.dirt (i := 1) rfl) _ _ _ _) _ _ _ _) (by rw [List.length_append, List.length_append, List.length_singleton, List.length_singleton]; have := HLE.out; omega) (lo_upd _ (by decide) (lo_end es (by decide) (by decide)).1).1 (lo_upd _ (by decide) (lo_end es (by decide) (by decide)).1).2))
    | (go_at_call 12; (with_reducible refine HKB.out.mono ?_); rintro e w7 ⟨f7, A7, n7, c7, o7, b, o, rfl, hc7, hb7⟩; clear HKB
       have S7 := hide ((HE2.out.below hb7.out).box 32 #[.int .u64 (f7 : Int), .slice (A7 0) (n7 0) (c7 0), .slice (A7 1) (n7 1) (c7 1), .slice (A7 2) (n7 2) (c7 2), .slice (some ⟨b, o, none⟩) 1 (c7 3), .bool (o7 0), .bool (o7 1), .bool (o7 2), .bool true])
       have c1 := hc7.out
       clear HE2 hb7 hc7))
  obtain ⟨p0, p1, p2, p3, p4, p5, p6, p7, p8⟩ := (S7.out.blk (i := 2) rfl).nine
  go_wp2
  go_ret
  exact ⟨rfl, HB.out.trans (S7.out.bel.mono HB.out.size)⟩
set_option maxHeartbeats 16000000 in
theorem ends_3t (HAN2 : Hid AnSaid) {v : Value} {l : List SeedD} {z : Int} {w : World} (HV : Hid (SeedRow w w.heap.size v l)) (hlb : lightB l = true) (r1 : -3 < Int.tmod z 3) (r2 : Int.tmod z 3 < 3) (hq : Int.tmod (Int.tmod z 3 + 3) 3 = 2) :
    Calls Try.prog 6 #[v, .int .i64 z, .bool true] w fun e w' => e = .returned (.bool true) ∧ Below w.heap.size w w' := by
  have HL := hide (lightB_iff.1 hlb).1
  go_enter Try.func6, Try.ntmps6
  go_upto_region 13 with (first
    | (go_at_call 9; (with_reducible refine (fit_any HAN2.out _).mono ?_); rintro e w1 ⟨rfl, hb1⟩; have HB := hide hb1; have HK1 := hide (light_any ((SeedRow.below HV.out hb1).more hb1.size)); clear hb1; rw [hlb] at HK1)
    | (go_at_call 10; (with_reducible refine HK1.out.mono ?_); rintro e w2 ⟨rfl, hb2⟩; clear HK1; have HB := hide (HB.out.trans (hb2.mono HB.out.size)); clear hb2; have HK2 := hide (entries_any ((SeedRow.below HV.out HB.out).more HB.out.size) HL.out))
    | (go_at_call 11; (with_reducible refine HK2.out.mono ?_); rintro e w3 ⟨u, es, rfl, hes, hs⟩; clear HK2; obtain ⟨Au, cu, rfl⟩ := (hs.krow (i := 0) rfl).form
       obtain ⟨v4, w4, hrun, S9⟩ := Ow.addK (x := mkE 6 3 0 5000) (cs := #[.int .i64 6, .int .i64 3, .int .i64 0, .int .i64 0, .string ⟨#[]⟩, .string ⟨#[]⟩, .string ⟨#[]⟩, .slice none 0 0, .int .u64 5000]) hs (i := 0) rfl rfl (by rw [hes.len]; have := HL.out; omega) 25
       have HRUN1 := hide hrun
       have HE1 := hide S9
       have HLE : Hid (es.length ≤ 100) := hide (by rw [hes.len]; exact HL.out)
       clear hrun S9 hes hs)
    | (at_builtin; refine Lib.wpList_append_run _ rfl (.tmp 24) (.tmp 29) _ _ rfl _ _ rfl rfl _ _ HRUN1.out ?_; clear HRUN1
       obtain ⟨A4, cc4, e4⟩ := (HE1.out.krow (i := 0) rfl).form
       rw [List.length_append, List.length_singleton] at e4
       subst e4
       have HKA := hide (an_end3 HAN2.out (HE1.out.krow (i := 0) rfl) (dirt_snoc (HE1.out.dirt (i := 1) rfl) _ _ _ _) (by rw [List.length_append, List.length_singleton]; have := HLE.out; omega) (lo_end es (by decide) (by decide)).1 (lo_end es (by decide) (by decide)).2))
    | (go_at_call 12; (with_reducible refine HKA.out.mono ?_); rintro e w5 ⟨f5, A5, n5, c5, o5, rfl, hb5⟩; clear HKA
       have S5 := hide ((HE1.out.below hb5.out).box 32 #[.int .u64 (f5 : Int), .slice (A5 0) (n5 0) (c5 0), .slice (A5 1) (n5 1) (c5 1), .slice (A5 2) (n5 2) (c5 2), .slice (A5 3) 0 (c5 3), .bool (o5 0), .bool (o5 1), .bool (o5 2), .bool false])
       obtain ⟨v6, w6, hrun, S9⟩ := Ow.addK (x := mkE 3 3 4 5010) (cs := #[.int .i64 3, .int .i64 3, .int .i64 0, .int .i64 4, .string ⟨#[]⟩, .string ⟨#[]⟩, .string ⟨#[]⟩, .slice none 0 0, .int .u64 5010]) S5.out (i := 0) rfl rfl (by rw [List.length_append, List.length_singleton]; have := HLE.out; omega) 25
       have e9 : (w5.alloc (.cells #[.int .u64 (f5 : Int), .slice (A5 0) (n5 0) (c5 0), .slice (A5 1) (n5 1) (c5 1), .slice (A5 2) (n5 2) (c5 2), .slice (A5 3) 0 (c5 3), .bool (o5 0), .bool (o5 1), .bool (o5 2), .bool false] 32)).heap.size = w5.heap.size + 1 := by simp
       rw [e9] at hrun
       have HRUN2 := hide hrun
       have HE2 := hide S9
       clear hrun S9 S5 HE1 hb5 e9)
    | (at_builtin; refine Lib.wpList_append_run _ rfl (.tmp 33) (.tmp 37) _ _ rfl _ _ rfl rfl _ _ HRUN2.out ?_; clear HRUN2
       have HKB := hide (an_upd3 HAN2.out (HE2.out.krow (i := 0) rfl) (dirt_snoc (dirt_snoc (HE2.out.dirt (i := 1) rfl) _ _ _ _) _ _ _ _) (by rw [List.length_append, List.length_append, List.length_singleton, List.length_singleton]; have := HLE.out; omega) (lo_upd _ (by decide) (lo_end es (by decide) (by decide)).1).1 (lo_upd _ (by decide) (lo_end es (by decide) (by decide)).1).2))
    | (go_at_call 12; (with_reducible refine HKB.out.mono ?_); rintro e w7 ⟨f7, A7, n7, c7, o7, b, o, rfl, hc7, hb7⟩; clear HKB
       have S7 := hide ((HE2.out.below hb7.out).box 32 #[.int .u64 (f7 : Int), .slice (A7 0) (n7 0) (c7 0), .slice (A7 1) (n7 1) (c7 1), .slice (A7 2) (n7 2) (c7 2), .slice (some ⟨b, o, none⟩) 1 (c7 3), .bool (o7 0), .bool (o7 1), .bool (o7 2), .bool true])
       have c1 := hc7.out
       clear HE2 hb7 hc7))
  obtain ⟨p0, p1, p2, p3, p4, p5, p6, p7, p8⟩ := (S7.out.blk (i := 2) rfl).nine
  go_wp2
  go_ret
  exact ⟨rfl, HB.out.trans (S7.out.bel.mono HB.out.size)⟩
set_option maxHeartbeats 4000000 in
theorem ends_walk (HAN : AnSaid) (v : Value) (l : List SeedD) (z : Int) (en : Bool) (w : World) (hv : SeedRow w w.heap.size v l) : Calls Try.prog 6 #[v, .int .i64 z, .bool en] w fun e w' => e = .returned (.bool true) ∧ Below w.heap.size w w' := by
  have HAN2 := hide HAN
  clear HAN
  have HV := hide hv
  clear hv
  cases hlb : lightB l with
  | false =>
    go_enter Try.func6, Try.ntmps6
    go_wp2_with (first
      | (go_at_call 9; (with_reducible refine (fit_any HAN2.out _).mono ?_); rintro e w1 ⟨rfl, hb1⟩; have HB := hide hb1; have HK1 := hide (light_any ((SeedRow.below HV.out hb1).more hb1.size)); clear hb1; rw [hlb] at HK1)
      | (go_at_call 10; (with_reducible refine HK1.out.mono ?_); rintro e w2 ⟨rfl, hb2⟩; clear HK1; have HB := hide (HB.out.trans (hb2.mono HB.out.size)); clear hb2))
    go_ret
    exact ⟨rfl, HB.out⟩
  | true =>
    obtain ⟨r2, r1, r3, r4⟩ := mod_ok z 3 (by decide) (by decide)
    obtain hq | hq | hq : Int.tmod (Int.tmod z 3 + 3) 3 = 0 ∨ Int.tmod (Int.tmod z 3 + 3) 3 = 1 ∨ Int.tmod (Int.tmod z 3 + 3) 3 = 2 := by omega
    · cases en with
      | false => exact ends_1f HAN2 HV hlb (by omega) (by omega) hq
      | true => exact ends_1t HAN2 HV hlb (by omega) (by omega) hq
    · cases en with
      | false => exact ends_2f HAN2 HV hlb (by omega) (by omega) hq
      | true => exact ends_2t HAN2 HV hlb (by omega) (by omega) hq
    · cases en with
      | false => exact ends_3f HAN2 HV hlb (by omega) (by omega) hq
      | true => exact ends_3t HAN2 HV hlb (by omega) (by omega) hq
end Go.Proofs.Ytoifghofkjomnaa
