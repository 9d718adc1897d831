/-
  Contracts of package pool: passed, read.
-/
import Derived.Test.YtkdcnddagebjpaaPo2
namespace Go.Proofs.Ytkdcnddagebjpaa
open Go.RowKit
set_option maxRecDepth 20000
set_option linter.unusedSimpArgs false
set_option linter.unusedVariables false

section
variable {w : World} {X : Nat → Prop} {dg : Nat} {d : Ds} {g : Nat} {l : Ln} {kv : Value} {q : Nat} {P : Po} {gr : Rg} {k : Nat}
/-- How many frames the hand passes. -/
def Po.pas (P : Po) : Nat := if (P.f (P.ahd 0)).req = false then 0 else if (P.f (P.ahd 1)).req = false then 1 else if (P.f (P.ahd 2)).req = false then 2 else 3
theorem Po.pas_le (P : Po) : P.pas ≤ 3 := by
  unfold Po.pas
  split
  · omega
  · split
    · omega
    · split <;> omega
theorem Po.pas_at {P : Po} {k : Nat} (hk : k < 3) (h : ∀ j, j < k → (P.f (P.ahd j)).req = true) (h1 : (P.f (P.ahd k)).req = false) : P.pas = k := by
  unfold Po.pas
  match k, hk with
  | 0, _ => simp [h1]
  | 1, _ => simp [h1, h 0 (by omega)]
  | 2, _ => simp [h1, h 0 (by omega), h 1 (by omega)]
theorem Po.pas_all {P : Po} (h : ∀ j, j < 3 → (P.f (P.ahd j)).req = true) : P.pas = 3 := by
  unfold Po.pas
  simp [h 0 (by omega), h 1 (by omega), h 2 (by omega)]
theorem req_next {P : Po} {k : Nat} (h : ∀ j, j < k → (P.f (P.ahd j)).req = true) (h1 : (P.f (P.ahd k)).req = true) : ∀ j, j < k + 1 → (P.f (P.ahd j)).req = true := by
  intro j hj
  rcases Nat.lt_or_ge j k with hlt | hge
  · exact h j hlt
  · obtain rfl : j = k := by omega
    exact h1
theorem passed_po (h : PAt w X dg d g l kv q P) (hh : P.hand < 3) : Calls Try.prog 75 #[.pointer (some ⟨q, 0, none⟩)] w fun e w' => e = .returned (.int .i64 (P.pas : Int)) ∧ Below w.heap.size w w' := by
  have H0 := hide h
  clear h
  go_enter Try.func75, Try.ntmps75
  go_wp2
  go_loopg [4] 3 (fun m i wr => ∃ k : Nat, k + m = 3 ∧ i = .int .i64 k ∧ Hid (∀ j, j < k → (P.f (P.ahd j)).req = true) ∧ Hid (Below w.heap.size w wr))
  case atStart => exact ⟨0, by omega, rfl, fun j hj => absurd hj (by omega), Below.refl _ _⟩
  case round =>
    obtain ⟨k, hk, rfl, hf, hb⟩ := hrel
    cases gk with
    | zero =>
      obtain rfl : k = 3 := by omega
      go_wp2
      go_ret
      rw [Po.pas_all hf.out]
      exact ⟨rfl, hb.out⟩
    | succ m =>
      have hlt : k < 3 := by omega
      have hlt' : (k : Int) < 3 := by omega
      have hah := ahead_po (H0.out.below hb.out) hh k (by omega)
      cases hrq : (P.f (P.ahd k)).req
      · have HP := hide (P.pas_at hlt hf.out hrq)
        have HR := hide hrq
        clear hrq
        go_wp2_with (go_at_call 76; ((with_reducible refine hah.mono ?_); rintro e w2 ⟨rfl, hb2⟩; have B2 := hide (hb.out.trans (hb2.mono hb.out.size)); have c2 := ((H0.out.below B2.out).cell (P.ahd_lt k)).2.2.1; rw [HR.out] at c2; clear hb2 hah))
        go_ret
        rw [HP.out]
        exact ⟨rfl, B2.out⟩
      · have HN := hide (req_next hf.out hrq)
        have HR := hide hrq
        clear hrq
        go_wp2_with (go_at_call 76; ((with_reducible refine hah.mono ?_); rintro e w2 ⟨rfl, hb2⟩; have B2 := hide (hb.out.trans (hb2.mono hb.out.size)); have c2 := ((H0.out.below B2.out).cell (P.ahd_lt k)).2.2.1; rw [HR.out] at c2; clear hb2 hah))
        go_roundg m
        case rel => exact ⟨k + 1, by omega, by go_num, HN, B2⟩
        case measure => omega
/-- A page's first sectors. -/
def pgB (S : List Sec) (n : Nat) : Nat → List UInt8
  | 0 => []
  | k + 1 => pgB S n k ++ S.getD (514 + 4 * n + k) zsec
theorem pgB_length {S : List Sec} {n m : Nat} (h : ∀ s ∈ S, s.length = 64) (hl : S.length = m) (hn : n < 6) (hm : 538 ≤ m) : ∀ k, k ≤ 4 → (pgB S n k).length = 64 * k
  | 0, _ => rfl
  | k + 1, hk => by
    rw [pgB, List.length_append, pgB_length h hl hn hm k (by omega), List.getD_eq_getElem?_getD, List.getElem?_eq_getElem (by omega)]
    have := h _ (List.getElem_mem (show 514 + 4 * n + k < S.length by omega))
    simp only [Option.getD_some]
    omega
set_option maxHeartbeats 8000000 in
theorem read_po (h : PAt w X dg d g l kv q P) (hd : DIs d P.r gr k) (hsz : 538 ≤ d.size) (n : Nat) (hn : n < 6) : Calls Try.prog 33 #[.pointer (some ⟨q, 0, none⟩), .int .i64 (n : Int)] w fun e w' => ∃ x e', e = .returned (.tuple #[x.val, .int .i64 e']) ∧ DecP (pgB gr.secs n 4) P.r n x e' ∧ Below w.heap.size w w' := by
  have H0 := hide h
  have HD := hide hd
  have hrl : P.r < 64 := by
    have := (List.getElem?_eq_some_iff.1 hd.at_).1
    obtain ⟨lab, hk⟩ := many_at (i := 0) h.ln.many rfl
    have := hk.2.2.1
    omega
  have HLEN := hide (pgB_length (n := n) (hd.fit.secs_full) hd.fit.secs_length hn hsz)
  obtain ⟨i0, hi, hz0, hz1, hz2⟩ := info_parts info8
  have hz := hide (pgb_new w pZ)
  have hb0 := hide ((Below.refl w.heap.size w).alloc (Nat.le_refl _) (.cells pZ.cells 53))
  clear h hd
  go_enter Try.func33, Try.ntmps33
  go_wp2
  go_loopw [6, 10] (fun u i wr => ∃ (j : Nat), j ≤ 4 ∧ i = .int .i64 j ∧ Hid (Mine wr (w.heap.size + 1) u (pgB gr.secs n j)) ∧ Hid (Below w.heap.size w wr) ∧ Hid (PgB wr w.heap.size pZ) ∧ Hid (w.heap.size + 1 ≤ wr.heap.size)) (fun _ i _ => 4 - (intOf i).toNat)
  case atStart => exact ⟨0, by omega, rfl, own_nil _ _ _, hb0, hz, hide (by simp)⟩
  case round =>
    obtain ⟨j, hj, rfl, hm, hb1, hpz, hs1⟩ := hrel
    by_cases hlt : j < 4
    · have H1 := hide (H0.out.below hb1.out)
      obtain ⟨b, hb2, hbs, hb64⟩ := HD.out.rd (show 514 + 4 * n + j < d.size by omega)
      have hb2 := hide hb2
      have HBS := hide hbs
      have HL64 := hide hb64
      have hlt' : (j : Int) < 4 := by omega
      clear hbs hb64
      go_upto_region 5 with fail
      refine region_grows [Say.is (.pointer (some ⟨q, 0, none⟩)), Say.is (.pointer (some ⟨q, 0, none⟩)), Say.is (.pointer (some ⟨q, 0, none⟩)), Say.is (ptr dg), Say.is (.pointer (some ⟨q, 0, none⟩)), Say.is (.pointer (some ⟨q, 0, none⟩)), Say.is (.pointer (some ⟨q, 1, none⟩)), Say.is (.int .i64 (P.r : Int)), Say.is (.int .i64 (n : Int)), Say.is (.int .i64 ((514 + 4 * n : Nat) : Int)), Say.is (.int .i64 (j : Int)), Say.is (.int .i64 ((514 + 4 * n + j : Nat) : Int)), Say.two b, Say.two b, Say.rd 64 (b), Say.is (.int .i64 0), Say.rd 64 (b), Say.is (.int .i64 0)] (by kernel_rfl) (by kernel_rfl) (by kernel_rfl) (by kernel_rfl) ?_ ?_
      · intro i o ho a w2 hb hsz old dep
        match i, ho with
        | 0, ho =>
          obtain rfl := Option.some.inj ho
          have o0 : a.tmps.getD 0 undef = _ := old 0 (by kernel_rfl)
          rw [if_pos (wanted_none rfl)]
          refine grow_same (v := .pointer (some ⟨q, 0, none⟩)) ?_ rfl
          clear old dep ho hsz hb
          go_simp
        | 1, ho =>
          obtain rfl := Option.some.inj ho
          have d0 : a.tmps.getD 14 undef = .pointer (some ⟨q, 0, none⟩) := dep 0 _ _ (by kernel_rfl) rfl rfl
          have e0 : a.tmps[14]?.getD undef = _ := (Array.getD_eq_getD_getElem? ..).symm.trans d0
          rw [if_pos (wanted_none rfl)]
          refine grow_same (v := .pointer (some ⟨q, 0, none⟩)) ?_ rfl
          clear old dep ho hsz hb
          go_simp
        | 2, ho =>
          obtain rfl := Option.some.inj ho
          have d1 : a.tmps.getD 15 undef = .pointer (some ⟨q, 0, none⟩) := dep 1 _ _ (by kernel_rfl) rfl rfl
          have e1 : a.tmps[15]?.getD undef = _ := (Array.getD_eq_getD_getElem? ..).symm.trans d1
          rw [if_pos (wanted_none rfl)]
          refine grow_same (v := .pointer (some ⟨q, 0, none⟩)) ?_ rfl
          clear old dep ho hsz hb
          go_simp
        | 3, ho =>
          obtain rfl := Option.some.inj ho
          have d2 : a.tmps.getD 16 undef = .pointer (some ⟨q, 0, none⟩) := dep 2 _ _ (by kernel_rfl) rfl rfl
          have e2 : a.tmps[16]?.getD undef = _ := (Array.getD_eq_getD_getElem? ..).symm.trans d2
          rw [if_pos (wanted_none rfl)]
          obtain ⟨hc0, hc1, hc2, hc18⟩ := (H1.out.below hb).head
          refine grow_same (v := ptr dg) ?_ rfl
          clear old dep ho hsz hb
          go_simp
        | 4, ho =>
          obtain rfl := Option.some.inj ho
          have o0 : a.tmps.getD 0 undef = _ := old 0 (by kernel_rfl)
          rw [if_pos (wanted_none rfl)]
          refine grow_same (v := .pointer (some ⟨q, 0, none⟩)) ?_ rfl
          clear old dep ho hsz hb
          go_simp
        | 5, ho =>
          obtain rfl := Option.some.inj ho
          have d4 : a.tmps.getD 18 undef = .pointer (some ⟨q, 0, none⟩) := dep 4 _ _ (by kernel_rfl) rfl rfl
          have e4 : a.tmps[18]?.getD undef = _ := (Array.getD_eq_getD_getElem? ..).symm.trans d4
          rw [if_pos (wanted_none rfl)]
          refine grow_same (v := .pointer (some ⟨q, 0, none⟩)) ?_ rfl
          clear old dep ho hsz hb
          go_simp
        | 6, ho =>
          obtain rfl := Option.some.inj ho
          have d5 : a.tmps.getD 19 undef = .pointer (some ⟨q, 0, none⟩) := dep 5 _ _ (by kernel_rfl) rfl rfl
          have e5 : a.tmps[19]?.getD undef = _ := (Array.getD_eq_getD_getElem? ..).symm.trans d5
          rw [if_pos (wanted_none rfl)]
          refine grow_same (v := .pointer (some ⟨q, 1, none⟩)) ?_ rfl
          clear old dep ho hsz hb
          go_simp
        | 7, ho =>
          obtain rfl := Option.some.inj ho
          have d6 : a.tmps.getD 20 undef = .pointer (some ⟨q, 1, none⟩) := dep 6 _ _ (by kernel_rfl) rfl rfl
          have e6 : a.tmps[20]?.getD undef = _ := (Array.getD_eq_getD_getElem? ..).symm.trans d6
          rw [if_pos (wanted_none rfl)]
          obtain ⟨hc0, hc1, hc2, hc18⟩ := (H1.out.below hb).head
          refine grow_same (v := .int .i64 (P.r : Int)) ?_ rfl
          clear old dep ho hsz hb
          go_simp
        | 8, ho =>
          obtain rfl := Option.some.inj ho
          have o1 : a.tmps.getD 1 undef = _ := old 1 (by kernel_rfl)
          rw [if_pos (wanted_none rfl)]
          refine grow_same (v := .int .i64 (n : Int)) ?_ rfl
          clear old dep ho hsz hb
          go_simp
        | 9, ho =>
          obtain rfl := Option.some.inj ho
          have d8 : a.tmps.getD 22 undef = .int .i64 (n : Int) := dep 8 _ _ (by kernel_rfl) rfl rfl
          have e8 : a.tmps[22]?.getD undef = _ := (Array.getD_eq_getD_getElem? ..).symm.trans d8
          rw [if_pos (wanted_none rfl)]
          refine grow_enters (f := 61) (args := #[.int .i64 (n : Int)]) ?_ ((psec_any w2 n hn).mono (by rintro e w' ⟨rfl, rfl⟩; exact ⟨_, rfl, rfl, Below.refl _ _⟩))
          clear old dep ho hsz hb
          go_simp
        | 10, ho =>
          obtain rfl := Option.some.inj ho
          have o7 : a.tmps.getD 7 undef = _ := old 7 (by kernel_rfl)
          rw [if_pos (wanted_none rfl)]
          refine grow_same (v := .int .i64 (j : Int)) ?_ rfl
          clear old dep ho hsz hb
          go_simp
        | 11, ho =>
          obtain rfl := Option.some.inj ho
          have d9 : a.tmps.getD 23 undef = .int .i64 ((514 + 4 * n : Nat) : Int) := dep 9 _ _ (by kernel_rfl) rfl rfl
          have e9 : a.tmps[23]?.getD undef = _ := (Array.getD_eq_getD_getElem? ..).symm.trans d9
          have d10 : a.tmps.getD 24 undef = .int .i64 (j : Int) := dep 10 _ _ (by kernel_rfl) rfl rfl
          have e10 : a.tmps[24]?.getD undef = _ := (Array.getD_eq_getD_getElem? ..).symm.trans d10
          rw [if_pos (wanted_none rfl)]
          refine grow_same (v := .int .i64 ((514 + 4 * n + j : Nat) : Int)) ?_ rfl
          clear old dep ho hsz hb
          go_simp
          first | omega | (rw [IntKind.wrap_i64]; omega)
        | 12, ho =>
          obtain rfl := Option.some.inj ho
          have d3 : a.tmps.getD 17 undef = ptr dg := dep 3 _ _ (by kernel_rfl) rfl rfl
          have e3 : a.tmps[17]?.getD undef = _ := (Array.getD_eq_getD_getElem? ..).symm.trans d3
          have d7 : a.tmps.getD 21 undef = .int .i64 (P.r : Int) := dep 7 _ _ (by kernel_rfl) rfl rfl
          have e7 : a.tmps[21]?.getD undef = _ := (Array.getD_eq_getD_getElem? ..).symm.trans d7
          have d11 : a.tmps.getD 25 undef = .int .i64 ((514 + 4 * n + j : Nat) : Int) := dep 11 _ _ (by kernel_rfl) rfl rfl
          have e11 : a.tmps[25]?.getD undef = _ := (Array.getD_eq_getD_getElem? ..).symm.trans d11
          rw [if_pos (wanted_none rfl)]
          refine grow_enters (f := 44) (args := #[ptr dg, .int .i64 (P.r : Int), .int .i64 ((514 + 4 * n + j : Nat) : Int)]) ?_ (read_two (H1.out.below hb).ln.many hb2.out)
          clear old dep ho hsz hb
          go_simp
        | 13, ho =>
          obtain rfl := Option.some.inj ho
          have s12 : (Say.two b).p w2 (a.tmps.getD 26 undef) := dep 12 _ _ (by kernel_rfl) rfl rfl
          rw [if_pos (wanted_none rfl)]
          refine grow_same (v := a.tmps.getD 26 undef) ?_ s12
          clear old dep ho hsz hb
          go_simp
        | 14, ho =>
          obtain rfl := Option.some.inj ho
          have s13 : (Say.two b).p w2 (a.tmps.getD 13 undef) := dep 13 _ _ (by kernel_rfl) rfl rfl
          rw [if_pos (wanted_none rfl)]
          obtain ⟨A, c, e17, h17⟩ := s13
          refine grow_same (v := .slice A 64 c) ?_ ⟨A, c, rfl, h17⟩
          rw [Array.getD_eq_getD_getElem?] at e17
          clear old dep ho hsz hb
          go_simp
        | 15, ho =>
          obtain rfl := Option.some.inj ho
          have s13 : (Say.two b).p w2 (a.tmps.getD 13 undef) := dep 13 _ _ (by kernel_rfl) rfl rfl
          rw [if_pos (wanted_none rfl)]
          obtain ⟨A, c, e17, h17⟩ := s13
          rw [Array.getD_eq_getD_getElem?] at e17
          refine grow_same (v := .int .i64 0) ?_ rfl
          clear old dep ho hsz hb
          go_simp
        | 16, ho =>
          obtain rfl := Option.some.inj ho
          obtain ⟨A14, C14, d14, r14⟩ : ∃ A c, a.tmps.getD 27 undef = .slice A 64 c ∧ Rd w2 (.slice A 64 c) (u8s (b)) := dep 14 _ _ (by kernel_rfl) rfl rfl
          have e14 : a.tmps[27]?.getD undef = _ := (Array.getD_eq_getD_getElem? ..).symm.trans d14
          rw [if_pos (wanted_none rfl)]
          refine grow_same (v := .slice A14 64 C14) ?_ ⟨_, _, rfl, r14⟩
          clear old dep ho hsz hb r14
          go_simp
        | 17, ho =>
          obtain rfl := Option.some.inj ho
          have d15 : a.tmps.getD 28 undef = .int .i64 0 := dep 15 _ _ (by kernel_rfl) rfl rfl
          have e15 : a.tmps[28]?.getD undef = _ := (Array.getD_eq_getD_getElem? ..).symm.trans d15
          rw [if_pos (wanted_none rfl)]
          refine grow_same (v := .int .i64 0) ?_ rfl
          clear old dep ho hsz hb
          go_simp
        | i + 18, ho => exact absurd ho (by simp)
      · intro a w2 hb hsz hdf fin keep
        obtain ⟨tm, df⟩ := a
        have hx := frame_of [14, 15, 16, 17, 18, 19, 20, 21, 22, 23, 24, 25, 26, 13, 27, 28, 8, 9] (by kernel_rfl) hsz keep
        dsimp only at hdf hx
        simp only [List.foldl_cons, List.foldl_nil] at hx
        subst hdf
        clear hsz keep
        have kn : tm.getD 14 undef = .pointer (some ⟨q, 0, none⟩) := fin 0 _ _ rfl rfl
        rw [kn] at hx
        clear kn
        have kn : tm.getD 15 undef = .pointer (some ⟨q, 0, none⟩) := fin 1 _ _ rfl rfl
        rw [kn] at hx
        clear kn
        have kn : tm.getD 16 undef = .pointer (some ⟨q, 0, none⟩) := fin 2 _ _ rfl rfl
        rw [kn] at hx
        clear kn
        have kn : tm.getD 17 undef = ptr dg := fin 3 _ _ rfl rfl
        rw [kn] at hx
        clear kn
        have kn : tm.getD 18 undef = .pointer (some ⟨q, 0, none⟩) := fin 4 _ _ rfl rfl
        rw [kn] at hx
        clear kn
        have kn : tm.getD 19 undef = .pointer (some ⟨q, 0, none⟩) := fin 5 _ _ rfl rfl
        rw [kn] at hx
        clear kn
        have kn : tm.getD 20 undef = .pointer (some ⟨q, 1, none⟩) := fin 6 _ _ rfl rfl
        rw [kn] at hx
        clear kn
        have kn : tm.getD 21 undef = .int .i64 (P.r : Int) := fin 7 _ _ rfl rfl
        rw [kn] at hx
        clear kn
        have kn : tm.getD 22 undef = .int .i64 (n : Int) := fin 8 _ _ rfl rfl
        rw [kn] at hx
        clear kn
        have kn : tm.getD 23 undef = .int .i64 ((514 + 4 * n : Nat) : Int) := fin 9 _ _ rfl rfl
        rw [kn] at hx
        clear kn
        have kn : tm.getD 24 undef = .int .i64 (j : Int) := fin 10 _ _ rfl rfl
        rw [kn] at hx
        clear kn
        have kn : tm.getD 25 undef = .int .i64 ((514 + 4 * n + j : Nat) : Int) := fin 11 _ _ rfl rfl
        rw [kn] at hx
        clear kn
        generalize tm.getD 26 undef = y26 at hx
        generalize tm.getD 13 undef = y13 at hx
        obtain ⟨A27, C27, kn, R27⟩ : ∃ A c, tm.getD 27 undef = .slice A 64 c ∧ Rd w2 (.slice A 64 c) (u8s (b)) := fin 14 _ _ rfl rfl
        rw [kn] at hx
        clear kn
        clear R27
        have kn : tm.getD 28 undef = .int .i64 0 := fin 15 _ _ rfl rfl
        rw [kn] at hx
        clear kn
        obtain ⟨A8, C8, kn, R8⟩ : ∃ A c, tm.getD 8 undef = .slice A 64 c ∧ Rd w2 (.slice A 64 c) (u8s (b)) := fin 16 _ _ rfl rfl
        rw [kn] at hx
        clear kn
        have kn : tm.getD 9 undef = .int .i64 0 := fin 17 _ _ rfl rfl
        rw [kn] at hx
        clear kn
        clear fin
        simp only [List.setIfInBounds_toArray, List.set_cons_succ, List.set_cons_zero] at hx
        subst hx
        have hB2 := hide (hb1.out.trans (hb.mono hb1.out.size))
        have hP2 := hide (hpz.out.below hb)
        have hM2 := hide (hm.out.below hb)
        have hS2 := hide (Nat.le_trans hs1.out hb.size)
        have hL := hide (HLEN.out j (by omega))
        clear hb hb1 hpz hm
        go_wp2_with (at_builtin; refine wpList_append_rd rfl (.tmp 33) (.tmp 34) 58 rfl (base := w.heap.size + 1) 5 i0 (.int .u8 0) 1 Try.underlying58 hi hz0 hz1 hz2 rfl _ (pgB gr.secs n j).length (u8s (pgB gr.secs n j)) rfl hM2.out (.slice A8 64 C8) (u8s b) rfl R8 (oneCell_u8s _) (by rw [u8s_length, hL.out, HL64.out]; unfold maxLen; omega) (by rw [u8s_length, hL.out, HL64.out]; omega) hS2.out ?_; intro v6 w6 own6 grow6 at6; have M6 : Hid (Mine w6 (w.heap.size + 1) v6 (pgB gr.secs n j ++ b)) := hide (mine_rd own6); have B6 := hide (hB2.out.grown grow6 hB2.out.size (fun k hk => by have := hM2.out.low k hk; omega)); have P6 := hide (hP2.out.grown grow6 (fun e => by have := hM2.out.low _ e; omega)); have S6 := hide (Nat.le_trans hS2.out grow6.size); clear own6 grow6 at6)
        go_roundw
        case rel =>
          refine ⟨j + 1, by omega, by go_num, ?_, B6, P6, S6⟩
          have e : pgB gr.secs n (j + 1) = pgB gr.secs n j ++ b := by rw [pgB, List.getD_eq_getElem?_getD, HBS.out]; rfl
          rw [e]
          exact M6
        case measure => simp [intOf]; omega
    · obtain rfl : j = 4 := by omega
      obtain ⟨A9, c9, hu9⟩ := hm.out.form
      subst hu9
      have H1 := hide (H0.out.below hb1.out)
      obtain ⟨c0, c1, _⟩ := H1.out.head
      have hdec := decode_pg _ _ P.r n wr (by rw [HLEN.out 4 (by omega)]; omega) hm.out.rd
      unfold Pg.val Pg.cells at hdec
      go_wp2_with (go_at_call 45; ((with_reducible refine hdec.mono ?_); rintro e w2 ⟨x, e', rfl, hx, hb2⟩; have HX := hide hx; have P2 := hide (hpz.out.below hb2); obtain ⟨z0, z1, z2, z3, z4, z5, z6, z7, zf⟩ := P2.out.zero_cells; have B2 := hide (hb1.out.trans (hb2.mono hb1.out.size)); clear hx hb2 hdec))
      refine bodyPost_ret (v := .tuple #[x.val, .int .i64 e']) (by simp [results, Try.results33, go_sem, z0, z1, z2, z3, z4, z5, z6, z7, Pg.val, Pg.cells]) rfl ⟨x, e', rfl, HX.out, ?_⟩
      exact pg_set8_below (p := x) B2.out (Nat.le_refl _)
end
end Go.Proofs.Ytkdcnddagebjpaa
