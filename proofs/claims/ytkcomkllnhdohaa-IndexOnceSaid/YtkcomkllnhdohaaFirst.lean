/-
  Contracts of package index: what first asks of one place, sort.Search, first.
-/
import Derived.Test.YtkcomkllnhdohaaIx
import Derived.Deep.LoopGhost
namespace Go.Proofs.Ytkcomkllnhdohaa
open Go.RowKit
set_option maxRecDepth 20000
set_option linter.unusedSimpArgs false
set_option linter.unusedVariables false

/-- A function value that says q of each item's row. -/
structure Holds (w : World) (K : Nat) (p : Value) (xs : List It) (q : It → Bool) : Prop where
  eg : ∀ args W, (callFunc K args).run Try.prog W = .ok (.enter K args) W
  c : ∀ x ∈ xs, ∀ W, Below w.heap.size w W → Calls Try.prog K #[x.row, p] W fun e W' => e = .returned (.bool (q x)) ∧ Below W.heap.size W W'
theorem Holds.below {w w' : World} {K : Nat} {p : Value} {xs : List It} {q : It → Bool} (h : Holds w K p xs q) (hb : Below w.heap.size w w') : Holds w' K p xs q := ⟨h.eg, fun x hx W hW => h.c x hx W (hb.trans (hW.mono hb.size))⟩
set_option maxHeartbeats 4000000 in
theorem first1_any {w : World} {hb0 xb g K j : Nat} {r : Option Nat} {xs : List It} {p : Value} {q : It → Bool} (hH : Blk w hb0 62 #[.func (.func K) #[] #[p]]) (hX : Blk w xb 46 #[.pointer (some ⟨g, 0, none⟩)]) (h : Ix w g r xs) (hq : Holds w K p xs q) (hi : j < xs.length) :
    Calls Try.prog 34 #[.int .i64 (j : Int), .pointer (some ⟨hb0, 0, none⟩), .pointer (some ⟨xb, 0, none⟩)] w fun e w' => e = .returned (.bool (q xs[j])) ∧ Below w.heap.size w w' := by
  obtain ⟨v, hv, hit, _⟩ := h.v
  obtain ⟨k, c, rfl, _, _⟩ := hit.block (by omega)
  have XH := hide hH
  have XX := hide hX
  have XV := hide hv
  have XI := hide hit
  have HI := hide (show (0 : Int) ≤ (j : Int) ∧ (j : Int) < (xs.length : Int) by omega)
  have HA := hide (List.getElem?_eq_getElem hi)
  have EG := hide hq.eg
  have hc := hq.c _ (List.getElem_mem hi)
  clear hH hX hv hit h hq
  generalize q xs[j] = b at *
  have HC := hide hc
  clear hc
  generalize xs[j] = x at *
  clear hi
  obtain ⟨t, kk, vv, pp, ss⟩ := x
  unfold It.row at HC
  dsimp only at *
  go_enter Try.func34, Try.ntmps34
  go_wp2
  refine region_grows [Say.is (.func (.func K) #[] #[p]), Say.is (.pointer (some ⟨g, 0, none⟩)), Say.is (.pointer (some ⟨g, 0, none⟩)), Say.is (.pointer (some ⟨g, 0, none⟩)), Say.is (.slice (some ⟨k, 0, none⟩) xs.length c), Say.is (.int .i64 (j : Int)), Say.is (.pointer (some ⟨k, j * 5, none⟩)), Say.is (.pointer (some ⟨k, j * 5, none⟩)), Say.is (.agg #[.int .i64 t, .string kk, .string vv]), Say.is (.bool b), Say.is (.bool b)] (by kernel_rfl) (by kernel_rfl) (by kernel_rfl) (by kernel_rfl) ?_ ?_
  · intro i o ho a w2 hb hsz old dep
    match i, ho with
    | 0, ho =>
      obtain rfl := Option.some.inj ho
      have o1 : a.tmps.getD 1 undef = _ := old 1 (by kernel_rfl)
      rw [if_pos (wanted_none rfl)]
      have g0 := (XH.out.below hb).cell 0 _ rfl
      refine grow_same (v := .func (.func K) #[] #[p]) ?_ rfl
      clear old dep ho hsz hb
      go_simp
    | 1, ho =>
      obtain rfl := Option.some.inj ho
      have o2 : a.tmps.getD 2 undef = _ := old 2 (by kernel_rfl)
      rw [if_pos (wanted_none rfl)]
      have g0 := (XX.out.below hb).cell 0 _ rfl
      refine grow_same (v := .pointer (some ⟨g, 0, none⟩)) ?_ rfl
      clear old dep ho hsz hb
      go_simp
    | 2, ho =>
      obtain rfl := Option.some.inj ho
      have d1 : a.tmps.getD 6 undef = .pointer (some ⟨g, 0, none⟩) := dep 1 _ _ (by kernel_rfl) rfl rfl
      have e1 : a.tmps[6]?.getD undef = _ := (Array.getD_eq_getD_getElem? ..).symm.trans d1
      rw [if_pos (wanted_none rfl)]
      refine grow_same (v := .pointer (some ⟨g, 0, none⟩)) ?_ rfl
      clear old dep ho hsz hb
      go_simp
    | 3, ho =>
      obtain rfl := Option.some.inj ho
      have d2 : a.tmps.getD 7 undef = .pointer (some ⟨g, 0, none⟩) := dep 2 _ _ (by kernel_rfl) rfl rfl
      have e2 : a.tmps[7]?.getD undef = _ := (Array.getD_eq_getD_getElem? ..).symm.trans d2
      rw [if_pos (wanted_none rfl)]
      refine grow_same (v := .pointer (some ⟨g, 0, none⟩)) ?_ rfl
      clear old dep ho hsz hb
      go_simp
    | 4, ho =>
      obtain rfl := Option.some.inj ho
      have d3 : a.tmps.getD 8 undef = .pointer (some ⟨g, 0, none⟩) := dep 3 _ _ (by kernel_rfl) rfl rfl
      have e3 : a.tmps[8]?.getD undef = _ := (Array.getD_eq_getD_getElem? ..).symm.trans d3
      rw [if_pos (wanted_none rfl)]
      have g0 := (XV.out.below hb).cell 0 _ rfl
      refine grow_same (v := .slice (some ⟨k, 0, none⟩) xs.length c) ?_ rfl
      clear old dep ho hsz hb
      go_simp
    | 5, ho =>
      obtain rfl := Option.some.inj ho
      have o0 : a.tmps.getD 0 undef = _ := old 0 (by kernel_rfl)
      rw [if_pos (wanted_none rfl)]
      refine grow_same (v := .int .i64 (j : Int)) ?_ rfl
      clear old dep ho hsz hb
      go_simp
    | 6, ho =>
      obtain rfl := Option.some.inj ho
      have d4 : a.tmps.getD 9 undef = .slice (some ⟨k, 0, none⟩) xs.length c := dep 4 _ _ (by kernel_rfl) rfl rfl
      have e4 : a.tmps[9]?.getD undef = _ := (Array.getD_eq_getD_getElem? ..).symm.trans d4
      have d5 : a.tmps.getD 10 undef = .int .i64 (j : Int) := dep 5 _ _ (by kernel_rfl) rfl rfl
      have e5 : a.tmps[10]?.getD undef = _ := (Array.getD_eq_getD_getElem? ..).symm.trans d5
      rw [if_pos (wanted_none rfl)]
      have q0 := HI.out.1
      have q1 := HI.out.2
      refine grow_same (v := .pointer (some ⟨k, j * 5, none⟩)) ?_ rfl
      clear old dep ho hsz hb
      go_simp
    | 7, ho =>
      obtain rfl := Option.some.inj ho
      have d6 : a.tmps.getD 11 undef = .pointer (some ⟨k, j * 5, none⟩) := dep 6 _ _ (by kernel_rfl) rfl rfl
      have e6 : a.tmps[11]?.getD undef = _ := (Array.getD_eq_getD_getElem? ..).symm.trans d6
      rw [if_pos (wanted_none rfl)]
      refine grow_same (v := .pointer (some ⟨k, j * 5, none⟩)) ?_ rfl
      clear old dep ho hsz hb
      go_simp
    | 8, ho =>
      obtain rfl := Option.some.inj ho
      have d7 : a.tmps.getD 12 undef = .pointer (some ⟨k, j * 5, none⟩) := dep 7 _ _ (by kernel_rfl) rfl rfl
      have e7 : a.tmps[12]?.getD undef = _ := (Array.getD_eq_getD_getElem? ..).symm.trans d7
      rw [if_pos (wanted_none rfl)]
      obtain ⟨g0, g1, g2, _⟩ := (XI.out.below hb).cells rfl HA.out
      refine grow_same (v := .agg #[.int .i64 t, .string kk, .string vv]) ?_ rfl
      clear old dep ho hsz hb
      go_simp
    | 9, ho =>
      obtain rfl := Option.some.inj ho
      have d0 : a.tmps.getD 5 undef = .func (.func K) #[] #[p] := dep 0 _ _ (by kernel_rfl) rfl rfl
      have e0 : a.tmps[5]?.getD undef = _ := (Array.getD_eq_getD_getElem? ..).symm.trans d0
      have d8 : a.tmps.getD 13 undef = .agg #[.int .i64 t, .string kk, .string vv] := dep 8 _ _ (by kernel_rfl) rfl rfl
      have e8 : a.tmps[13]?.getD undef = _ := (Array.getD_eq_getD_getElem? ..).symm.trans d8
      rw [if_pos (wanted_none rfl)]
      have eg := EG.out
      refine grow_enters (f := K) (args := #[.agg #[.int .i64 t, .string kk, .string vv], p]) ?_ ((HC.out _ hb).mono fun e w3 h => ⟨_, h.1, rfl, h.2⟩)
      clear old dep ho hsz hb
      go_simp
    | 10, ho =>
      obtain rfl := Option.some.inj ho
      have d9 : a.tmps.getD 14 undef = .bool b := dep 9 _ _ (by kernel_rfl) rfl rfl
      have e9 : a.tmps[14]?.getD undef = _ := (Array.getD_eq_getD_getElem? ..).symm.trans d9
      rw [if_pos (wanted_none rfl)]
      refine grow_same (v := .bool b) ?_ rfl
      clear old dep ho hsz hb
      go_simp
    | i + 11, ho => exact absurd ho (by simp)
  · intro a w2 hb hsz hdf fin keep
    obtain ⟨tm, df⟩ := a
    have hx := frame_of [5, 6, 7, 8, 9, 10, 11, 12, 13, 14, 4] (by kernel_rfl) hsz keep
    dsimp only at hdf hx
    simp only [List.foldl_cons, List.foldl_nil] at hx
    subst hdf
    clear hsz keep
    have kn : tm.getD 5 undef = .func (.func K) #[] #[p] := fin 0 _ _ rfl rfl
    rw [kn] at hx
    clear kn
    have kn : tm.getD 6 undef = .pointer (some ⟨g, 0, none⟩) := fin 1 _ _ rfl rfl
    rw [kn] at hx
    clear kn
    have kn : tm.getD 7 undef = .pointer (some ⟨g, 0, none⟩) := fin 2 _ _ rfl rfl
    rw [kn] at hx
    clear kn
    have kn : tm.getD 8 undef = .pointer (some ⟨g, 0, none⟩) := fin 3 _ _ rfl rfl
    rw [kn] at hx
    clear kn
    have kn : tm.getD 9 undef = .slice (some ⟨k, 0, none⟩) xs.length c := fin 4 _ _ rfl rfl
    rw [kn] at hx
    clear kn
    have kn : tm.getD 10 undef = .int .i64 (j : Int) := fin 5 _ _ rfl rfl
    rw [kn] at hx
    clear kn
    have kn : tm.getD 11 undef = .pointer (some ⟨k, j * 5, none⟩) := fin 6 _ _ rfl rfl
    rw [kn] at hx
    clear kn
    have kn : tm.getD 12 undef = .pointer (some ⟨k, j * 5, none⟩) := fin 7 _ _ rfl rfl
    rw [kn] at hx
    clear kn
    have kn : tm.getD 13 undef = .agg #[.int .i64 t, .string kk, .string vv] := fin 8 _ _ rfl rfl
    rw [kn] at hx
    clear kn
    have kn : tm.getD 14 undef = .bool b := fin 9 _ _ rfl rfl
    rw [kn] at hx
    clear kn
    have kn : tm.getD 4 undef = .bool b := fin 10 _ _ rfl rfl
    rw [kn] at hx
    clear kn
    clear fin
    simp only [List.setIfInBounds_toArray, List.set_cons_succ, List.set_cons_zero] at hx
    subst hx
    go_wp2
    go_ret
    exact ⟨rfl, hb⟩
set_option maxHeartbeats 4000000 in
/-- sort.Search: of a question that, once true, stays true, how many places say no. -/
theorem search_any {w : World} {K n : Nat} {u1 u2 : Value} {p : Nat → Bool} (hn : n ≤ 100000) (eg : ∀ args W, (callFunc K args).run Try.prog W = .ok (.enter K args) W)
    (hf : ∀ W, Below w.heap.size w W → ∀ j, j < n → Calls Try.prog K #[.int .i64 (j : Int), u1, u2] W fun e W' => e = .returned (.bool (p j)) ∧ Below W.heap.size W W')
    (hmono : ∀ a b, a ≤ b → b < n → p a = true → p b = true) :
    Calls Try.prog 33 #[.int .i64 (n : Int), .func (.func K) #[] #[u1, u2]] w fun e w' => (∃ m : Nat, e = .returned (.int .i64 (m : Int)) ∧ m ≤ n ∧ (∀ t, t < m → p t = false) ∧ (∀ t, m ≤ t → t < n → p t = true)) ∧ Below w.heap.size w w' := by
  have HF := hide hf
  have M := hide hmono
  clear hf hmono
  go_enter Try.func33, Try.ntmps33
  go_wp2
  go_loopg [5, 6] n (fun kx s5 s6 wr => ∃ (lo hi : Nat), s5 = .int .i64 lo ∧ s6 = .int .i64 hi ∧ lo ≤ hi ∧ hi ≤ n ∧ hi - lo ≤ kx ∧ Hid (Below w.heap.size w wr) ∧
    Hid ((∀ t, t < lo → p t = false) ∧ (∀ t, hi ≤ t → t < n → p t = true)))
  case atStart => exact ⟨0, n, rfl, rfl, Nat.zero_le _, Nat.le_refl _, by omega, hide (Below.refl _ _), hide ⟨fun t ht => absurd ht (Nat.not_lt_zero _), fun t h1 h2 => by omega⟩⟩
  case round =>
    obtain ⟨lo, hi, rfl, rfl, hlh, hin, hgk, hB, HI⟩ := hrel
    by_cases hlt : lo < hi
    · have hc := HF.out wr hB.out ((lo + hi) / 2) (by omega)
      rw [show (((lo + hi) / 2 : Nat) : Int) = ((lo : Int) + (hi : Int)) / 2 by omega] at hc
      cases hp : p ((lo + hi) / 2) <;> rw [hp] at hc
      · have HP := hide hp
        clear hp
        go_wp2_with (go_at_fn K; refine hc.mono ?_; rintro e w' ⟨rfl, hb⟩; have HB2 := hide (hB.out.trans (hb.mono hB.out.size)); clear hb)
        go_roundg (hi - ((lo + hi) / 2 + 1))
        case measure => omega
        case rel =>
          have I2 : Hid ((∀ t, t < (lo + hi) / 2 + 1 → p t = false) ∧ (∀ t, hi ≤ t → t < n → p t = true)) := hide ⟨fun t ht => (by
            cases h : p t with
            | false => rfl
            | true => have := M.out t ((lo + hi) / 2) (by omega) (by omega) h; rw [HP.out] at this; cases this), HI.out.2⟩
          exact ⟨(lo + hi) / 2 + 1, hi, by rw [show ((lo : Int) + (hi : Int)) / 2 + 1 = (((lo + hi) / 2 + 1 : Nat) : Int) by omega], rfl, by omega, hin, Nat.le_refl _, HB2, I2⟩
      · have HP := hide hp
        clear hp
        go_wp2_with (go_at_fn K; refine hc.mono ?_; rintro e w' ⟨rfl, hb⟩; have HB2 := hide (hB.out.trans (hb.mono hB.out.size)); clear hb)
        go_roundg ((lo + hi) / 2 - lo)
        case measure => omega
        case rel =>
          have I2 : Hid ((∀ t, t < lo → p t = false) ∧ (∀ t, (lo + hi) / 2 ≤ t → t < n → p t = true)) := hide ⟨HI.out.1, fun t h1 h2 => M.out ((lo + hi) / 2) t h1 h2 HP.out⟩
          exact ⟨lo, (lo + hi) / 2, rfl, by rw [show ((lo : Int) + (hi : Int)) / 2 = (((lo + hi) / 2 : Nat) : Int) by omega], by omega, by omega, Nat.le_refl _, HB2, I2⟩
    · obtain rfl : lo = hi := by omega
      clear hlt
      go_wp2
      go_ret
      exact ⟨⟨lo, rfl, hin, HI.out.1, HI.out.2⟩, hB.out⟩
/-- Len. -/
theorem len_any {w : World} {g : Nat} {r : Option Nat} {xs : List It} (h : Ix w g r xs) : Calls Try.prog 16 #[.pointer (some ⟨g, 0, none⟩)] w fun e w' => e = .returned (.int .i64 (xs.length : Int)) ∧ w = w' := by
  obtain ⟨v, hv, hit, _⟩ := h.v
  obtain ⟨A, c, rfl⟩ := hit.form
  have g0 := hv.cell 0 _ rfl
  clear h hv hit
  go_enter Try.func16, Try.ntmps16
  go_wp2
  go_ret
  exact ⟨rfl, rfl⟩
theorem len_nil (w : World) : Calls Try.prog 16 #[.pointer none] w fun e w' => e = .returned (.int .i64 0) ∧ w = w' := by
  go_enter Try.func16, Try.ntmps16
  go_wp2
  go_ret
  exact ⟨rfl, rfl⟩
/-- How many of a list come ahead of the first of which q holds. -/
def cnt (q : It → Bool) (xs : List It) : Nat := xs.countP (fun x => !q x)
theorem cnt_le (q : It → Bool) (xs : List It) : cnt q xs ≤ xs.length := List.countP_le_length
/-- Of a list of which q, once it holds, holds. -/
theorem cnt_is {q : It → Bool} : ∀ {xs : List It} {m : Nat}, m ≤ xs.length → (∀ t (h : t < xs.length), t < m → q xs[t] = false) → (∀ t (h : t < xs.length), m ≤ t → q xs[t] = true) → m = cnt q xs := by
  intro xs m hm h1 h2
  unfold cnt
  have e := List.take_append_drop m xs
  rw [← e, List.countP_append]
  have e1 : (xs.take m).countP (fun x => !q x) = (xs.take m).length := by
    rw [List.countP_eq_length]
    intro a ha
    obtain ⟨j, hj, rfl⟩ := List.getElem_of_mem ha
    rw [List.length_take] at hj
    rw [List.getElem_take, h1 j (by omega) (by omega)]
    rfl
  have e2 : (xs.drop m).countP (fun x => !q x) = 0 := by
    rw [List.countP_eq_zero]
    intro a ha
    obtain ⟨j, hj, rfl⟩ := List.getElem_of_mem ha
    rw [List.length_drop] at hj
    rw [List.getElem_drop, h2 (m + j) (by omega) (by omega)]
    decide
  rw [e1, e2, List.length_take]
  omega
/-- first. -/
theorem first_any {w : World} {g K : Nat} {r : Option Nat} {xs : List It} {p : Value} {q : It → Bool} (h : Ix w g r xs) (hq : Holds w K p xs q) (hm : xs.Pairwise fun a b => q a = true → q b = true) :
    Calls Try.prog 25 #[.pointer (some ⟨g, 0, none⟩), .func (.func K) #[] #[p]] w fun e w' => e = .returned (.int .i64 (cnt q xs : Nat)) ∧ Below w.heap.size w w' := by
  have hb2 : Below w.heap.size w ((w.alloc (.cells #[.pointer (some ⟨g, 0, none⟩)] 46)).alloc (.cells #[.func (.func K) #[] #[p]] 62)) := ((Below.refl _ w).alloc (Nat.le_refl _) _).alloc (by simp) _
  have X2 := h.below hb2
  have Q2 := hq.below hb2
  have B1 : Blk ((w.alloc (.cells #[.pointer (some ⟨g, 0, none⟩)] 46)).alloc (.cells #[.func (.func K) #[] #[p]] 62)) w.heap.size 46 #[.pointer (some ⟨g, 0, none⟩)] := Blk.alloc (heap_new w _) _
  have B2 : Blk ((w.alloc (.cells #[.pointer (some ⟨g, 0, none⟩)] 46)).alloc (.cells #[.func (.func K) #[] #[p]] 62)) (w.heap.size + 1) 62 #[.func (.func K) #[] #[p]] := heap_at _ _ (by simp)
  have eg : ∀ args W, (callFunc 34 args).run Try.prog W = .ok (.enter 34 args) W := fun args W => enters_of Try.func34 (by kernel_rfl) rfl args W
  have hs := search_any (w := ((w.alloc (.cells #[.pointer (some ⟨g, 0, none⟩)] 46)).alloc (.cells #[.func (.func K) #[] #[p]] 62))) (u1 := .pointer (some ⟨w.heap.size + 1, 0, none⟩)) (u2 := .pointer (some ⟨w.heap.size, 0, none⟩)) (p := fun j => if h : j < xs.length then q xs[j] else true) (n := xs.length) (by have := h.few; omega) eg
    (fun W hW j hj => by
      have := first1_any (B2.below hW) (B1.below hW) (X2.below hW) (Q2.below hW) hj
      rw [dif_pos hj]
      exact this)
    (fun a b hab hbn hpa => by
      rw [dif_pos (by omega)] at hpa
      rw [dif_pos hbn]
      rcases Nat.lt_or_ge a b with hlt | hge
      · exact List.pairwise_iff_getElem.1 hm a b (by omega) hbn hlt hpa
      · have : a = b := by omega
        subst this
        exact hpa)
  have hl := len_any X2
  have HS := hide hs
  have HL := hide hl
  have HB2 := hide hb2
  have HFEW := hide h.few
  clear hs hl hb2 B1 B2 eg h hq hm X2 Q2
  go_enter Try.func25, Try.ntmps25
  go_wp2_with (first
    | (go_at_call 16; refine HL.out.mono ?_; rintro e w2 ⟨rfl, rfl⟩)
    | (go_at_call 33; refine HS.out.mono ?_; rintro e w2 ⟨⟨m, rfl, hm, h1, h2⟩, hb⟩; have H1 := hide h1; have H2 := hide h2; have HM := hide hm; have HB := hide hb; clear h1 h2 hm hb))
  go_ret
  have e := cnt_is (q := q) HM.out (fun t ht hlt => by have := H1.out t hlt; rwa [dif_pos ht] at this) (fun t ht hle => by have := H2.out t hle ht; rwa [dif_pos ht] at this)
  exact ⟨by rw [e]; rfl, HB2.out.trans (HB.out.mono (by simp; omega))⟩
end Go.Proofs.Ytkcomkllnhdohaa
