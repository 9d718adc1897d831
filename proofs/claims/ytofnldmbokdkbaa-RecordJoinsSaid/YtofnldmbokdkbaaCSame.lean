/-
  Contracts: Equal of package slices, on numbers; Same of package record.
-/
import Derived.Test.YtofnldmbokdkbaaCSaid
import Derived.Test.YtofnldmbokdkbaaGrow
namespace Go.Proofs.Ytofnldmbokdkbaa
open Go.RowKit

set_option linter.unusedSimpArgs false
set_option linter.unusedVariables false

theorem rd_num {w : World} {A : Option Addr} {n c : Nat} {l : List Nat} (hv : Rd w (.slice A n c) (u64s l)) (j : Nat) (hj : j < l.length) : ∃ b o, A = some ⟨b, o, none⟩ ∧ w.cell? ⟨b, o + j, none⟩ = some (.int .u64 (l[j] : Int)) := by
  obtain ⟨A', c', e, hc, hr⟩ := hv
  injection e with e1 e2 e3
  subst e1
  obtain ⟨b, o, e, hb, hcell⟩ := hr (by rw [u64s_length]; omega)
  exact ⟨b, o, e, hcell j _ (u64s_get _ j hj)⟩
set_option maxHeartbeats 1000000 in
theorem eq64_told {A A' : Option Addr} {n n' c c' : Nat} {l m : List Nat} {b : Bool} {w : World} (hn : l.length = n) (hn' : m.length = n') (hl1000 : l.length ≤ 1000) (hv : Rd w (.slice A n c) (u64s l)) (hu : Rd w (.slice A' n' c') (u64s m)) (h : decide (l = m) = b) :
    Calls Try.prog 28 #[.slice A n c, .slice A' n' c'] w fun e w' => e = .returned (.bool b) ∧ Below w.heap.size w w' := by
  by_cases hle : n = n'
  · subst hle
    have e0 : ((n : Int) != (n : Int)) = false := by rw [bne_eq_false_iff_eq]
    have HV := hide hv
    have HU := hide hu
    have HB := hide h
    have hn1000 : n ≤ 1000 := by omega
    have HN := hide hn
    have HN' := hide hn'
    clear hv hu h hl1000
    go_enter Try.func28, Try.ntmps28
    go_wp2
    go_loopw [5, 13] (fun u i wr => ∃ j : Nat, j ≤ n ∧ i = .int .i64 j ∧ l.take j = m.take j ∧ Below w.heap.size w wr) (fun _ i _ => n - (intOf i).toNat)
    case atStart => exact ⟨0, by omega, rfl, rfl, Below.refl _ _⟩
    case round =>
      obtain ⟨j, hj, rfl, ht, hb⟩ := hrel
      by_cases hlt : j < n
      · have hl' : j < l.length := by omega
        have hm' : j < m.length := by omega
        obtain ⟨b1, o1, e1, hc1⟩ := rd_num (HV.out.below hb) j hl'
        obtain ⟨b2, o2, e2, hc2⟩ := rd_num (HU.out.below hb) j hm'
        subst e1 e2
        have HT := hide ht
        have hbd := hide hb.drew
        clear hb ht
        have E1 := hide (List.take_succ_eq_append_getElem hl')
        have E2 := hide (List.take_succ_eq_append_getElem hm')
        have E3 := hide (List.getElem?_eq_getElem hl')
        have E4 := hide (List.getElem?_eq_getElem hm')
        generalize l[j] = x at *
        generalize m[j] = y at *
        clear hl' hm' hn hn'
        by_cases hxy : x = y
        · subst hxy
          have e3 : ((x : Int) != (x : Int)) = false := by rw [bne_eq_false_iff_eq]
          go_wp2
          go_region
          go_wp2
          go_round
          case rel => exact ⟨j + 1, by omega, by go_num, by rw [E1.out, E2.out, HT.out], hbd.out⟩
          case measure => simp [intOf]; omega
        · have e3 : ((x : Int) != (y : Int)) = true := by rw [bne_iff_ne]; omega
          have hne : b = false := by
            rw [← HB.out, decide_eq_false_iff_not]
            intro e
            have e4 := E4.out
            rw [← e, E3.out] at e4
            exact hxy (Option.some.inj e4)
          subst hne
          go_wp2
          go_region
          go_wp2
          go_ret
          exact ⟨rfl, hbd.out⟩
      · obtain rfl : j = n := by omega
        have hbt : b = true := by
          rw [← HB.out, decide_eq_true_eq]
          rwa [List.take_of_length_le (by omega), List.take_of_length_le (by omega)] at ht
        subst hbt
        clear hn hn'
        go_wp2
        go_ret
        exact ⟨rfl, hb⟩
  · have e0 : ((n : Int) != (n' : Int)) = true := by rw [bne_iff_ne]; omega
    have hne : b = false := by
      rw [← h, decide_eq_false_iff_not]
      intro e
      rw [e] at hn
      omega
    subst hne
    clear h hv hu hn hn'
    go_enter Try.func28, Try.ntmps28
    go_wp2
    go_ret
    exact ⟨rfl, Below.refl _ _⟩
/-- Are they the same? -/
def sameB (r q : Rc) : Bool := ((r.k : Int) == (q.k : Int)) && ((r.t : Int) == (q.t : Int)) && ((r.p : Int) == (q.p : Int)) && ((r.s : Int) == (q.s : Int)) && (r.b.toList == q.b.toList) && (r.a.toList == q.a.toList) && (r.i.toList == q.i.toList) && decide (r.ds = q.ds)
theorem same_ways (r q : Rc) : (((r.k : Int) == (q.k : Int)) = false ∧ sameB r q = false) ∨
    (((r.k : Int) == (q.k : Int)) = true ∧ ((r.t : Int) == (q.t : Int)) = false ∧ sameB r q = false) ∨
    (((r.k : Int) == (q.k : Int)) = true ∧ ((r.t : Int) == (q.t : Int)) = true ∧ ((r.p : Int) == (q.p : Int)) = false ∧ sameB r q = false) ∨
    (((r.k : Int) == (q.k : Int)) = true ∧ ((r.t : Int) == (q.t : Int)) = true ∧ ((r.p : Int) == (q.p : Int)) = true ∧ ((r.s : Int) == (q.s : Int)) = false ∧ sameB r q = false) ∨
    (((r.k : Int) == (q.k : Int)) = true ∧ ((r.t : Int) == (q.t : Int)) = true ∧ ((r.p : Int) == (q.p : Int)) = true ∧ ((r.s : Int) == (q.s : Int)) = true ∧ (r.b.toList == q.b.toList) = false ∧ sameB r q = false) ∨
    (((r.k : Int) == (q.k : Int)) = true ∧ ((r.t : Int) == (q.t : Int)) = true ∧ ((r.p : Int) == (q.p : Int)) = true ∧ ((r.s : Int) == (q.s : Int)) = true ∧ (r.b.toList == q.b.toList) = true ∧ (r.a.toList == q.a.toList) = false ∧ sameB r q = false) ∨
    (((r.k : Int) == (q.k : Int)) = true ∧ ((r.t : Int) == (q.t : Int)) = true ∧ ((r.p : Int) == (q.p : Int)) = true ∧ ((r.s : Int) == (q.s : Int)) = true ∧ (r.b.toList == q.b.toList) = true ∧ (r.a.toList == q.a.toList) = true ∧ (r.i.toList == q.i.toList) = false ∧ sameB r q = false) ∨
    (((r.k : Int) == (q.k : Int)) = true ∧ ((r.t : Int) == (q.t : Int)) = true ∧ ((r.p : Int) == (q.p : Int)) = true ∧ ((r.s : Int) == (q.s : Int)) = true ∧ (r.b.toList == q.b.toList) = true ∧ (r.a.toList == q.a.toList) = true ∧ (r.i.toList == q.i.toList) = true ∧ decide (r.ds = q.ds) = sameB r q) := by
  unfold sameB
  cases ((r.k : Int) == (q.k : Int)) <;> simp only [Bool.true_and, Bool.false_and, Bool.and_true, Bool.and_false, true_and, false_and, or_false, false_or, true_or, or_true, reduceCtorEq, and_self, and_false, false_and]
  cases ((r.t : Int) == (q.t : Int)) <;> simp only [Bool.true_and, Bool.false_and, Bool.and_true, Bool.and_false, true_and, false_and, or_false, false_or, true_or, or_true, reduceCtorEq, and_self, and_false, false_and]
  cases ((r.p : Int) == (q.p : Int)) <;> simp only [Bool.true_and, Bool.false_and, Bool.and_true, Bool.and_false, true_and, false_and, or_false, false_or, true_or, or_true, reduceCtorEq, and_self, and_false, false_and]
  cases ((r.s : Int) == (q.s : Int)) <;> simp only [Bool.true_and, Bool.false_and, Bool.and_true, Bool.and_false, true_and, false_and, or_false, false_or, true_or, or_true, reduceCtorEq, and_self, and_false, false_and]
  cases (r.b.toList == q.b.toList) <;> simp only [Bool.true_and, Bool.false_and, Bool.and_true, Bool.and_false, true_and, false_and, or_false, false_or, true_or, or_true, reduceCtorEq, and_self, and_false, false_and]
  cases (r.a.toList == q.a.toList) <;> simp only [Bool.true_and, Bool.false_and, Bool.and_true, Bool.and_false, true_and, false_and, or_false, false_or, true_or, or_true, reduceCtorEq, and_self, and_false, false_and]
  cases (r.i.toList == q.i.toList) <;> simp only [Bool.true_and, Bool.false_and, Bool.and_true, Bool.and_false, true_and, false_and, or_false, false_or, true_or, or_true, reduceCtorEq, and_self, and_false, false_and]
theorem toList_inj {x y : ByteArray} (h : x.toList = y.toList) : x = y := by
  rw [ByteArray.toList_eq, ByteArray.toList_eq] at h
  exact ByteArray.ext (Array.toList_inj.1 h)
theorem sameB_iff (r q : Rc) : sameB r q = true ↔ r = q := by
  obtain ⟨k, t, p, s, b, a, i, ds⟩ := r
  obtain ⟨k', t', p', s', b', a', i', ds'⟩ := q
  unfold sameB
  simp only [Bool.and_eq_true, beq_iff_eq, decide_eq_true_eq, Rc.mk.injEq]
  constructor
  · rintro ⟨⟨⟨⟨⟨⟨⟨h1, h2⟩, h3⟩, h4⟩, h5⟩, h6⟩, h7⟩, h8⟩
    exact ⟨by omega, by omega, by omega, by omega, toList_inj h5, toList_inj h6, toList_inj h7, h8⟩
  · rintro ⟨rfl, rfl, rfl, rfl, rfl, rfl, rfl, rfl⟩
    exact ⟨⟨⟨⟨⟨⟨⟨rfl, rfl⟩, rfl⟩, rfl⟩, rfl⟩, rfl⟩, rfl⟩, rfl⟩
set_option maxHeartbeats 2000000 in
theorem same_any (r q : Rc) (A A' : Option Addr) (c c' : Nat) (w : World) (hd : r.ds.length ≤ 1000) (hv : Rd w (.slice A r.ds.length c) (u64s r.ds)) (hu : Rd w (.slice A' q.ds.length c') (u64s q.ds)) :
    Calls Try.prog 16 #[.agg #[.int .i64 (r.k : Int), .int .i64 (r.t : Int), .int .i64 (r.p : Int), .int .i64 (r.s : Int), .string r.b, .string r.a, .string r.i, .slice A r.ds.length c], .agg #[.int .i64 (q.k : Int), .int .i64 (q.t : Int), .int .i64 (q.p : Int), .int .i64 (q.s : Int), .string q.b, .string q.a, .string q.i, .slice A' q.ds.length c']] w fun e w' => e = .returned (.bool (sameB r q)) ∧ Below w.heap.size w w' := by
  have hb1 := (Below.refl w.heap.size w).alloc (Nat.le_refl _) (.cells #[.int .i64 (r.k : Int), .int .i64 (r.t : Int), .int .i64 (r.p : Int), .int .i64 (r.s : Int), .string r.b, .string r.a, .string r.i, .slice A r.ds.length c] 28)
  have HB := hide (hb1.alloc hb1.size (.cells #[.int .i64 (q.k : Int), .int .i64 (q.t : Int), .int .i64 (q.p : Int), .int .i64 (q.s : Int), .string q.b, .string q.a, .string q.i, .slice A' q.ds.length c'] 28))
  have HV := hide ((hv.alloc (.cells #[.int .i64 (r.k : Int), .int .i64 (r.t : Int), .int .i64 (r.p : Int), .int .i64 (r.s : Int), .string r.b, .string r.a, .string r.i, .slice A r.ds.length c] 28)).alloc (.cells #[.int .i64 (q.k : Int), .int .i64 (q.t : Int), .int .i64 (q.p : Int), .int .i64 (q.s : Int), .string q.b, .string q.a, .string q.i, .slice A' q.ds.length c'] 28))
  have HU := hide ((hu.alloc (.cells #[.int .i64 (r.k : Int), .int .i64 (r.t : Int), .int .i64 (r.p : Int), .int .i64 (r.s : Int), .string r.b, .string r.a, .string r.i, .slice A r.ds.length c] 28)).alloc (.cells #[.int .i64 (q.k : Int), .int .i64 (q.t : Int), .int .i64 (q.p : Int), .int .i64 (q.s : Int), .string q.b, .string q.a, .string q.i, .slice A' q.ds.length c'] 28))
  clear hb1 hv hu
  rcases same_ways r q with ⟨hk, hr⟩ | ⟨hk, ht, hr⟩ | ⟨hk, ht, hp, hr⟩ | ⟨hk, ht, hp, hs, hr⟩ | ⟨hk, ht, hp, hs, hb, hr⟩ | ⟨hk, ht, hp, hs, hb, ha, hr⟩ | ⟨hk, ht, hp, hs, hb, ha, hi, hr⟩ | ⟨hk, ht, hp, hs, hb, ha, hi, hr⟩
  all_goals
    have HR := hide hr
    clear hr
    go_enter Try.func16, Try.ntmps16
    go_wp2_with (go_at_call 28; ((with_reducible refine (eq64_told rfl rfl hd HV.out HU.out HR.out).mono ?_); rintro e w1 ⟨rfl, hb1⟩))
    go_ret
    first
      | exact ⟨rfl, HB.out.trans (hb1.mono HB.out.size)⟩
      | exact ⟨by rw [HR.out]; rfl, HB.out⟩
end Go.Proofs.Ytofnldmbokdkbaa
