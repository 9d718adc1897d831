/-
  Contracts: a reader's Take, Num and Text.
-/
import Derived.Test.YtofnldmbokdkbaaReader
import Derived.Laws.BytesArg
import Derived.Laws.IdiomStrings
namespace Go.Proofs.Ytofnldmbokdkbaa
open Go.RowKit

/-- 'string(b)'. -/
theorem conv_rd {w : World} {A : Option Addr} {c : Nat} {l : List UInt8} (h : Rd w (.slice A l.length c) (u8s l)) : (convert 25 9 (.slice A l.length c)).run Try.prog w = .ok (.string ⟨l.toArray⟩) w := by
  rcases A with _ | a
  · obtain ⟨A, c', he, hc, hA⟩ := h
    injection he with e1 e2 e3
    subst e1
    rcases Nat.eq_zero_or_pos l.length with h0 | hpos
    · obtain rfl := List.eq_nil_of_length_eq_zero h0
      exact run_convert_bytes_nil w 25 5 Try.underlying25 Try.underlying5 0 c 9 Try.underlying9
    · obtain ⟨_, _, h, _⟩ := hA (by rw [u8s_length]; exact hpos)
      cases h
  · refine run_convert_bytes_back w 25 9 5 a c l Try.underlying25 Try.underlying5 Try.underlying9 fun j hj => ?_
    obtain ⟨A, c', he, hc, hA⟩ := h
    injection he with e1 e2 e3
    subst e1
    obtain ⟨b, o, e, hb, hcell⟩ := hA (by rw [u8s_length]; omega)
    injection e with e
    subst e
    rw [addr_add]
    exact hcell j _ (u8s_get l j hj)
theorem Mine.setCell {w : World} {base : Nat} {v : Value} {l : List UInt8} (h : Mine w base v l) {p : Addr} (hp : p.block < base) (u : Value) : Mine (w.setCell p u) base v l := by
  refine World.ownsRow.kept (row := some p.block) h ⟨rfl, rfl, rfl, by simp [World.setCell], fun k hk hne => Below.heap_setCell _ _ _ _ (fun e => hne (by rw [e]))⟩ ?_
  cases hv : v.ownBlock with
  | none => exact .inl rfl
  | some k => refine .inr fun e => ?_; injection e with e; have := (World.ownsRow.lt h k hv).1; omega

theorem take_fails {w : World} {lo g : Nat} {s : St} {n : Int} (h : Rdr w lo g s) (hcan : s.can n = false) :
    Calls Try.prog 33 #[ptr g, .int .i64 n] w fun e w' => e = .returned (.slice none 0 0) ∧ Rdr w' lo g s.failed ∧ w.grownBy w' (some g) := by
  unfold St.can at hcan
  cases hb : s.bad
  · by_cases h0 : n < 0
    · go_enter Try.func33, Try.ntmps33
      go_wp2_with (first
        | (go_at_call 37; refine (bad_any h).mono ?_; rw [hb]; rintro e w1 ⟨rfl, rfl⟩)
        | (go_at_call 39; refine (fail_any h).mono ?_; rintro e w1 ⟨rfl, hr, hg⟩))
      go_ret
      exact ⟨rfl, hr, hg⟩
    · have h1 : (s.rest.length : Int) < n := by
        rw [hb] at hcan
        simp at hcan
        omega
      go_enter Try.func33, Try.ntmps33
      go_wp2_with (first
        | (go_at_call 37; refine (bad_any h).mono ?_; rw [hb]; rintro e w1 ⟨rfl, rfl⟩)
        | (go_at_call 38; refine (rest_any h).mono ?_; rintro e w1 ⟨rfl, rfl⟩)
        | (go_at_call 39; refine (fail_any h).mono ?_; rintro e w1 ⟨rfl, hr, hg⟩))
      go_ret
      exact ⟨rfl, hr, hg⟩
  · go_enter Try.func33, Try.ntmps33
    go_wp2_with (first
      | (go_at_call 37; refine (bad_any h).mono ?_; rw [hb]; rintro e w1 ⟨rfl, rfl⟩)
      | (go_at_call 39; refine (fail_any h).mono ?_; rintro e w1 ⟨rfl, hr, hg⟩))
    go_ret
    exact ⟨rfl, hr, hg⟩
theorem take_takes {w : World} {lo g k : Nat} {s : St} (h : Rdr w lo g s) (hm : s.rest.length ≤ 70368744177664) (hb : s.bad = false) (hk : k ≤ s.rest.length) :
    Calls Try.prog 33 #[ptr g, .int .i64 (k : Int)] w fun e w' => ∃ v', e = .returned v' ∧ Mine w' w.heap.size v' (s.rest.take k) ∧ Rdr w' lo g ⟨s.rest.drop k, false⟩ ∧ w.grownBy w' (some g) := by
  have hg := h.lt
  obtain ⟨hlo, A, c, hblk, hrow, hown⟩ := id h
  have hc0 := hblk.cell 0 _ rfl
  have hlow := fun W => run_low (P := Try.prog) slice8 size8 A s.rest.length c k (by obtain ⟨_, _, he, hc, _⟩ := hrow; injection he with _ e2 e3; rw [u8s_length] at hc; omega) W
  have hhigh := fun W => run_high (P := Try.prog) slice8 size8 A s.rest.length c k hk W
  have hrd : Rd w (.slice A k c) (u8s (s.rest.take k)) := by rw [u8s_take]; exact (Row.low hrow hk).more (by omega)
  have HR := hide hrow
  have HB := hide hblk
  clear hrow
  unfold ptr
  go_enter Try.func33, Try.ntmps33
  go_wp2_with (first
    | (go_at_call 37; refine (bad_any h).mono ?_; rw [hb]; rintro e w1 ⟨rfl, rfl⟩)
    | (go_at_call 38; refine (rest_any h).mono ?_; rintro e w1 ⟨rfl, rfl⟩)
    | (go_at_call 32; refine (clone_any _ (s.rest.take k) _ (by rw [List.length_take]; omega) hrd).mono ?_; rintro e w1 ⟨v1, rfl, hmine, hb1⟩; have hc1 := (hb1.cell (p := ⟨g, 0, none⟩) hg).trans hc0; have hf1 := (hb1.frozen (p := ⟨g, 0, none⟩) hg).trans (HB.out.frozen 0)))
  go_ret
  refine ⟨v1, rfl, hmine.setCell hg _, ?_, ⟨hb1.os, hb1.tape, hb1.output, ?_, fun j hj hne => ?_⟩⟩
  · have hl : (s.rest.drop k).length = s.rest.length - k := List.length_drop ..
    refine ⟨hlo, hiA A c k, c - k, ?_, ?_, ?_⟩
    · have := (Blk.below HB.out hb1).set_ 0 (.slice (hiA A c k) (s.rest.length - k) (c - k))
      rw [hb] at this
      show Blk _ g _ #[.slice _ (s.rest.drop k).length _, .bool false]
      rw [hl]
      exact this
    · have := Row.setCell (p := ⟨g, 0, none⟩) ((Row.high HR.out hk).below (hb1.mono (Nat.le_of_lt hg))) (Nat.le_refl _) (.slice (hiA A c k) (s.rest.length - k) (c - k))
      rw [← u8s_drop] at this
      show Row _ g (.slice _ (s.rest.drop k).length _) (u8s (s.rest.drop k))
      rw [hl]
      exact this
    · intro j hj
      refine hown j ?_
      unfold hiA at hj
      rcases A with _ | a
      · split at hj <;> cases hj
      · split at hj
        · exact hj
        · rw [← hj]
          show some a.block = some (a.add k).block
          unfold Addr.add
          split <;> rfl
  · have := hb1.size
    simpa [World.setCell] using this
  · exact (Below.heap_setCell _ _ _ _ (fun e => hne (by subst e; rfl))).trans (hb1.block j hj)

theorem take_any {w : World} {lo g : Nat} {s : St} (n : Int) (h : Rdr w lo g s) (hm : s.rest.length ≤ 70368744177664) :
    Calls Try.prog 33 #[ptr g, .int .i64 n] w fun e w' => ∃ v', e = .returned v' ∧ Mine w' w.heap.size v' (s.got n) ∧ Rdr w' lo g (s.take n) ∧ w.grownBy w' (some g) := by
  unfold St.got St.take
  cases hcan : s.can n
  · refine (take_fails h hcan).mono ?_
    rintro e w' ⟨rfl, hr, hg⟩
    exact ⟨_, rfl, own_nil _ _ _, hr, hg⟩
  · unfold St.can at hcan
    simp at hcan
    obtain ⟨⟨hb, h0⟩, h1⟩ := hcan
    obtain ⟨k, rfl⟩ : ∃ k : Nat, n = (k : Int) := ⟨n.toNat, by omega⟩
    exact take_takes h hm hb (by omega)
theorem take_nil (n : Int) (w : World) : Calls Try.prog 33 #[.pointer none, .int .i64 n] w fun e w' => e = .returned (.slice none 0 0) ∧ w = w' := by
  go_enter Try.func33, Try.ntmps33
  go_wp2_with (first
    | (go_at_call 37; refine (bad_nil _).mono ?_; rintro e w1 ⟨rfl, rfl⟩)
    | (go_at_call 39; refine (fail_nil _).mono ?_; rintro e w1 ⟨rfl, rfl⟩))
  go_ret
  exact ⟨rfl, rfl⟩
/-- As a walk takes it: a slice, its length told, and what 'string' makes of it. -/
theorem take_told {w : World} {lo g : Nat} {s : St} (n : Int) (h : Rdr w lo g s) (hm : s.rest.length ≤ 70368744177664) :
    Calls Try.prog 33 #[ptr g, .int .i64 n] w fun e w' => ∃ A c, e = .returned (.slice A (s.got n).length c) ∧ Rd w' (.slice A (s.got n).length c) (u8s (s.got n)) ∧ Rdr w' lo g (s.take n) ∧ w.grownBy w' (some g) ∧
      (convert 25 9 (.slice A (s.got n).length c)).run Try.prog w' = .ok (.string ⟨(s.got n).toArray⟩) w' := by
  refine (take_any n h hm).mono ?_
  rintro e w' ⟨v', rfl, hmine, hr, hg⟩
  obtain ⟨A, c, rfl⟩ := hmine.form
  exact ⟨A, c, rfl, hmine.rd, hr, hg, conv_rd hmine.rd⟩
end Go.Proofs.Ytofnldmbokdkbaa
