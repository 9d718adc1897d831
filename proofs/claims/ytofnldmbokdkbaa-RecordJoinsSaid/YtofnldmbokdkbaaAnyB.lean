/-
  What RecordAny's walk leans on: a frame cut short, a frame with one byte changed.
-/
import Derived.Test.YtofnldmbokdkbaaHas
import Derived.Test.YtofnldmbokdkbaaLRight
namespace Go.Proofs.Ytofnldmbokdkbaa
open Go.RowKit

set_option linter.unusedSimpArgs false
set_option linter.unusedVariables false

theorem decB_yes {l : List UInt8} (h : decB l = true) : ∃ z : Rc, readR (l.take 395) = z ∧ z.Ok ∧ z.frame <+: l := by
  unfold decB at h
  rw [Bool.and_eq_true, decide_eq_true_eq] at h
  exact ⟨_, rfl, (Rc.right_iff _).1 h.1, h.2⟩
theorem decB_short {r : Rc} (hr : r.Ok) {k : Nat} (hk : k < r.frame.length) : decB (r.frame.take k) = false := by
  cases h : decB (r.frame.take k)
  · rfl
  · obtain ⟨z, _, hz, hp⟩ := decB_yes h
    have hp2 : z.frame <+: r.frame := hp.trans (List.take_prefix k r.frame)
    obtain ⟨l, hl⟩ := hp2
    have e := frame_inj hz hr (l := l) (m := []) (by rw [hl, List.append_nil])
    subst e
    have := hp.length_le
    rw [List.length_take] at this
    omega
theorem decode_told {v : Value} {l : List UInt8} {w : World} {k : Nat} (hm : l.length ≤ 70368744177664) (hv : Rd w v (u8s l)) {r : Rc} (hr : readR (l.take 395) = r) (ho : r.Ok) (hp : r.frame <+: l) (hk : r.frame.length = k) :
    Calls Try.prog 13 #[v] w fun e w' => ∃ A c, e = .returned (.tuple #[.agg #[.int .i64 (r.k : Int), .int .i64 (r.t : Int), .int .i64 (r.p : Int), .int .i64 (r.s : Int), .string r.b, .string r.a, .string r.i, .slice A r.ds.length c], .int .i64 (k : Int), .bool true]) ∧
      Rd w' (.slice A r.ds.length c) (u64s r.ds) ∧ Below w.heap.size w w' := by
  subst hk
  exact decode_yes hm hv hr ho hp
theorem frame_grow2 {r : Rc} {A : Option Addr} {c k : Nat} (w : World) (h : r.Ok) (hk : r.frame.length = k) (hv : Rd w (.slice A r.ds.length c) (u64s r.ds)) :
    Calls Try.prog 15 #[.agg #[.int .i64 (r.k : Int), .int .i64 (r.t : Int), .int .i64 (r.p : Int), .int .i64 (r.s : Int), .string r.b, .string r.a, .string r.i, .slice A r.ds.length c]] w fun e w' => ∃ v, e = .returned v ∧ (Say.rd k r.frame).p w' v ∧ Below w.heap.size w w' := by
  subst hk
  exact frame_grow w h hv
theorem lright_grow1 {r : Rc} {A : Option Addr} {c : Nat} (w : World) (h : r.Ok) :
    Calls Try.prog 18 #[.agg #[.int .i64 (r.k : Int), .int .i64 (r.t : Int), .int .i64 (r.p : Int), .int .i64 (r.s : Int), .string r.b, .string r.a, .string r.i, .slice A r.ds.length c]] w fun e w' => ∃ v, e = .returned v ∧ (Say.is (.bool true)).p w' v ∧ Below w.heap.size w w' := by
  refine (lright_any (r.k : Int) r.t r.p r.s r.b r.a r.i A r.ds.length c w).mono ?_
  rw [h.rightB]
  rintro e w' ⟨rfl, hb⟩
  exact ⟨_, rfl, rfl, hb⟩
theorem seed_r {r : Rc} (x : SeedD) (A : Option Addr) (n c : Nat) (w : World) (hn : x.ds.length = n) (hr : seedR x = r) (hv : Rd w (.slice A n c) (u64s x.ds)) :
    Calls Try.prog 11 #[.agg #[.int .i64 x.k, .int .i64 x.t, .int .i64 x.p, .int .i64 x.s, .int .u8 (x.b.toNat : Int), .int .u8 (x.a.toNat : Int), .int .u8 (x.i.toNat : Int), .slice A n c]] w fun e w' => ∃ (A : Option Addr) (c : Nat), e = .returned (.agg #[.int .i64 (r.k : Int), .int .i64 (r.t : Int), .int .i64 (r.p : Int), .int .i64 (r.s : Int), .string r.b, .string r.a, .string r.i, .slice A r.ds.length c]) ∧ Rd w' (.slice A r.ds.length c) (u64s r.ds) ∧ Below w.heap.size w w' := by
  subst hr
  refine (seed_any x A n c w hn hv).mono ?_
  rintro e w' ⟨A, c, rfl, h1, h2⟩
  exact ⟨A, c, rfl, h1.rd (Nat.le_refl _), h2⟩
/-- Encode, told with its length and its block. -/
theorem enc_n {r : Rc} {N : Nat} (A : Option Addr) (c : Nat) (w : World) (h : r.Ok) (hN : r.frame.length = N) (hv : Rd w (.slice A r.ds.length c) (u64s r.ds)) :
    Calls Try.prog 12 #[.agg #[.int .i64 (r.k : Int), .int .i64 (r.t : Int), .int .i64 (r.p : Int), .int .i64 (r.s : Int), .string r.b, .string r.a, .string r.i, .slice A r.ds.length c]] w fun e w' => ∃ g c, e = .returned (.slice (some ⟨g, 0, none⟩) N c) ∧ N ≤ c ∧ w.heap.size ≤ g ∧ Mine w' w.heap.size (.slice (some ⟨g, 0, none⟩) N c) r.frame ∧ Below w.heap.size w w' := by
  subst hN
  refine (enc_told r A c w h hv).mono ?_
  rintro e w' ⟨A', c', rfl, hm, hb⟩
  obtain ⟨g, rfl, h1, _, _, h2, _⟩ := mine_at hm (by rw [r.frame_length]; omega)
  exact ⟨g, c', rfl, h2, h1, hm, hb⟩
theorem any_index (z : Int) (N : Nat) (h : 0 < N) : ∃ ix : Nat, Int.tmod (bits .and .i64 z 1023) (N : Int) = (ix : Int) ∧ ix < N := by
  have h1 : bits .and .i64 z 1023 = IntKind.i64.wrap (((BitVec.ofInt 64 z &&& BitVec.ofInt 64 1023).toNat : Int)) := rfl
  have h2 : (BitVec.ofInt 64 z &&& BitVec.ofInt 64 1023).toNat < 1024 := by
    rw [BitVec.toNat_and]
    have : (BitVec.ofInt 64 1023).toNat = 1023 := by decide
    rw [this]
    exact Nat.lt_of_le_of_lt Nat.and_le_right (by omega)
  have h3 : 0 ≤ bits .and .i64 z 1023 := by
    rw [h1, IntKind.wrap_i64]
    omega
  have h4 := Int.tmod_nonneg (N : Int) h3
  have h5 := Int.tmod_lt_of_pos (bits .and .i64 z 1023) (show (0 : Int) < (N : Int) by omega)
  exact ⟨(Int.tmod (bits .and .i64 z 1023) (N : Int)).toNat, by omega, by omega⟩
/-- One byte of a row of one's own changed. -/
theorem mine_set {w : World} {base g n c ix : Nat} {l : List UInt8} {y : UInt8} (h : Mine w base (.slice (some ⟨g, 0, none⟩) n c) l) (hi : ix < l.length) :
    Mine (w.setCell ⟨g, ix, none⟩ (.int .u8 (y.toNat : Int))) base (.slice (some ⟨g, 0, none⟩) n c) (l.set ix y) ∧ (∃ u, w.cell? ⟨g, ix, none⟩ = some u) ∧ w.frozen? ⟨g, ix, none⟩ = false := by
  rcases id h.2 with ⟨e, _⟩ | ⟨g', cap, cur, e, hbg, hg, hnc, hcm, hcs, htake⟩
  · injection e with e1
    cases e1
  · injection e with e1 e2 e3
    injection e1 with e1
    injection e1 with e1
    subst e1
    have hB : Blk w g 5 cur := hg
    have hlt : ix < cur.size := by omega
    rw [Nat.mul_one] at htake
    refine ⟨⟨by rw [u8s_length, Nat.mul_one], .inr ⟨g, cap, cur.setIfInBounds ix (.int .u8 (y.toNat : Int)), ?_, hbg, hB.set_ ix _, by rw [List.length_set]; exact hnc, hcm, by rw [Array.size_setIfInBounds]; exact hcs, ?_⟩⟩, ⟨_, hB.cell ix _ (Array.getElem?_eq_getElem hlt)⟩, hB.frozen ix⟩
    · rw [List.length_set, e2, e3]
    · rw [Nat.mul_one, List.length_set, Array.toList_setIfInBounds, List.take_set, htake]
      simp [u8s, List.map_set]
theorem mine_lt {w : World} {base g n c : Nat} {l : List UInt8} (h : Mine w base (.slice (some ⟨g, 0, none⟩) n c) l) : g < w.heap.size := (World.ownsRow.lt h g rfl).2
theorem below_set1 {B g : Nat} {w0 w : World} (h : Below B w0 w) (hg : B ≤ g) (i : Nat) (u : Value) : Below B w0 (w.setCell ⟨g, i, none⟩ u) := h.setCell (p := ⟨g, i, none⟩) hg u
theorem take_prefix_eq {l m : List UInt8} {k : Nat} (h : m <+: l) (hk : m.length = k) : l.take k = m := by
  subst hk
  exact (List.prefix_iff_eq_take.1 h).symm
end Go.Proofs.Ytofnldmbokdkbaa
