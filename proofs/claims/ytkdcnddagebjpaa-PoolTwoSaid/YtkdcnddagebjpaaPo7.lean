/-
  Contracts of package pool: Put, Get.
-/
import Derived.Test.YtkdcnddagebjpaaPo6
namespace Go.Proofs.Ytkdcnddagebjpaa
open Go.RowKit
set_option maxRecDepth 20000
set_option linter.unusedSimpArgs false
set_option linter.unusedVariables false

section
variable {w w' : World} {X Y : Nat → Prop} {dg : Nat} {d : Ds} {g : Nat} {l l1 : Ln} {kv : Value} {q : Nat} {P : Po} {gr : Rg} {k : Nat}
theorem Po.find_b (h : PAt w X dg d g l kv q P) {n z : Nat} (hf : P.find n = some z) : z < 3 ∧ ∃ b, (P.f z).pb = some b ∧ (P.f z).num = n := by
  obtain ⟨h1, _, h2⟩ := Po.find_some hf
  exact ⟨h1, hasB_iff h2⟩
theorem get_bad (w : World) (q : Nat) (n : Int) (hn : n < 0 ∨ (0 ≤ n ∧ 6 ≤ n)) : Calls Try.prog 12 #[.pointer (some ⟨q, 0, none⟩), .int .i64 n] w fun e w' => e = .returned (.tuple #[.pointer none, .int .i64 1]) ∧ w = w' := by
  have hin := isnum_no w n hn
  clear hn
  go_enter Try.func12, Try.ntmps12
  go_wp2_with (go_at_call 31; refine hin.mono ?_; rintro e w2 ⟨rfl, rfl⟩)
  go_ret2
  exact ⟨rfl, rfl⟩
def Fm.asked (x : Fm) : Fm := ⟨x.pb, x.num, true, x.dirty, x.since, x.pg⟩
theorem get_found (h : PAt w X dg d g l kv q P) {n z b : Nat} (hn : n < 6) (hf : P.find n = some z) (hb : (P.f z).pb = some b) :
    Calls Try.prog 12 #[.pointer (some ⟨q, 0, none⟩), .int .i64 (n : Int)] w fun e w' => e = .returned (.tuple #[.pointer (some ⟨b, 0, none⟩), .int .i64 0]) ∧ PAt w' X dg d g l kv q (P.set z (P.f z).asked) ∧ Kept (fun k => k = q) w w' := by
  have hin := isnum_yes w n hn
  have hfi := find_po h n
  obtain ⟨hz, _, _⟩ := Po.find_some hf
  rw [hf] at hfi
  unfold fv at hfi
  obtain ⟨f0, f1, f2, f3, f4⟩ := h.cell hz
  have fz := h.frozen
  rw [hb] at f0
  unfold pv at f0
  have H0 := hide h
  clear h hb hf hn f1 f3 f4
  go_enter Try.func12, Try.ntmps12
  go_wp2_with (first
    | (go_at_call 31; refine hin.mono ?_; rintro e w2 ⟨rfl, rfl⟩)
    | (go_at_call 32; refine hfi.mono ?_; rintro e w2 ⟨rfl, rfl⟩))
  go_ret2
  exact ⟨rfl, H0.out.cellF hz (c := 2) (v := .bool true) (by omega) (x := (P.f z).asked) rfl rfl rfl, kept_cell _ _ _ _⟩
/-- What Get answers of a page that isn't at hand. -/
def MissRet (w : World) (X : Nat → Prop) (dg g : Nat) (l' : Ln) (q : Nat) (P' : Po) (z n r : Nat) (S : List Sec) (N : Ds → Prop) (e : Ending) (w' : World) : Prop :=
  (∃ x : Pg, DecP (pgB S n 4) r n x 0 ∧ PutRet w X dg g l' q P' z n x N e w') ∨
  (e = .returned (.tuple #[.pointer none, .int .i64 11]) ∧ (∀ p : Pg, p.good → p.ten = r → p.num = n → p.encL ≠ pgB S n 4) ∧ Below w.heap.size w w')
set_option maxHeartbeats 4000000 in
theorem get_miss (h : PAt w X dg d g l kv q P) (hd : DIs d P.r gr k) (hsz : 538 ≤ d.size) {n z : Nat} {l' : Ln} {P' : Po} {N : Ds → Prop} (hz : z < 3) (hn : n < 6) (hnf : P.find n = none) (hpz : (P'.f z).pb = none)
    (ho : ∀ w1 Y, PAt w1 Y dg d g l kv q P → Calls Try.prog 50 #[.pointer (some ⟨q, 0, none⟩)] w1 fun e w' => e = .returned (.tuple #[.pointer (some ⟨q, 3 + z * 5, none⟩), .int .i64 0]) ∧ ∃ d' kv', N d' ∧ PAt w' Y dg d' g l' kv' q P' ∧ Out Y w1 w') :
    Calls Try.prog 12 #[.pointer (some ⟨q, 0, none⟩), .int .i64 (n : Int)] w (MissRet w X dg g l' q P' z n P.r gr.secs N) := by
  have hin := isnum_yes w n hn
  have hfi := find_po h n
  rw [hnf] at hfi
  unfold fv at hfi
  have hrd := read_po h hd hsz n hn
  have H0 := hide h
  have HNF := hide hnf
  have HPZ := hide hpz
  have HO := hide ho
  clear h hnf hpz ho hd
  go_enter Try.func12, Try.ntmps12
  go_upto_region 8 with (first
    | (go_at_call 31; refine hin.mono ?_; rintro e w2 ⟨rfl, rfl⟩)
    | (go_at_call 32; refine hfi.mono ?_; rintro e w2 ⟨rfl, rfl⟩)
    | (go_at_call 33; refine hrd.mono ?_; rintro e w3 ⟨x, e', rfl, hx, hb3⟩; have B3 := hide hb3; have HX := hide hx; unfold Pg.val Pg.cells; clear hb3 hx hrd))
  clear hin hfi
  have hba := (Below.refl w3.heap.size w3).alloc (Nat.le_refl _) (.cells x.cells 53)
  have BA := hide (B3.out.trans (hba.mono B3.out.size))
  have hpb := pgb_new w3 x
  obtain ⟨s0, s1, s2, s3, s4⟩ := hpb.slots
  have m0 := hpb.markC
  have m1 := hpb.tenC
  have m2 := hpb.numC
  unfold Pg.cells at m0 m1 m2 s0 s1 s2 s3 s4
  clear hba hpb
  rcases HX.out with ⟨rfl, hx1, hx2, hx3, hx4⟩ | ⟨rfl, rfl, hx2⟩
  · have hput := put_obt (H0.out.below BA.out) hz hn hx3 HNF.out HPZ.out HO.out
    unfold Pg.val Pg.cells at hput
    have EX := hide hx3
    clear hx1 hx2 hx3 hx4
    go_wp2_with (go_at_call 20; refine hput.mono ?_; rintro e w4 ⟨b, rfl, hb4, d4, kv4, hN4, hpa4, ho4⟩; have N4 := hide hN4; have H4 := hide hpa4; have O4 := hide ho4; have B4 := hide hb4; clear hN4 hpa4 ho4 hb4 hput)
    go_ret2
    exact .inl ⟨x, HX.out, b, rfl, Nat.le_trans BA.out.size B4.out, d4, kv4, N4.out, H4.out, (Out.of_below BA.out).trans O4.out⟩
  · have HN := hide hx2
    clear hx2
    go_wp2
    go_ret2
    exact .inr ⟨rfl, HN.out, BA.out⟩
end
end Go.Proofs.Ytkdcnddagebjpaa
