/-
  Contracts of package pool: New, Put.
-/
import Derived.Test.YtkdcnddagebjpaaPo5
namespace Go.Proofs.Ytkdcnddagebjpaa
open Go.RowKit
set_option maxRecDepth 20000
set_option linter.unusedSimpArgs false
set_option linter.unusedVariables false

section
variable {w w' : World} {X Y : Nat → Prop} {dg : Nat} {d : Ds} {g : Nat} {l l1 : Ln} {kv : Value} {q : Nat} {P : Po} {gr : Rg} {k : Nat}
def Po.new (r : Nat) : Po := ⟨r, fun _ => fZ, 0⟩
theorem pool_new (h : LnAt w X dg d g l kv) (r : Nat) : Calls Try.prog 11 #[.pointer (some ⟨dg, 0, none⟩), .int .i64 (r : Int), .pointer (some ⟨g, 0, none⟩)] w fun e w' => ∃ q, e = .returned (.pointer (some ⟨q, 0, none⟩)) ∧ PAt w' X dg d g l kv q (Po.new r) ∧ Below w.heap.size w w' := by
  have H0 := hide h
  clear h
  go_enter Try.func11, Try.ntmps11
  go_wp2
  go_ret
  have hb : Below w.heap.size w (w.alloc (.cells ((Po.new r).cells dg g) 92)) := (Below.refl _ w).alloc (Nat.le_refl _) _
  refine ⟨w.heap.size, rfl, ?_, hb⟩
  have hnx : ¬ X w.heap.size := fun hx => by
    have := H0.out.many.1 _ (.inl hx)
    omega
  refine ⟨(H0.out.more hb ?_), hnx, Blk.new_ w _ _ rfl, ?_, ?_⟩
  · rintro k (hk | rfl | ⟨i, hi, e⟩)
    · exact .inl hk
    · exact .inr ⟨Nat.le_refl _, by simp⟩
    · cases e
  · intro i b hi e
    cases e
  · intro i j b hi hj e
    cases e
/-- A page as a frame's own. -/
def Fm.with_ (x : Fm) (b n : Nat) (p : Pg) : Fm := ⟨some b, n, true, x.dirty, x.since, p⟩
/-- A new page's block, given to a frame that had none. -/
theorem put_given (h : PAt w X dg d g l kv q P) {z : Nat} (hz : z < 3) (n : Nat) :
    PAt (((w.alloc (.cells pZ.cells 53)).setCell ⟨q, 3 + z * 5, none⟩ (.pointer (some ⟨w.heap.size, 0, none⟩))).setCell ⟨q, 3 + z * 5 + 1, none⟩ (.int .i64 (n : Int))) X dg d g l kv q (P.set z ⟨some w.heap.size, n, (P.f z).req, (P.f z).dirty, (P.f z).since, pZ⟩) := by
  have hb := (Below.refl w.heap.size w).alloc (Nat.le_refl _) (.cells pZ.cells 53)
  have hql := h.blk.lt
  have hne : w.heap.size ≠ q := by omega
  refine h.given (b := w.heap.size) hz hb (Nat.le_refl _) (by simp) ((kept_cell _ q _ _).trans_same (kept_cell _ q _ _)) rfl ?_ ?_
  · exact PgB.far (PgB.far (pgb_new w pZ) hne _) hne _
  · have hbl := ((h.blk.alloc (.cells pZ.cells 53)).set_ (3 + z * 5 + 0) (.pointer (some ⟨w.heap.size, 0, none⟩))).set_ (3 + z * 5 + 1) (.int .i64 (n : Int))
    rw [P.put_cell dg g hz (c := 0) (v := .pointer (some ⟨w.heap.size, 0, none⟩)) (by omega) (x := ⟨some w.heap.size, (P.f z).num, (P.f z).req, (P.f z).dirty, (P.f z).since, pZ⟩) rfl,
      Po.put_cell _ dg g hz (c := 1) (v := .int .i64 (n : Int)) (by omega) (x := ⟨some w.heap.size, n, (P.f z).req, (P.f z).dirty, (P.f z).since, pZ⟩) (by rw [Po.set_same]; rfl)] at hbl
    simp only [Po.set_set] at hbl
    exact hbl
theorem put_outQ (h : PAt w X dg d g l kv q P) {z : Nat} (hz : z < 3) (n : Nat) :
    Out X (w.alloc (.cells pZ.cells 53)) (((w.alloc (.cells pZ.cells 53)).setCell ⟨q, 3 + z * 5, none⟩ (.pointer (some ⟨w.heap.size, 0, none⟩))).setCell ⟨q, 3 + z * 5 + 1, none⟩ (.int .i64 (n : Int))) :=
  ((kept_cell _ q _ _).trans_same (kept_cell _ q _ _)).mono (fun k e => .inl (by rw [e]; exact h.xq))
/-- What Put answers where a page is laid in a frame that had none. -/
def PutRet (w : World) (X : Nat → Prop) (dg g : Nat) (l' : Ln) (q : Nat) (P' : Po) (z n : Nat) (p : Pg) (N : Ds → Prop) (e : Ending) (w' : World) : Prop :=
  ∃ b, e = .returned (.tuple #[.pointer (some ⟨b, 0, none⟩), .int .i64 0]) ∧ w.heap.size ≤ b ∧ ∃ d' kv', N d' ∧ PAt w' X dg d' g l' kv' q (P'.set z ((P'.f z).with_ b n p)) ∧ Out X w w'
theorem set8_kept (w : World) (g : Nat) (p : Pg) : Kept (fun k => k = g) w (Go.Proofs.Ytkdcnddagebjpaa.set8 w g p) :=
  (((((((kept_cell w g _ _).trans_same (kept_cell _ g _ _)).trans_same (kept_cell _ g _ _)).trans_same (kept_cell _ g _ _)).trans_same (kept_cell _ g _ _)).trans_same (kept_cell _ g _ _)).trans_same (kept_cell _ g _ _)).trans_same (kept_cell _ g _ _)
/-- A frame's page laid over. -/
theorem page8 (h : PAt w X dg d g l kv q P) {z b : Nat} (hz : z < 3) (e : (P.f z).pb = some b) (p : Pg) : PAt (Go.Proofs.Ytkdcnddagebjpaa.set8 w b p) X dg d g l kv q (P.set z ⟨(P.f z).pb, (P.f z).num, (P.f z).req, (P.f z).dirty, (P.f z).since, p⟩) :=
  h.paged hz e (set8_kept _ _ _) rfl rfl (PgB.set8 (h.pg z b hz e).1 p)
theorem page8_out (h : PAt w X dg d g l kv q P) {z b : Nat} (hz : z < 3) (e : (P.f z).pb = some b) (p : Pg) : Out X w (Go.Proofs.Ytkdcnddagebjpaa.set8 w b p) :=
  (set8_kept w b p).mono (fun k ek => .inl (by rw [ek]; exact (h.pg z b hz e).2.1))
set_option maxHeartbeats 4000000 in
theorem put_obt (h : PAt w X dg d g l kv q P) {n z : Nat} {p : Pg} {l' : Ln} {P' : Po} {N : Ds → Prop} (hz : z < 3) (hn : n < 6) (hp : p.num = n) (hnf : P.find n = none) (hpz : (P'.f z).pb = none)
    (ho : ∀ w1 Y, PAt w1 Y dg d g l kv q P → Calls Try.prog 50 #[.pointer (some ⟨q, 0, none⟩)] w1 fun e w' => e = .returned (.tuple #[.pointer (some ⟨q, 3 + z * 5, none⟩), .int .i64 0]) ∧ ∃ d' kv', N d' ∧ PAt w' Y dg d' g l' kv' q P' ∧ Out Y w1 w') :
    Calls Try.prog 20 #[.pointer (some ⟨q, 0, none⟩), p.val] w (PutRet w X dg g l' q P' z n p N) := by
  subst hp
  have hb1 : Below w.heap.size w (w.alloc (.cells p.cells 53)) := (Below.refl _ w).alloc (Nat.le_refl _) _
  have HB1 := hide hb1
  have hql := h.blk.lt
  have H1 := hide (h.more (Y := fun k => X k ∨ k = w.heap.size) hb1 (by rintro k (h1 | rfl); exact .inl h1; exact .inr ⟨Nat.le_refl _, by simp⟩))
  have hPG := pgb_new w p
  have m2 := hPG.numC
  have HPG := hide hPG
  have hin := isnum_yes (w.alloc (.cells p.cells 53)) p.num hn
  have hfi := find_po H1.out p.num
  rw [hnf] at hfi
  have hob := ho _ _ H1.out
  have hn6 : (p.num : Int) < 6 := by omega
  clear h hb1 hPG ho
  unfold Pg.val
  unfold Pg.cells at m2 hin hfi hob
  unfold Pg.cells
  unfold fv at hfi
  go_enter Try.func20, Try.ntmps20
  go_upto_region 9 with (first
    | (go_at_call 31; refine hin.mono ?_; rintro e w2 ⟨rfl, rfl⟩)
    | (go_at_call 32; refine hfi.mono ?_; rintro e w2 ⟨rfl, rfl⟩)
    | (go_at_call 50; refine hob.mono ?_; rintro e w3 ⟨rfl, d3, kv3, hN, hpa, ho⟩; have N3 := hide hN; have H3 := hide hpa; have O3 := hide ho; clear hN hpa ho hob))
  have P3 := hide (O3.out.blk HPG.out (.inr rfl))
  have B3 := hide (O3.out.size)
  clear hin hfi m2
  obtain ⟨f0, f1, f2, f3, f4⟩ := H3.out.cell hz
  have fz := H3.out.frozen
  rw [hpz] at f0
  unfold pv at f0
  have m0 := PgB.markC P3.out
  have m1 := PgB.tenC P3.out
  have m2 := PgB.numC P3.out
  obtain ⟨m3, m4, m5, m6, m7⟩ := PgB.slots P3.out
  have hal : ∀ o, PAt (w3.alloc o) (fun k => X k ∨ k = w.heap.size) dg d3 g l' kv3 q P' := fun o => H3.out.below ((Below.refl _ w3).alloc (Nat.le_refl _) o)
  have f0a : ∀ o, (w3.alloc o).cell? ⟨q, 3 + z * 5, none⟩ = some (.pointer none) := fun o => by have := ((hal o).cell hz).1; rwa [hpz] at this
  have f1a := fun o => ((hal o).cell hz).2.1
  have fza := fun o => (hal o).frozen
  have m2a : ∀ o, (w3.alloc o).cell? ⟨w.heap.size, 2, none⟩ = some (.int .i64 (p.num : Int)) := fun o => PgB.numC (PgB.alloc P3.out o)
  clear hal
  have hne : ¬ q = w.heap.size := by omega
  have hne2 : ¬ w.heap.size = q := by omega
  go_region
  have O4 := hide (show Out (fun k => X k ∨ k = w.heap.size) w3 (w3.alloc (.cells pZ.cells 53)) from Out.of_below ((Below.refl _ w3).alloc (Nat.le_refl _) _))
  have hbq : w3.heap.size ≠ q := by have := H3.out.blk.lt; omega
  have H4 := hide ((put_given H3.out hz p.num).below ((Below.refl _ _).drew))
  have O5 := hide (O4.out.trans ((put_outQ (h := H3.out) hz p.num).drew))
  clear f0 f1 f2 f3 f4 fz m0 m1 m2 m3 m4 m5 m6 m7 f0a f1a fza m2a O4
  rw [show pZ.cells = #[.int .u64 0, .int .i64 0, .int .i64 0, .string ⟨#[]⟩, .string ⟨#[]⟩, .string ⟨#[]⟩, .string ⟨#[]⟩, .string ⟨#[]⟩] from rfl] at H4 O5
  generalize (((w3.alloc (.cells #[.int .u64 0, .int .i64 0, .int .i64 0, .string ⟨#[]⟩, .string ⟨#[]⟩, .string ⟨#[]⟩, .string ⟨#[]⟩, .string ⟨#[]⟩] 53)).setCell ⟨q, 3 + z * 5, none⟩ (.pointer (some ⟨w3.heap.size, 0, none⟩))).setCell ⟨q, 3 + z * 5 + 1, none⟩ (.int .i64 (p.num : Int))).drew = W4 at *
  have P4 := hide (Out.blk O5.out P3.out (.inr rfl))
  have m0 := PgB.markC P4.out
  have m1 := PgB.tenC P4.out
  have m2 := PgB.numC P4.out
  obtain ⟨m3, m4, m5, m6, m7⟩ := PgB.slots P4.out
  have e4 := (P').set_same z ⟨some w3.heap.size, p.num, (P'.f z).req, (P'.f z).dirty, (P'.f z).since, pZ⟩
  obtain ⟨hpg4, hxb4, _⟩ := H4.out.pg z w3.heap.size hz (by rw [e4])
  rw [e4] at hpg4
  have G4 := hide hpg4
  have XB4 := hide hxb4
  obtain ⟨z0, z1, z2, z3, z4, z5, z6, z7, zf⟩ := hpg4.zero_cells
  obtain ⟨f0, f1, f2, f3, f4⟩ := H4.out.cell hz
  rw [e4] at f0
  unfold pv at f0
  clear f1 f2 f3 f4 hpg4 hxb4 e4
  go_upto_region 10 with fail
  go_region
  have H6 := hide ((page8 H4.out hz (b := w3.heap.size) (by rw [Po.set_same]) p).below ((Below.refl _ _).drew))
  have O6 := hide (O5.out.trans ((page8_out H4.out hz (b := w3.heap.size) (by rw [Po.set_same]) p).drew))
  unfold Go.Proofs.Ytkdcnddagebjpaa.set8 at H6 O6
  clear m0 m1 m2 m3 m4 m5 m6 m7 z0 z1 z2 z3 z4 z5 z6 z7 zf f0
  generalize ((((((((W4.setCell ⟨w3.heap.size, 0, none⟩ (.int .u64 (p.mark : Int))).setCell ⟨w3.heap.size, 1, none⟩ (.int .i64 (p.ten : Int))).setCell ⟨w3.heap.size, 2, none⟩ (.int .i64 (p.num : Int))).setCell ⟨w3.heap.size, 3, none⟩ (.string (p.s 0))).setCell ⟨w3.heap.size, 4, none⟩ (.string (p.s 1))).setCell ⟨w3.heap.size, 5, none⟩ (.string (p.s 2))).setCell ⟨w3.heap.size, 6, none⟩ (.string (p.s 3))).setCell ⟨w3.heap.size, 7, none⟩ (.string (p.s 4))).drew = W6 at *
  rw [Po.set_same, Po.set_set] at H6
  obtain ⟨f0, f1, f2, f3, f4⟩ := H6.out.cell hz
  have fz := H6.out.frozen
  rw [Po.set_same] at f0 f2
  unfold pv at f0
  clear f1 f3 f4
  go_wp2
  go_ret2
  have H7 := (H6.out.cellF hz (c := 2) (v := .bool true) (by omega) (x := (P'.f z).with_ w3.heap.size p.num p) (by rw [Po.set_same]; rfl) (by rw [Po.set_same]; rfl) (by rw [Po.set_same]; rfl)).sub (Y := X) (fun k hk => .inl hk)
  rw [Po.set_set] at H7
  refine ⟨w3.heap.size, rfl, Nat.le_trans (by simp) B3.out, d3, kv3, N3.out, H7, ?_⟩
  exact (Out.of_below HB1.out).trans ((O3.out.trans (O6.out.trans (H6.out.outQ (kept_cell _ _ _ _)))).less (fun k hk => .inl hk))
end
end Go.Proofs.Ytkdcnddagebjpaa
