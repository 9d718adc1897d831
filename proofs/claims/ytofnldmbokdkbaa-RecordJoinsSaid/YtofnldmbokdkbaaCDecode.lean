/-
  The contract of Decode of package record.
-/
import Derived.Test.YtofnldmbokdkbaaCDec
namespace Go.Proofs.Ytofnldmbokdkbaa
open Go.RowKit

set_option linter.unusedSimpArgs false
set_option linter.unusedVariables false

section
variable {w w' : World} {g : Nat} {t : TypeId} {x0 x1 x2 x3 x4 x5 x6 x7 y0 y1 y2 y3 y4 y5 y6 y7 : Value}
theorem set8_below {B : Nat} (h : Below B w' w) (hg : B ≤ g) : Below B w' ((((((((w.setCell ⟨g, 0, none⟩ x0).setCell ⟨g, 1, none⟩ x1).setCell ⟨g, 2, none⟩ x2).setCell ⟨g, 3, none⟩ x3).setCell ⟨g, 4, none⟩ x4).setCell ⟨g, 5, none⟩ x5).setCell ⟨g, 6, none⟩ x6).setCell ⟨g, 7, none⟩ x7) :=
  (((((((h.setCell hg x0).setCell hg x1).setCell hg x2).setCell hg x3).setCell hg x4).setCell hg x5).setCell hg x6).setCell hg x7
theorem set8_btw {lo hi : Nat} {v : Value} {xs : List Value} (h : Btw w lo hi v xs) (hk : g < lo ∨ hi ≤ g) : Btw ((((((((w.setCell ⟨g, 0, none⟩ x0).setCell ⟨g, 1, none⟩ x1).setCell ⟨g, 2, none⟩ x2).setCell ⟨g, 3, none⟩ x3).setCell ⟨g, 4, none⟩ x4).setCell ⟨g, 5, none⟩ x5).setCell ⟨g, 6, none⟩ x6).setCell ⟨g, 7, none⟩ x7) lo hi v xs :=
  (((((((h.set (p := ⟨g, 0, none⟩) hk x0).set (p := ⟨g, 1, none⟩) hk x1).set (p := ⟨g, 2, none⟩) hk x2).set (p := ⟨g, 3, none⟩) hk x3).set (p := ⟨g, 4, none⟩) hk x4).set (p := ⟨g, 5, none⟩) hk x5).set (p := ⟨g, 6, none⟩) hk x6).set (p := ⟨g, 7, none⟩) hk x7
theorem set8_size : ((((((((w.setCell ⟨g, 0, none⟩ x0).setCell ⟨g, 1, none⟩ x1).setCell ⟨g, 2, none⟩ x2).setCell ⟨g, 3, none⟩ x3).setCell ⟨g, 4, none⟩ x4).setCell ⟨g, 5, none⟩ x5).setCell ⟨g, 6, none⟩ x6).setCell ⟨g, 7, none⟩ x7).heap.size = w.heap.size := by simp [World.setCell]
end
/-- What Decode keeps: the result's block, the record's block, its numbers in a row of the call's own, and all that was there. -/
structure Dcd (w0 w : World) (gr : Nat) (r : Rc) (A : Option Addr) (c : Nat) : Prop where
  bel : Below w0.heap.size w0 w
  res : Blk w w0.heap.size 28 #[.int .i64 0, .int .i64 0, .int .i64 0, .int .i64 0, .string ⟨#[]⟩, .string ⟨#[]⟩, .string ⟨#[]⟩, .slice none 0 0]
  box : Blk w gr 28 #[.int .i64 (r.k : Int), .int .i64 (r.t : Int), .int .i64 (r.p : Int), .int .i64 (r.s : Int), .string r.b, .string r.a, .string r.i, .slice A r.ds.length c]
  dty : Btw w (w0.heap.size + 1) gr (.slice A r.ds.length c) (u64s r.ds)
  lt : w0.heap.size < gr
section
variable {w0 w w' : World} {gr : Nat} {r : Rc} {A : Option Addr} {c : Nat}
theorem Dcd.below (h : Dcd w0 w gr r A c) (hb : Below w.heap.size w w') : Dcd w0 w' gr r A c :=
  ⟨h.bel.trans (hb.mono h.bel.size), h.res.below hb, h.box.below hb, h.dty.below hb (Nat.le_of_lt h.box.lt), h.lt⟩
theorem Dcd.rd (h : Dcd w0 w gr r A c) : Rd w (.slice A r.ds.length c) (u64s r.ds) := h.dty.rd (Nat.le_of_lt h.box.lt)
theorem Dcd.cells (h : Dcd w0 w gr r A c) : w.cell? ⟨gr, 0, none⟩ = some (.int .i64 (r.k : Int)) ∧ w.cell? ⟨gr, 1, none⟩ = some (.int .i64 (r.t : Int)) ∧ w.cell? ⟨gr, 2, none⟩ = some (.int .i64 (r.p : Int)) ∧ w.cell? ⟨gr, 3, none⟩ = some (.int .i64 (r.s : Int)) ∧
    w.cell? ⟨gr, 4, none⟩ = some (.string r.b) ∧ w.cell? ⟨gr, 5, none⟩ = some (.string r.a) ∧ w.cell? ⟨gr, 6, none⟩ = some (.string r.i) ∧ w.cell? ⟨gr, 7, none⟩ = some (.slice A r.ds.length c) :=
  ⟨h.box.cell 0 _ rfl, h.box.cell 1 _ rfl, h.box.cell 2 _ rfl, h.box.cell 3 _ rfl, h.box.cell 4 _ rfl, h.box.cell 5 _ rfl, h.box.cell 6 _ rfl, h.box.cell 7 _ rfl⟩
theorem Dcd.rcells (h : Dcd w0 w gr r A c) : w.cell? ⟨w0.heap.size, 0, none⟩ = some (.int .i64 0) ∧ w.cell? ⟨w0.heap.size, 1, none⟩ = some (.int .i64 0) ∧ w.cell? ⟨w0.heap.size, 2, none⟩ = some (.int .i64 0) ∧ w.cell? ⟨w0.heap.size, 3, none⟩ = some (.int .i64 0) ∧
    w.cell? ⟨w0.heap.size, 4, none⟩ = some (.string ⟨#[]⟩) ∧ w.cell? ⟨w0.heap.size, 5, none⟩ = some (.string ⟨#[]⟩) ∧ w.cell? ⟨w0.heap.size, 6, none⟩ = some (.string ⟨#[]⟩) ∧ w.cell? ⟨w0.heap.size, 7, none⟩ = some (.slice none 0 0) :=
  ⟨h.res.cell 0 _ rfl, h.res.cell 1 _ rfl, h.res.cell 2 _ rfl, h.res.cell 3 _ rfl, h.res.cell 4 _ rfl, h.res.cell 5 _ rfl, h.res.cell 6 _ rfl, h.res.cell 7 _ rfl⟩
theorem Dcd.rfz (h : Dcd w0 w gr r A c) : w.frozen? ⟨w0.heap.size, 0, none⟩ = false ∧ w.frozen? ⟨w0.heap.size, 1, none⟩ = false ∧ w.frozen? ⟨w0.heap.size, 2, none⟩ = false ∧ w.frozen? ⟨w0.heap.size, 3, none⟩ = false ∧ w.frozen? ⟨w0.heap.size, 4, none⟩ = false ∧ w.frozen? ⟨w0.heap.size, 5, none⟩ = false ∧ w.frozen? ⟨w0.heap.size, 6, none⟩ = false ∧ w.frozen? ⟨w0.heap.size, 7, none⟩ = false :=
  ⟨h.res.frozen 0, h.res.frozen 1, h.res.frozen 2, h.res.frozen 3, h.res.frozen 4, h.res.frozen 5, h.res.frozen 6, h.res.frozen 7⟩
/-- Behind New and read the record lies in a block of its own. -/
theorem Dcd.start {w1 w2 : World} {g : Nat} (hb1 : Below (w0.alloc (.cells #[.int .i64 0, .int .i64 0, .int .i64 0, .int .i64 0, .string ⟨#[]⟩, .string ⟨#[]⟩, .string ⟨#[]⟩, .slice none 0 0] 28)).heap.size (w0.alloc (.cells #[.int .i64 0, .int .i64 0, .int .i64 0, .int .i64 0, .string ⟨#[]⟩, .string ⟨#[]⟩, .string ⟨#[]⟩, .slice none 0 0] 28)) w1)
    (hlo : w0.heap.size + 1 ≤ g) (hg2 : w1.grownBy w2 (some g)) (hD : Btw w2 (w1.heap.size + 1) w2.heap.size (.slice A r.ds.length c) (u64s r.ds)) :
    Dcd w0 (w2.alloc (.cells #[.int .i64 (r.k : Int), .int .i64 (r.t : Int), .int .i64 (r.p : Int), .int .i64 (r.s : Int), .string r.b, .string r.a, .string r.i, .slice A r.ds.length c] 28)) w2.heap.size r A c := by
  have h0 : Below w0.heap.size w0 (w0.alloc (.cells #[.int .i64 0, .int .i64 0, .int .i64 0, .int .i64 0, .string ⟨#[]⟩, .string ⟨#[]⟩, .string ⟨#[]⟩, .slice none 0 0] 28)) := (Below.refl _ _).alloc (Nat.le_refl _) _
  have h1 : Below w0.heap.size w0 w1 := h0.trans (hb1.mono h0.size)
  have s1 : w0.heap.size + 1 ≤ w1.heap.size := by have := hb1.size; simpa using this
  have h2 : Below w0.heap.size w0 w2 := h1.grown hg2 h1.size (fun k hk => by injection hk with hk; omega)
  have s2 := hg2.size
  have z0 : Blk (w0.alloc (.cells #[.int .i64 0, .int .i64 0, .int .i64 0, .int .i64 0, .string ⟨#[]⟩, .string ⟨#[]⟩, .string ⟨#[]⟩, .slice none 0 0] 28)) w0.heap.size 28 #[.int .i64 0, .int .i64 0, .int .i64 0, .int .i64 0, .string ⟨#[]⟩, .string ⟨#[]⟩, .string ⟨#[]⟩, .slice none 0 0] := heap_new w0 _
  have z2 := (z0.below hb1).grown hg2 (fun e => by injection e with e; omega)
  exact ⟨h2.alloc h2.size _, z2.alloc _, heap_new w2 _, (hD.alloc (Nat.le_refl _) _).more (by omega) (Nat.le_refl _), by omega⟩
/-- The record is the result. -/
theorem Dcd.fin (h : Dcd w0 w gr r A c) : Below w0.heap.size w0 ((((((((w.setCell ⟨w0.heap.size, 0, none⟩ (.int .i64 (r.k : Int))).setCell ⟨w0.heap.size, 1, none⟩ (.int .i64 (r.t : Int))).setCell ⟨w0.heap.size, 2, none⟩ (.int .i64 (r.p : Int))).setCell ⟨w0.heap.size, 3, none⟩ (.int .i64 (r.s : Int))).setCell ⟨w0.heap.size, 4, none⟩ (.string r.b)).setCell ⟨w0.heap.size, 5, none⟩ (.string r.a)).setCell ⟨w0.heap.size, 6, none⟩ (.string r.i)).setCell ⟨w0.heap.size, 7, none⟩ (.slice A r.ds.length c)) ∧
    Rd ((((((((w.setCell ⟨w0.heap.size, 0, none⟩ (.int .i64 (r.k : Int))).setCell ⟨w0.heap.size, 1, none⟩ (.int .i64 (r.t : Int))).setCell ⟨w0.heap.size, 2, none⟩ (.int .i64 (r.p : Int))).setCell ⟨w0.heap.size, 3, none⟩ (.int .i64 (r.s : Int))).setCell ⟨w0.heap.size, 4, none⟩ (.string r.b)).setCell ⟨w0.heap.size, 5, none⟩ (.string r.a)).setCell ⟨w0.heap.size, 6, none⟩ (.string r.i)).setCell ⟨w0.heap.size, 7, none⟩ (.slice A r.ds.length c)) (.slice A r.ds.length c) (u64s r.ds) := by
  refine ⟨set8_below h.bel (Nat.le_refl _), ?_⟩
  have := set8_btw (x0 := .int .i64 (r.k : Int)) (x1 := .int .i64 (r.t : Int)) (x2 := .int .i64 (r.p : Int)) (x3 := .int .i64 (r.s : Int)) (x4 := .string r.b) (x5 := .string r.a) (x6 := .string r.i) (x7 := .slice A r.ds.length c) h.dty (g := w0.heap.size) (.inl (Nat.lt_succ_self _))
  exact this.rd (by rw [set8_size]; exact Nat.le_of_lt h.box.lt)
end
theorem take_min (l : List UInt8) (k : Nat) (hk : k = min l.length 395) : l.take 395 = l.take k := by
  subst hk
  rcases Nat.le_total l.length 395 with h | h
  · rw [Nat.min_eq_left h, List.take_of_length_le h, List.take_length]
  · rw [Nat.min_eq_right h]
theorem readR_u (l : List UInt8) : ∀ x ∈ (readR l).ds, x < 18446744073709551616 := by
  have : ∀ n (s : St), ∀ x ∈ St.nums n s, x < 18446744073709551616 := by
    intro n
    induction n with
    | zero => intro s x hx; cases hx
    | succ n ih =>
      intro s x hx
      rw [St.nums, List.mem_append] at hx
      rcases hx with hx | hx
      · exact ih s x hx
      · rw [List.mem_singleton] at hx
        rw [hx]
        exact St.num_lt _ _
  exact this _ _
set_option maxHeartbeats 2000000 in
theorem decode_yes {v : Value} {l : List UInt8} {w : World} (hm : l.length ≤ 70368744177664) (hv : Rd w v (u8s l)) {r : Rc} (hr : readR (l.take 395) = r) (ho : r.Ok) (hp : r.frame <+: l) :
    Calls Try.prog 13 #[v] w fun e w' => ∃ A c, e = .returned (.tuple #[.agg #[.int .i64 (r.k : Int), .int .i64 (r.t : Int), .int .i64 (r.p : Int), .int .i64 (r.s : Int), .string r.b, .string r.a, .string r.i, .slice A r.ds.length c], .int .i64 (r.frame.length : Int), .bool true]) ∧
      Rd w' (.slice A r.ds.length c) (u64s r.ds) ∧ Below w.heap.size w w' := by
  obtain ⟨A, c, rfl, hc, _⟩ := id hv
  rw [u8s_length] at hc hv ⊢
  obtain ⟨k, hk⟩ : ∃ k, k = min l.length 395 := ⟨_, rfl⟩
  have hmin : ∀ W, (Builtin.min_ #[3, 3] 3 #[.int .i64 (l.length : Int), .int .i64 395]).run Try.prog W = .ok (.int .i64 (k : Int)) W := by
    intro W
    rw [run_min_int2]
    congr 2
    split <;> omega
  have hlow := fun W => run_low (P := Try.prog) slice8 size8 A l.length c k (by omega) W
  have h1 := (Rd.low hv (show k ≤ l.length by omega)).alloc (.cells #[.int .i64 0, .int .i64 0, .int .i64 0, .int .i64 0, .string ⟨#[]⟩, .string ⟨#[]⟩, .string ⟨#[]⟩, .slice none 0 0] 28)
  rw [take_min l k hk] at hr
  have hkl : (l.take k).length ≤ 395 := by rw [List.length_take]; omega
  have hkl2 : (l.take k).length ≤ 70368744177664 := by omega
  generalize l.take k = lk at *
  have HO := hide ho
  have HP := hide hp
  have HV := hide hv
  have hf0 : ((r.frame.length : Int) == 0) = false := by rw [beq_eq_false_iff_ne, r.frame_length]; omega
  have hn : l.length = l.length := rfl
  have hdec := hide (decide_eq_true hp)
  have hr2 := hide hr
  clear ho hp hv hk hr hn
  go_enter Try.func13, Try.ntmps13
  go_wp2_with (first
    | (go_at_call 23; ((with_reducible refine (new_any _ lk _ hkl2 h1).mono ?_); rintro e w1 ⟨g, rfl, hr1, hb1⟩))
    | (go_at_call 22; ((with_reducible refine (read_any hr1 hkl).mono ?_); rw [hr2.out]; rintro e w2 ⟨A2, c2, rfl, hD2, hg2⟩; have D3 := Dcd.start hb1 (by have := hr1.lo_le; simpa using this) hg2 hD2; obtain ⟨b1, b2, b3, b4, b5, b6, b7, b8⟩ := D3.cells))
    | (go_at_call 12; ((with_reducible refine (encode_ok r A2 c2 _ HO.out D3.rd).mono ?_); rintro e w4 ⟨v4, rfl, m4, hb4⟩; have D4 := D3.below hb4; obtain ⟨q1, q2, q3, q4, q5, q6, q7, q8⟩ := D4.cells; obtain ⟨d1, d2, d3, d4, d5, d6, d7, d8⟩ := D4.rcells; obtain ⟨e1, e2, e3, e4, e5, e6, e7, e8⟩ := D4.rfz; obtain ⟨A4, c4', rfl⟩ := m4.form; have R4 := m4.rd; have L4 := HV.out.below (D4.bel.mono (Nat.le_refl _))))
    | (go_at_call 24; ((with_reducible refine (prefix_told rfl rfl L4 R4 hdec.out).mono ?_); rintro e w5 ⟨rfl, rfl⟩)))
  refine bodyPost_ret (v := .tuple #[.agg #[.int .i64 (r.k : Int), .int .i64 (r.t : Int), .int .i64 (r.p : Int), .int .i64 (r.s : Int), .string r.b, .string r.a, .string r.i, .slice A2 r.ds.length c2], .int .i64 (r.frame.length : Int), .bool true]) (by simp [results, Try.results13, go_sem, d1, d2, d3, d4, d5, d6, d7, d8]) rfl ⟨A2, c2, rfl, D4.fin.2, D4.fin.1⟩
set_option maxHeartbeats 2000000 in
theorem decode_no {v : Value} {l : List UInt8} {w : World} (hm : l.length ≤ 70368744177664) (hv : Rd w v (u8s l)) (h : decB l = false) :
    Calls Try.prog 13 #[v] w fun e w' => e = .returned (.tuple #[.agg #[.int .i64 0, .int .i64 0, .int .i64 0, .int .i64 0, .string ⟨#[]⟩, .string ⟨#[]⟩, .string ⟨#[]⟩, .slice none 0 0], .int .i64 0, .bool false]) ∧ Below w.heap.size w w' := by
  obtain ⟨A, c, rfl, hc, _⟩ := id hv
  rw [u8s_length] at hc hv ⊢
  obtain ⟨k, hk⟩ : ∃ k, k = min l.length 395 := ⟨_, rfl⟩
  have hmin : ∀ W, (Builtin.min_ #[3, 3] 3 #[.int .i64 (l.length : Int), .int .i64 395]).run Try.prog W = .ok (.int .i64 (k : Int)) W := by
    intro W
    rw [run_min_int2]
    congr 2
    split <;> omega
  have hlow := fun W => run_low (P := Try.prog) slice8 size8 A l.length c k (by omega) W
  have h1 := (Rd.low hv (show k ≤ l.length by omega)).alloc (.cells #[.int .i64 0, .int .i64 0, .int .i64 0, .int .i64 0, .string ⟨#[]⟩, .string ⟨#[]⟩, .string ⟨#[]⟩, .slice none 0 0] 28)
  obtain ⟨r, hr⟩ : ∃ r, readR (l.take 395) = r := ⟨_, rfl⟩
  unfold decB at h
  rw [hr] at h
  have hu := readR_u (l.take 395)
  rw [hr] at hu
  rw [take_min l k hk] at hr
  have hkl : (l.take k).length ≤ 395 := by rw [List.length_take]; omega
  have hkl2 : (l.take k).length ≤ 70368744177664 := by omega
  generalize l.take k = lk at *
  have HV := hide hv
  have hr2 := hide hr
  have hright : r.right = rightB r.k r.t r.p r.s r.b r.a r.i r.ds.length := by
    unfold Rc.right
    rw [List.all_eq_true.2 (fun x hx => decide_eq_true (hu x hx)), Bool.and_true]
  cases hb : rightB (r.k : Int) r.t r.p r.s r.b r.a r.i r.ds.length
  · clear hv hk hr hu h hright
    have HB := hide hb
    clear hb
    go_enter Try.func13, Try.ntmps13
    go_wp2_with (first
      | (go_at_call 23; ((with_reducible refine (new_any _ lk _ hkl2 h1).mono ?_); rintro e w1 ⟨g, rfl, hr1, hb1⟩))
      | (go_at_call 22; ((with_reducible refine (read_any hr1 hkl).mono ?_); rw [hr2.out]; rintro e w2 ⟨A2, c2, rfl, hD2, hg2⟩; have D3 := Dcd.start hb1 (by have := hr1.lo_le; simpa using this) hg2 hD2; obtain ⟨b1, b2, b3, b4, b5, b6, b7, b8⟩ := D3.cells))
      | (go_at_call 12; ((with_reducible refine (encode_no _ HB.out).mono ?_); rintro e w4 ⟨rfl, hb4⟩; have D4 := D3.below hb4; obtain ⟨d1, d2, d3, d4, d5, d6, d7, d8⟩ := D4.rcells; obtain ⟨e1, e2, e3, e4, e5, e6, e7, e8⟩ := D4.rfz)))
    refine bodyPost_ret (v := .tuple #[.agg #[.int .i64 0, .int .i64 0, .int .i64 0, .int .i64 0, .string ⟨#[]⟩, .string ⟨#[]⟩, .string ⟨#[]⟩, .slice none 0 0], .int .i64 0, .bool false]) (by simp [results, Try.results13, go_sem, d1, d2, d3, d4, d5, d6, d7, d8]) rfl ⟨rfl, set8_below D4.bel (Nat.le_refl _)⟩
  · rw [hright, hb, Bool.true_and] at h
    have ho : r.Ok := (Rc.right_iff r).1 (by rw [hright]; exact hb)
    have HO := hide ho
    have hdec := hide h
    have hf0 : ((r.frame.length : Int) == 0) = false := by rw [beq_eq_false_iff_ne, r.frame_length]; omega
    clear hv hk hr hu h hright hb ho
    go_enter Try.func13, Try.ntmps13
    go_wp2_with (first
      | (go_at_call 23; ((with_reducible refine (new_any _ lk _ hkl2 h1).mono ?_); rintro e w1 ⟨g, rfl, hr1, hb1⟩))
      | (go_at_call 22; ((with_reducible refine (read_any hr1 hkl).mono ?_); rw [hr2.out]; rintro e w2 ⟨A2, c2, rfl, hD2, hg2⟩; have D3 := Dcd.start hb1 (by have := hr1.lo_le; simpa using this) hg2 hD2; obtain ⟨b1, b2, b3, b4, b5, b6, b7, b8⟩ := D3.cells))
      | (go_at_call 12; ((with_reducible refine (encode_ok r A2 c2 _ HO.out D3.rd).mono ?_); rintro e w4 ⟨v4, rfl, m4, hb4⟩; have D4 := D3.below hb4; obtain ⟨d1, d2, d3, d4, d5, d6, d7, d8⟩ := D4.rcells; obtain ⟨e1, e2, e3, e4, e5, e6, e7, e8⟩ := D4.rfz; obtain ⟨A4, c4', rfl⟩ := m4.form; have R4 := m4.rd; have L4 := HV.out.below (D4.bel.mono (Nat.le_refl _))))
      | (go_at_call 24; ((with_reducible refine (prefix_told rfl rfl L4 R4 hdec.out).mono ?_); rintro e w5 ⟨rfl, rfl⟩)))
    refine bodyPost_ret (v := .tuple #[.agg #[.int .i64 0, .int .i64 0, .int .i64 0, .int .i64 0, .string ⟨#[]⟩, .string ⟨#[]⟩, .string ⟨#[]⟩, .slice none 0 0], .int .i64 0, .bool false]) (by simp [results, Try.results13, go_sem, d1, d2, d3, d4, d5, d6, d7, d8]) rfl ⟨rfl, set8_below D4.bel (Nat.le_refl _)⟩
end Go.Proofs.Ytofnldmbokdkbaa
