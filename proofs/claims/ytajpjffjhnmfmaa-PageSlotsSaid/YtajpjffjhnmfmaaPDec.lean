/-
  Contract of package page: Decode, as a function of the bytes.
-/
import Derived.Test.YtajpjffjhnmfmaaPRead
namespace Go.Proofs.Ytajpjffjhnmfmaa
open Go.RowKit

set_option linter.unusedSimpArgs false
set_option linter.unusedVariables false

theorem okB_empty : okB ⟨#[]⟩ = true := by simp [okB]
theorem okB_size {s : ByteArray} (h : okB s = true) : s.size ≤ 40 := by
  unfold okB at h
  simp only [Bool.or_eq_true, decide_eq_true_eq] at h
  rcases h with rfl | h
  · exact Nat.zero_le _
  · have := rowB_length h
    rw [size_data] at this
    omega
theorem rdPg_ok (l : List UInt8) : ∀ k j, okB ((rdPg l k).s j) = true
  | 0, _ => okB_empty
  | k + 1, j => by
    rw [rdPg]
    unfold Pg.put
    split
    · rename_i h
      show okB (if j = k then _ else _) = true
      split
      · exact h
      · exact rdPg_ok l k j
    · exact rdPg_ok l k j
theorem rdPg_head (l : List UInt8) : ∀ k, (rdPg l k).mark = rdMark l 4 ∧ (rdPg l k).ten = (⟨rdSaid l 4, false⟩ : St).num 2 ∧ (rdPg l k).num = ((⟨rdSaid l 4, false⟩ : St).numSt 2).num 2
  | 0 => ⟨rfl, rfl, rfl⟩
  | k + 1 => by
    rw [rdPg]
    obtain ⟨h1, h2, h3⟩ := (rdPg l k).put_head k ⟨((slSt (rdSaid l 4) k).got 40).toArray⟩
    rw [h1, h2, h3]
    exact rdPg_head l k
/-- A page that may be. -/
def Pg.good (p : Pg) : Prop := p.mark < 18446744073709551616 ∧ p.ten < 65536 ∧ p.num < 65536 ∧ ∀ j, j < 5 → okB (p.s j) = true
theorem Pg.good_sized {p : Pg} (h : p.good) : p.sized := fun j hj => okB_size (h.2.2.2 j hj)
theorem readP_good (l : List UInt8) : (readP l).good := by
  obtain ⟨h1, h2, h3⟩ := rdPg_head l 5
  refine ⟨?_, ?_, ?_, fun j _ => rdPg_ok l 5 j⟩
  · show (rdPg l 5).mark < _; rw [h1]; exact rdMark_lt l 4
  · show (rdPg l 5).ten < _; rw [h2]; exact St.num2_lt _
  · show (rdPg l 5).num < _; rw [h3]; exact St.num2_lt _
/-- The page of zeros. -/
def pTN (t n : Nat) : Pg := ⟨0, t, n, fun _ => ⟨#[]⟩⟩
/-- What Decode takes it for. -/
def readTN (l : List UInt8) (t n : Nat) : Pg := if (readP l).mark = 0 then pTN t n else readP l
/-- Is it that page? -/
def isPg (l : List UInt8) (t n : Nat) : Prop := (readTN l t n).ten = t ∧ (readTN l t n).num = n ∧ (readTN l t n).encL = l
def zVal : Value := .agg #[.int .u64 0, .int .i64 0, .int .i64 0, .string ⟨#[]⟩, .string ⟨#[]⟩, .string ⟨#[]⟩, .string ⟨#[]⟩, .string ⟨#[]⟩]
theorem pgb_new (w : World) (p : Pg) : PgB (w.alloc (.cells p.cells 35)) w.heap.size p := heap_new w _
theorem read_told8 (v : Value) (l : List UInt8) (q : Pg) (w : World) (hq : readP l = q) (hm : l.length ≤ 1000000) (hv : Rd w v (u8s l)) :
    Calls Try.prog 24 #[v] w fun e w' => e = .returned (.agg #[.int .u64 (q.mark : Int), .int .i64 (q.ten : Int), .int .i64 (q.num : Int), .string (q.s 0), .string (q.s 1), .string (q.s 2), .string (q.s 3), .string (q.s 4)]) ∧ Below w.heap.size w w' := by
  subst hq
  exact read_pg v l w hm hv
theorem encode_told8 (q : Pg) (w : World) (hs : q.sized) (ht : q.ten < 65536) (hn : q.num < 65536) :
    Calls Try.prog 14 #[.agg #[.int .u64 (q.mark : Int), .int .i64 (q.ten : Int), .int .i64 (q.num : Int), .string (q.s 0), .string (q.s 1), .string (q.s 2), .string (q.s 3), .string (q.s 4)]] w fun e w' => ∃ v', e = .returned v' ∧ Rd w' v' (u8s q.encL) ∧ Below w.heap.size w w' := by
  refine (encode_pg (p := q) w hs ht hn).mono ?_
  rintro e w' ⟨v', rfl, hm, hb⟩
  exact ⟨v', rfl, hm.rd, hb⟩
/-- The result's cells, behind one more block. -/
theorem PgB.zero_alloc {w : World} {g : Nat} (h : PgB w g pZ) : (∀ o, (w.alloc o).cell? ⟨g, 0, none⟩ = some (.int .u64 0)) ∧ (∀ o, (w.alloc o).cell? ⟨g, 1, none⟩ = some (.int .i64 0)) ∧ (∀ o, (w.alloc o).cell? ⟨g, 2, none⟩ = some (.int .i64 0)) ∧
    (∀ o, (w.alloc o).cell? ⟨g, 3, none⟩ = some (.string ⟨#[]⟩)) ∧ (∀ o, (w.alloc o).cell? ⟨g, 4, none⟩ = some (.string ⟨#[]⟩)) ∧ (∀ o, (w.alloc o).cell? ⟨g, 5, none⟩ = some (.string ⟨#[]⟩)) ∧ (∀ o, (w.alloc o).cell? ⟨g, 6, none⟩ = some (.string ⟨#[]⟩)) ∧ (∀ o, (w.alloc o).cell? ⟨g, 7, none⟩ = some (.string ⟨#[]⟩)) ∧
    ∀ o i, (w.alloc o).frozen? ⟨g, i, none⟩ = false :=
  ⟨fun o => (h.alloc o).markC, fun o => (h.alloc o).tenC, fun o => (h.alloc o).numC, fun o => (h.alloc o).slots.1, fun o => (h.alloc o).slots.2.1, fun o => (h.alloc o).slots.2.2.1, fun o => (h.alloc o).slots.2.2.2.1, fun o => (h.alloc o).slots.2.2.2.2, fun o i => (h.alloc o).frozen i⟩
theorem PgB.zero_cells {w : World} {g : Nat} (h : PgB w g pZ) : w.cell? ⟨g, 0, none⟩ = some (.int .u64 0) ∧ w.cell? ⟨g, 1, none⟩ = some (.int .i64 0) ∧ w.cell? ⟨g, 2, none⟩ = some (.int .i64 0) ∧
    w.cell? ⟨g, 3, none⟩ = some (.string ⟨#[]⟩) ∧ w.cell? ⟨g, 4, none⟩ = some (.string ⟨#[]⟩) ∧ w.cell? ⟨g, 5, none⟩ = some (.string ⟨#[]⟩) ∧ w.cell? ⟨g, 6, none⟩ = some (.string ⟨#[]⟩) ∧ w.cell? ⟨g, 7, none⟩ = some (.string ⟨#[]⟩) ∧ ∀ i, w.frozen? ⟨g, i, none⟩ = false :=
  ⟨h.markC, h.tenC, h.numC, h.slots.1, h.slots.2.1, h.slots.2.2.1, h.slots.2.2.2.1, h.slots.2.2.2.2, fun i => h.frozen i⟩
theorem pdec_step {w w1 : World} (hb : Below (w.alloc (.cells pZ.cells 35)).heap.size (w.alloc (.cells pZ.cells 35)) w1) (o : Obj) : PgB w1 w.heap.size pZ ∧ Below w.heap.size w (w1.alloc o) := by
  have b0 := (Below.refl w.heap.size w).alloc (Nat.le_refl _) (.cells pZ.cells 35)
  have hs := hb.size
  have b1 := b0.trans (hb.mono b0.size)
  exact ⟨(pgb_new w pZ).below hb, b1.alloc b1.size o⟩
set_option maxRecDepth 20000 in
set_option maxHeartbeats 2000000 in
theorem pdec_who (v : Value) (l : List UInt8) (t n : Nat) (w : World) (hm : l.length ≤ 1000000) (hv : Rd w v (u8s l)) (h0 : (readP l).mark ≠ 0) (h1 : (readP l).ten ≠ t) :
    Calls Try.prog 15 #[v, .int .i64 (t : Int), .int .i64 (n : Int)] w fun e w' => e = .returned (.tuple #[zVal, .int .i64 11]) ∧ Below w.heap.size w w' := by
  generalize hq : readP l = q at *
  have hv1 := hide (hv.alloc (.cells pZ.cells 35))
  have hz : ¬ ((q.mark : Int) = 0) := by omega
  have hz1 : ¬ ((q.ten : Int) = (t : Int)) := by omega
  have HQ := hide hq
  have HW := hide hv
  clear hv hq
  go_enter Try.func15, Try.ntmps15
  go_wp2_with (go_at_call 24; refine (read_told8 _ l q _ HQ.out hm hv1.out).mono ?_; rintro e w1 ⟨rfl, hb1⟩; obtain ⟨Z1, B1⟩ := pdec_step hb1 (.cells #[.int .u64 (q.mark : Int), .int .i64 (q.ten : Int), .int .i64 (q.num : Int), .string (q.s 0), .string (q.s 1), .string (q.s 2), .string (q.s 3), .string (q.s 4)] 35); have HZ := hide Z1; have HB := hide B1; have P1 := hide (pgb_new w1 q); obtain ⟨z0, z1, z2, z3, z4, z5, z6, z7, zf⟩ := Z1.zero_alloc; clear Z1 B1 hb1)
  refine bodyPost_ret (v := .tuple #[zVal, .int .i64 11]) (by simp [results, Try.results15, go_sem, z0, z1, z2, z3, z4, z5, z6, z7, zVal, Pg.val, Pg.cells]) rfl ⟨rfl, ?_⟩
  exact set8_below (p := pZ) HB.out (Nat.le_refl _)
set_option maxRecDepth 20000 in
set_option maxHeartbeats 2000000 in
theorem pdec_num (v : Value) (l : List UInt8) (t n : Nat) (w : World) (hm : l.length ≤ 1000000) (hv : Rd w v (u8s l)) (h0 : (readP l).mark ≠ 0) (h1 : (readP l).ten = t) (h2 : (readP l).num ≠ n) :
    Calls Try.prog 15 #[v, .int .i64 (t : Int), .int .i64 (n : Int)] w fun e w' => e = .returned (.tuple #[zVal, .int .i64 11]) ∧ Below w.heap.size w w' := by
  generalize hq : readP l = q at *
  have hv1 := hide (hv.alloc (.cells pZ.cells 35))
  have hz : ¬ ((q.mark : Int) = 0) := by omega
  have hz2 : ¬ ((q.num : Int) = (n : Int)) := by omega
  subst h1
  have HQ := hide hq
  have HW := hide hv
  clear hv hq
  go_enter Try.func15, Try.ntmps15
  go_wp2_with (go_at_call 24; refine (read_told8 _ l q _ HQ.out hm hv1.out).mono ?_; rintro e w1 ⟨rfl, hb1⟩; obtain ⟨Z1, B1⟩ := pdec_step hb1 (.cells #[.int .u64 (q.mark : Int), .int .i64 (q.ten : Int), .int .i64 (q.num : Int), .string (q.s 0), .string (q.s 1), .string (q.s 2), .string (q.s 3), .string (q.s 4)] 35); have HZ := hide Z1; have HB := hide B1; have P1 := hide (pgb_new w1 q); obtain ⟨z0, z1, z2, z3, z4, z5, z6, z7, zf⟩ := Z1.zero_alloc; clear Z1 B1 hb1)
  refine bodyPost_ret (v := .tuple #[zVal, .int .i64 11]) (by simp [results, Try.results15, go_sem, z0, z1, z2, z3, z4, z5, z6, z7, zVal, Pg.val, Pg.cells]) rfl ⟨rfl, ?_⟩
  exact set8_below (p := pZ) HB.out (Nat.le_refl _)
set_option maxRecDepth 20000 in
set_option maxHeartbeats 2000000 in
theorem pdec_yes (v : Value) (l : List UInt8) (t n : Nat) (w : World) (hm : l.length ≤ 1000000) (hv : Rd w v (u8s l)) (h0 : (readP l).mark ≠ 0) (h1 : (readP l).ten = t) (h2 : (readP l).num = n) (h3 : (readP l).encL = l) :
    Calls Try.prog 15 #[v, .int .i64 (t : Int), .int .i64 (n : Int)] w fun e w' => e = .returned (.tuple #[(readP l).val, .int .i64 0]) ∧ Below w.heap.size w w' := by
  generalize hq : readP l = q at *
  have hv1 := hide (hv.alloc (.cells pZ.cells 35))
  have hz : ¬ ((q.mark : Int) = 0) := by omega
  subst h1 h2
  have HG : q.good := by rw [← hq]; exact readP_good l
  have HS := hide (Pg.good_sized HG)
  have hq1 := HG.2.1
  have hq2 := HG.2.2.1
  have HX := hide h3
  clear HG h3
  have HQ := hide hq
  have HW := hide hv
  clear hv hq
  go_enter Try.func15, Try.ntmps15
  go_wp2_with (first
    | (go_at_call 24; refine (read_told8 _ l q _ HQ.out hm hv1.out).mono ?_; rintro e w1 ⟨rfl, hb1⟩; obtain ⟨Z1, B1⟩ := pdec_step hb1 (.cells #[.int .u64 (q.mark : Int), .int .i64 (q.ten : Int), .int .i64 (q.num : Int), .string (q.s 0), .string (q.s 1), .string (q.s 2), .string (q.s 3), .string (q.s 4)] 35); have HZ := hide Z1; have HB := hide B1; have P1 := hide (pgb_new w1 q); obtain ⟨z0, z1, z2, z3, z4, z5, z6, z7, zf⟩ := Z1.zero_alloc; clear Z1 B1 hb1)
    | (go_at_call 14; refine (encode_told8 q _ HS.out hq1 hq2).mono ?_; rintro e w2 ⟨v2, rfl, hr2, hb2⟩; have P2 := P1.out.below hb2; have HZ2 := (HZ.out.alloc _).below hb2; have HB2 := hide (HB.out.trans (hb2.mono HB.out.size)); have hv2 := HW.out.below HB2.out; obtain ⟨z0, z1, z2, z3, z4, z5, z6, z7, zf⟩ := HZ2.zero_cells; have c0 := P2.markC; have c1 := P2.tenC; have c2 := P2.numC; obtain ⟨c3, c4, c5, c6, c7⟩ := P2.slots; clear P2 HZ2 hb2)
    | (go_at_call 25; refine (equal_yes _ _ q.encL l _ hr2 hv2 HX.out).mono ?_; rintro e w3 ⟨rfl, rfl⟩))
  refine bodyPost_ret (v := .tuple #[q.val, .int .i64 0]) (by simp [results, Try.results15, go_sem, z0, z1, z2, z3, z4, z5, z6, z7, zVal, Pg.val, Pg.cells]) rfl ⟨rfl, ?_⟩
  exact set8_below (p := q) HB2.out (Nat.le_refl _)
set_option maxRecDepth 20000 in
set_option maxHeartbeats 2000000 in
theorem pdec_no (v : Value) (l : List UInt8) (t n : Nat) (w : World) (hm : l.length ≤ 1000000) (hv : Rd w v (u8s l)) (h0 : (readP l).mark ≠ 0) (h1 : (readP l).ten = t) (h2 : (readP l).num = n) (h3 : (readP l).encL ≠ l) :
    Calls Try.prog 15 #[v, .int .i64 (t : Int), .int .i64 (n : Int)] w fun e w' => e = .returned (.tuple #[zVal, .int .i64 11]) ∧ Below w.heap.size w w' := by
  generalize hq : readP l = q at *
  have hv1 := hide (hv.alloc (.cells pZ.cells 35))
  have hz : ¬ ((q.mark : Int) = 0) := by omega
  subst h1 h2
  have HG : q.good := by rw [← hq]; exact readP_good l
  have HS := hide (Pg.good_sized HG)
  have hq1 := HG.2.1
  have hq2 := HG.2.2.1
  have HX := hide h3
  clear HG h3
  have HQ := hide hq
  have HW := hide hv
  clear hv hq
  go_enter Try.func15, Try.ntmps15
  go_wp2_with (first
    | (go_at_call 24; refine (read_told8 _ l q _ HQ.out hm hv1.out).mono ?_; rintro e w1 ⟨rfl, hb1⟩; obtain ⟨Z1, B1⟩ := pdec_step hb1 (.cells #[.int .u64 (q.mark : Int), .int .i64 (q.ten : Int), .int .i64 (q.num : Int), .string (q.s 0), .string (q.s 1), .string (q.s 2), .string (q.s 3), .string (q.s 4)] 35); have HZ := hide Z1; have HB := hide B1; have P1 := hide (pgb_new w1 q); obtain ⟨z0, z1, z2, z3, z4, z5, z6, z7, zf⟩ := Z1.zero_alloc; clear Z1 B1 hb1)
    | (go_at_call 14; refine (encode_told8 q _ HS.out hq1 hq2).mono ?_; rintro e w2 ⟨v2, rfl, hr2, hb2⟩; have P2 := P1.out.below hb2; have HZ2 := (HZ.out.alloc _).below hb2; have HB2 := hide (HB.out.trans (hb2.mono HB.out.size)); have hv2 := HW.out.below HB2.out; obtain ⟨z0, z1, z2, z3, z4, z5, z6, z7, zf⟩ := HZ2.zero_cells; have c0 := P2.markC; have c1 := P2.tenC; have c2 := P2.numC; obtain ⟨c3, c4, c5, c6, c7⟩ := P2.slots; clear P2 HZ2 hb2)
    | (go_at_call 25; refine (equal_no _ _ q.encL l _ hr2 hv2 HX.out).mono ?_; rintro e w3 ⟨rfl, rfl⟩))
  refine bodyPost_ret (v := .tuple #[zVal, .int .i64 11]) (by simp [results, Try.results15, go_sem, z0, z1, z2, z3, z4, z5, z6, z7, zVal, Pg.val, Pg.cells]) rfl ⟨rfl, ?_⟩
  exact set8_below (p := pZ) HB2.out (Nat.le_refl _)
theorem encode_zero8 (t n : Nat) (w : World) :
    Calls Try.prog 14 #[.agg #[.int .u64 0, .int .i64 (t : Int), .int .i64 (n : Int), .string ⟨#[]⟩, .string ⟨#[]⟩, .string ⟨#[]⟩, .string ⟨#[]⟩, .string ⟨#[]⟩]] w fun e w' => ∃ v', e = .returned v' ∧ Rd w' v' (u8s z256) ∧ Below w.heap.size w w' := by
  refine (enc_zero (p := pTN t n) w rfl).mono ?_
  rintro e w' ⟨v', rfl, hm, hb⟩
  exact ⟨v', rfl, hm.rd, hb⟩
theorem PgB.tn_cells {w : World} {g t n : Nat} (h : PgB w g (pTN t n)) : w.cell? ⟨g, 0, none⟩ = some (.int .u64 0) ∧ w.cell? ⟨g, 1, none⟩ = some (.int .i64 (t : Int)) ∧ w.cell? ⟨g, 2, none⟩ = some (.int .i64 (n : Int)) ∧
    w.cell? ⟨g, 3, none⟩ = some (.string ⟨#[]⟩) ∧ w.cell? ⟨g, 4, none⟩ = some (.string ⟨#[]⟩) ∧ w.cell? ⟨g, 5, none⟩ = some (.string ⟨#[]⟩) ∧ w.cell? ⟨g, 6, none⟩ = some (.string ⟨#[]⟩) ∧ w.cell? ⟨g, 7, none⟩ = some (.string ⟨#[]⟩) :=
  ⟨h.markC, h.tenC, h.numC, h.slots.1, h.slots.2.1, h.slots.2.2.1, h.slots.2.2.2.1, h.slots.2.2.2.2⟩
set_option maxRecDepth 20000 in
set_option maxHeartbeats 2000000 in
theorem pdec0_yes (v : Value) (l : List UInt8) (t n : Nat) (w : World) (hm : l.length ≤ 1000000) (hv : Rd w v (u8s l)) (h0 : (readP l).mark = 0) (h3 : z256 = l) :
    Calls Try.prog 15 #[v, .int .i64 (t : Int), .int .i64 (n : Int)] w fun e w' => e = .returned (.tuple #[(pTN t n).val, .int .i64 0]) ∧ Below w.heap.size w w' := by
  generalize hq : readP l = q at *
  have hv1 := hide (hv.alloc (.cells pZ.cells 35))
  have hz : (q.mark : Int) = 0 := by omega
  have HX := hide h3
  clear h3
  have HQ := hide hq
  have HW := hide hv
  clear hv hq
  go_enter Try.func15, Try.ntmps15
  go_wp2_with (first
    | (go_at_call 24; refine (read_told8 _ l q _ HQ.out hm hv1.out).mono ?_; rintro e w1 ⟨rfl, hb1⟩; obtain ⟨Z1, B1⟩ := pdec_step hb1 (.cells #[.int .u64 0, .int .i64 (t : Int), .int .i64 (n : Int), .string ⟨#[]⟩, .string ⟨#[]⟩, .string ⟨#[]⟩, .string ⟨#[]⟩, .string ⟨#[]⟩] 35); have HZ := hide Z1; have HB := hide B1; have P1 := hide (pgb_new w1 (pTN t n)); obtain ⟨z0, z1, z2, z3, z4, z5, z6, z7, zf⟩ := Z1.zero_alloc; clear Z1 B1 hb1)
    | (go_at_call 14; refine (encode_zero8 t n _).mono ?_; rintro e w2 ⟨v2, rfl, hr2, hb2⟩; have P2 := P1.out.below hb2; have HZ2 := (HZ.out.alloc _).below hb2; have HB2 := hide (HB.out.trans (hb2.mono HB.out.size)); have hv2 := HW.out.below HB2.out; obtain ⟨z0, z1, z2, z3, z4, z5, z6, z7, zf⟩ := HZ2.zero_cells; obtain ⟨c0, c1, c2, c3, c4, c5, c6, c7⟩ := P2.tn_cells; clear P2 HZ2 hb2)
    | (go_at_call 25; refine (equal_yes _ _ z256 l _ hr2 hv2 HX.out).mono ?_; rintro e w3 ⟨rfl, rfl⟩))
  refine bodyPost_ret (v := .tuple #[(pTN t n).val, .int .i64 0]) (by simp [results, Try.results15, go_sem, z0, z1, z2, z3, z4, z5, z6, z7, zVal, Pg.val, Pg.cells, pTN]) rfl ⟨rfl, ?_⟩
  exact set8_below (p := pTN t n) HB2.out (Nat.le_refl _)
set_option maxRecDepth 20000 in
set_option maxHeartbeats 2000000 in
theorem pdec0_no (v : Value) (l : List UInt8) (t n : Nat) (w : World) (hm : l.length ≤ 1000000) (hv : Rd w v (u8s l)) (h0 : (readP l).mark = 0) (h3 : z256 ≠ l) :
    Calls Try.prog 15 #[v, .int .i64 (t : Int), .int .i64 (n : Int)] w fun e w' => e = .returned (.tuple #[zVal, .int .i64 11]) ∧ Below w.heap.size w w' := by
  generalize hq : readP l = q at *
  have hv1 := hide (hv.alloc (.cells pZ.cells 35))
  have hz : (q.mark : Int) = 0 := by omega
  have HX := hide h3
  clear h3
  have HQ := hide hq
  have HW := hide hv
  clear hv hq
  go_enter Try.func15, Try.ntmps15
  go_wp2_with (first
    | (go_at_call 24; refine (read_told8 _ l q _ HQ.out hm hv1.out).mono ?_; rintro e w1 ⟨rfl, hb1⟩; obtain ⟨Z1, B1⟩ := pdec_step hb1 (.cells #[.int .u64 0, .int .i64 (t : Int), .int .i64 (n : Int), .string ⟨#[]⟩, .string ⟨#[]⟩, .string ⟨#[]⟩, .string ⟨#[]⟩, .string ⟨#[]⟩] 35); have HZ := hide Z1; have HB := hide B1; have P1 := hide (pgb_new w1 (pTN t n)); obtain ⟨z0, z1, z2, z3, z4, z5, z6, z7, zf⟩ := Z1.zero_alloc; clear Z1 B1 hb1)
    | (go_at_call 14; refine (encode_zero8 t n _).mono ?_; rintro e w2 ⟨v2, rfl, hr2, hb2⟩; have P2 := P1.out.below hb2; have HZ2 := (HZ.out.alloc _).below hb2; have HB2 := hide (HB.out.trans (hb2.mono HB.out.size)); have hv2 := HW.out.below HB2.out; obtain ⟨z0, z1, z2, z3, z4, z5, z6, z7, zf⟩ := HZ2.zero_cells; obtain ⟨c0, c1, c2, c3, c4, c5, c6, c7⟩ := P2.tn_cells; clear P2 HZ2 hb2)
    | (go_at_call 25; refine (equal_no _ _ z256 l _ hr2 hv2 HX.out).mono ?_; rintro e w3 ⟨rfl, rfl⟩))
  refine bodyPost_ret (v := .tuple #[zVal, .int .i64 11]) (by simp [results, Try.results15, go_sem, z0, z1, z2, z3, z4, z5, z6, z7, zVal, Pg.val, Pg.cells, pTN]) rfl ⟨rfl, ?_⟩
  exact set8_below (p := pZ) HB2.out (Nat.le_refl _)
end Go.Proofs.Ytajpjffjhnmfmaa
