/-
  DiskRuns: what each call leaves of 'the disk is the model', as its walk takes it.
-/
import Derived.Test.YthlclhfepnmaeaaRunsA
namespace Go.Proofs.Ythlclhfepnmaeaa
open Go.RowKit

theorem Many.less {w : World} {X Y : Nat → Prop} {l : List (Nat × Ds)} (h : Many w X l) (hy : ∀ k, Y k → X k) : Many w Y l := h.more (Below.refl _ _) (fun k hk => .inl (hy k hk))
/-- With a call in its box. -/
structure SB (w0 w : World) (gm d bx n k : Nat) (D : Ds) (PC : Array Value) (dat : Nat → Nat → List UInt8) (wt : Nat → List CallD) (lf : Nat → Int) (vs : Nat → Value) (kd r s : Int) (A : Option Addr) (m c : Nat) (l : List UInt8) (mask : Nat) : Prop where
  tie : Tie w0 D dat wt lf n k
  md : Md w w0.heap.size gm PC dat wt lf vs
  many : Many w (fun g => MX w0.heap.size gm vs g ∨ g = bx) [(d, D)]
  le : Below w0.heap.size w0 w
  box : Blk w bx 36 #[.int .i64 kd, .int .i64 r, .int .i64 s, .slice A m c, .int .u64 (mask : Int)]
  lo : w0.heap.size ≤ bx
  far : ¬ MB gm vs bx
  fit : CallD.Fit w0 w0.heap.size ⟨kd, r, s, .slice A m c, l, mask⟩
  len : l.length = m
  gmlo : w0.heap.size ≤ gm
section
variable {w0 w w' : World} {gm d bx n k : Nat} {D : Ds} {PC : Array Value} {dat : Nat → Nat → List UInt8} {wt : Nat → List CallD} {lf : Nat → Int} {vs : Nat → Value} {kd r s : Int} {A : Option Addr} {m c : Nat} {l : List UInt8} {mask : Nat}
theorem SB.st (h : SB w0 w gm d bx n k D PC dat wt lf vs kd r s A m c l mask) : St w0 w gm d n k D PC dat wt lf vs := ⟨h.tie, h.md, h.many.less (fun _ hk => .inl hk), h.le⟩
theorem SB.up (h : SB w0 w gm d bx n k D PC dat wt lf vs kd r s A m c l mask) : St w0 w gm d n (k + 1) D PC dat wt lf vs := ⟨h.tie.up, h.md, h.many.less (fun _ hk => .inl hk), h.le⟩
theorem SB.cells (h : SB w0 w gm d bx n k D PC dat wt lf vs kd r s A m c l mask) : w.cell? ⟨bx, 0, none⟩ = some (.int .i64 kd) ∧ w.cell? ⟨bx, 1, none⟩ = some (.int .i64 r) ∧ w.cell? ⟨bx, 2, none⟩ = some (.int .i64 s) ∧ w.cell? ⟨bx, 3, none⟩ = some (.slice A m c) ∧ w.cell? ⟨bx, 4, none⟩ = some (.int .u64 (mask : Int)) :=
  ⟨h.box.cell 0 _ rfl, h.box.cell 1 _ rfl, h.box.cell 2 _ rfl, h.box.cell 3 _ rfl, h.box.cell 4 _ rfl⟩
theorem SB.row (h : SB w0 w gm d bx n k D PC dat wt lf vs kd r s A m c l mask) : Row w w0.heap.size (.slice A m c) (u8s l) := h.fit.row.below h.le
theorem SB.below (h : SB w0 w gm d bx n k D PC dat wt lf vs kd r s A m c l mask) (hb : Below w.heap.size w w') : SB w0 w' gm d bx n k D PC dat wt lf vs kd r s A m c l mask :=
  ⟨h.tie, h.md.below hb, h.many.below hb, h.le.trans (hb.mono h.le.size), h.box.below hb, h.lo, h.far, h.fit, h.len, h.gmlo⟩
/-- Behind a call of the disk. -/
theorem St.of_out {D2 : Ds} {wt2 : Nat → List CallD} {lf2 : Nat → Int} {n2 k2 : Nat} {dat2 : Nat → Nat → List UInt8} {X : Nat → Prop} (hm : Md w w0.heap.size gm PC dat2 wt2 lf2 vs) (hle : Below w0.heap.size w0 w) (hX : ∀ g, MX w0.heap.size gm vs g → X g) (ht : Tie w0 D2 dat2 wt2 lf2 n2 k2) (hmany : Many w' X [(d, D2)]) (ho : Out X w w') : St w0 w' gm d n2 k2 D2 PC dat2 wt2 lf2 vs :=
  ⟨ht, hm.out ho (fun g hg => hX g (.inr hg)), hmany.less hX, hle.trans (ho.below hle.size (fun g hg => hX g (.inl hg)))⟩
theorem rn_write_bad (h : SB w0 w gm d bx n k D PC dat wt lf vs kd r s A m c l mask) (hk : k ≤ 200) (hb : ¬ (0 ≤ r ∧ r < 3 ∧ 0 ≤ s ∧ s < 8) ∨ 64 < m) :
    Calls Try.prog 6 #[ptr d, .int .i64 r, .int .i64 s, .slice A m c] w fun e w' => e = .returned (.int .i64 1) ∧ St w0 w' gm d n (k + 1) D PC dat wt lf vs := by
  have hl := h.len
  obtain ⟨h1, h2⟩ := h.tie.write_bad (r := r) (s := s) (b := l) (by rw [hl]; exact hb)
  refine (m_write 0 h.many rfl (h.tie.small.more (by omega)) r s h.len h.row h.le.size).mono ?_
  rintro e w' ⟨rfl, hm, ho⟩
  rw [h1, h2] at *
  exact ⟨rfl, St.of_out h.md h.le (fun _ hg => .inl hg) h.tie.up hm ho⟩
theorem rn_write_down {rn : Nat} (h : SB w0 w gm d bx n k D PC dat wt lf vs kd (rn : Int) s A m c l mask) (hk : k ≤ 200) (hr : rn < 3) (hs : 0 ≤ s ∧ s < 8) (hm : m ≤ 64) (hd : lf rn = 0) :
    Calls Try.prog 6 #[ptr d, .int .i64 (rn : Int), .int .i64 s, .slice A m c] w fun e w' => e = .returned (.int .i64 10) ∧ St w0 w' gm d n (k + 1) D PC dat wt lf vs := by
  have hl := h.len
  obtain ⟨h1, h2⟩ := h.tie.write_down (b := l) hr hs (by omega) hd
  refine (m_write 0 h.many rfl (h.tie.small.more (by omega)) (rn : Int) s h.len h.row h.le.size).mono ?_
  rintro e w' ⟨rfl, hm, ho⟩
  rw [h1, h2] at *
  exact ⟨rfl, St.of_out h.md h.le (fun _ hg => .inl hg) h.tie.up hm ho⟩
/-- A write that is taken: the model is ahead of the disk. -/
theorem rn_write_ok {rn : Nat} {X : Nat → Prop} (ht : Tie w0 D dat wt lf n k) (hk : k ≤ 200) (hr : rn < 3) (hd : lf rn ≠ 0) (hs : 0 ≤ s ∧ s < 8) (hm : m ≤ 64) (hf : CallD.Fit w0 w0.heap.size ⟨kd, (rn : Int), s, .slice A m c, l, mask⟩) (hl : l.length = m)
    (hmany : Many w X [(d, D)]) (hX : ∀ g, MX w0.heap.size gm vs g → X g) (hle : Below w0.heap.size w0 w)
    (hmd : Md w w0.heap.size gm PC dat (fun q => if q = rn then wt rn ++ [⟨kd, (rn : Int), s, .slice A m c, l, mask⟩] else wt q) (fun q => if q = rn then (if lf rn > 0 then lf rn - 1 else lf rn) else lf q) vs) :
    Calls Try.prog 6 #[ptr d, .int .i64 (rn : Int), .int .i64 s, .slice A m c] w fun e w' => e = .returned (.int .i64 0) ∧ ∃ D2 wt2 lf2, St w0 w' gm d (n + 1) (k + 1) D2 PC dat wt2 lf2 vs := by
  obtain ⟨h1, h2⟩ := ht.write (x := ⟨kd, (rn : Int), s, .slice A m c, l, mask⟩) hr hd ⟨hs.1, hs.2, by show l.length ≤ 64; omega⟩ hf
  refine (m_write 0 hmany rfl (ht.small.more (by omega)) (rn : Int) s hl (hf.row.below hle) hle.size).mono ?_
  rintro e w' ⟨rfl, hm', ho⟩
  have h1' : D.wrCode (rn : Int) s l.length = 0 := h1
  rw [h1']
  exact ⟨rfl, _, _, _, St.of_out hmd hle hX h2 hm' ho⟩
theorem rn_barrier_none (h : SB w0 w gm d bx n k D PC dat wt lf vs kd r s A m c l mask) (hr : r < 0 ∨ 3 ≤ r) :
    Calls Try.prog 8 #[ptr d, .int .i64 r] w fun e w' => e = .returned (.int .i64 1) ∧ St w0 w' gm d n (k + 1) D PC dat wt lf vs := by
  obtain ⟨h1, h2⟩ := h.tie.barrier_none hr
  refine (barrier_many (i := 0) h.many rfl r).mono ?_
  rintro e w' ⟨rfl, hm, ho⟩
  rw [h1, h2] at *
  exact ⟨rfl, St.of_out h.md h.le (fun _ hg => .inl hg) h.tie.up hm ho⟩
theorem rn_barrier_down {rn : Nat} (h : SB w0 w gm d bx n k D PC dat wt lf vs kd (rn : Int) s A m c l mask) (hr : rn < 3) (hd : lf rn = 0) :
    Calls Try.prog 8 #[ptr d, .int .i64 (rn : Int)] w fun e w' => e = .returned (.int .i64 10) ∧ St w0 w' gm d n (k + 1) D PC dat wt lf vs := by
  obtain ⟨h1, h2⟩ := h.tie.barrier_down hr hd
  refine (barrier_many (i := 0) h.many rfl (rn : Int)).mono ?_
  rintro e w' ⟨rfl, hm, ho⟩
  rw [h1, h2] at *
  exact ⟨rfl, St.of_out h.md h.le (fun _ hg => .inl hg) h.tie.up hm ho⟩
/-- The model keeps: block gm alone turns. -/
theorem rn_keep {X : Nat → Prop} (hmd : Md w w0.heap.size gm PC dat wt lf vs) (hmany : Many w X [(d, D)]) (hgm : X gm) (hle : Below w0.heap.size w0 w) (hg0 : w0.heap.size ≤ gm) (mask : Nat) {rn : Nat} (hr : rn < 3) (hf : ∀ x ∈ wt rn, x.Fit w0 w0.heap.size) (hs : ∀ x ∈ wt rn, 0 ≤ x.s ∧ x.s < 8) (hn : (wt rn).length ≤ 200) :
    Calls Try.prog 7 #[ptr gm, .int .i64 (rn : Int), .int .u64 (mask : Int)] w fun e w' => e = .returned (.tuple #[]) ∧ (∃ PC', Md w' w0.heap.size gm PC' (fun q => if q = rn then kdat (bitOf mask) (wt rn) (dat rn) (wt rn).length else dat q) (fun q => if q = rn then [] else wt q) lf (fun q => if q = rn then .slice none 0 0 else vs q)) ∧ Many w' X [(d, D)] ∧ Below w0.heap.size w0 w' ∧ Kept (fun g => g = gm) w w' := by
  refine (hmd.keep mask hr (fun x hx => (hf x hx).below hle) hle.size hg0 hs hn).mono ?_
  rintro e w' ⟨rfl, h1, h2⟩
  refine ⟨rfl, h1, hmany.foreign h2 (fun g hg => .inl (hg ▸ hgm)), hle.trans (h2.below hle.size (fun g hg => by omega)), h2⟩
theorem rn_barrier_ok {rn : Nat} {PC' : Array Value} {X : Nat → Prop} (ht : Tie w0 D dat wt lf n k) (hr : rn < 3) (hd : lf rn ≠ 0) (hmany : Many w X [(d, D)]) (hX : ∀ g, MX w0.heap.size gm vs g → X g) (hle : Below w0.heap.size w0 w)
    (hmd : Md w w0.heap.size gm PC' (fun q => if q = rn then kdat (bitOf 18446744073709551615) (wt rn) (dat rn) (wt rn).length else dat q) (fun q => if q = rn then [] else wt q) lf vs) :
    Calls Try.prog 8 #[ptr d, .int .i64 (rn : Int)] w fun e w' => e = .returned (.int .i64 0) ∧ ∃ D2 dat2 wt2, St w0 w' gm d n (k + 1) D2 PC' dat2 wt2 lf vs := by
  obtain ⟨h1, h2⟩ := ht.barrier hr hd
  refine (barrier_many (i := 0) hmany rfl (rn : Int)).mono ?_
  rintro e w' ⟨rfl, hm', ho⟩
  rw [h1]
  exact ⟨rfl, _, _, _, St.of_out hmd hle hX h2 hm' ho⟩
theorem rn_arm {z : Int} (h : SB w0 w gm d bx n k D PC dat wt lf vs kd r z A m c l mask) :
    Calls Try.prog 10 #[ptr d, .int .i64 r, .int .i64 z] w fun e w' => e = .returned (.tuple #[]) ∧ Md w' w0.heap.size gm PC dat wt lf vs ∧ Many w' (MX w0.heap.size gm vs) [(d, D.ar r z)] ∧ Below w0.heap.size w0 w' := by
  refine (arm_many (i := 0) h.many rfl r z).mono ?_
  rintro e w' ⟨rfl, hm, ho⟩
  exact ⟨rfl, h.md.out ho (fun g hg => .inl (.inr hg)), hm.less (fun _ hg => .inl hg), h.le.trans (ho.below h.le.size (fun g hg => .inl (.inl hg)))⟩
theorem rn_crash (h : SB w0 w gm d bx n k D PC dat wt lf vs kd r s A m c l mask) (hk : k ≤ 200) :
    Calls Try.prog 9 #[ptr d, .int .u64 (mask : Int)] w fun e w' => e = .returned (.tuple #[]) ∧ Md w' w0.heap.size gm PC dat wt lf vs ∧ Many w' (fun g => MX w0.heap.size gm vs g ∨ g = bx) [(d, D.crash (bitOf mask))] ∧ Below w0.heap.size w0 w' ∧ Blk w' bx 36 #[.int .i64 kd, .int .i64 r, .int .i64 s, .slice A m c, .int .u64 (mask : Int)] := by
  refine (crash_many (i := 0) h.many rfl (h.tie.small.more (by omega)) mask).mono ?_
  rintro e w' ⟨rfl, hm, ho⟩
  exact ⟨rfl, h.md.out ho (fun g hg => .inl (.inr hg)), hm, h.le.trans (ho.below h.le.size (fun g hg => .inl (.inl hg))), ho.blk h.box (.inr rfl)⟩
end
end Go.Proofs.Ythlclhfepnmaeaa
