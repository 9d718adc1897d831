/-
  PackReads: the variables that its closure shares with it, and the closure's contract.
-/
import Derived.Test.YtalojooicpkdhaaBack
import Derived.Lib.ConvBytes
namespace Go.Proofs.Ytalojooicpkdhaa
open Go.RowKit

/-- The variables b (block x), at (block y) and bad (block z). -/
structure Env (w : World) (B x y z : Nat) (A : Option Addr) (c : Nat) (l : List UInt8) (m : Nat) (bad : Bool) : Prop where
  vb : Blk w x 22 #[.slice A l.length c]
  va : Blk w y 3 #[.int .i64 (m : Int)]
  vd : Blk w z 4 #[.bool bad]
  row : Row w B (.slice A l.length c) (u8s l)
  bx : B ≤ x
  xy : x < y
  yz : y < z
  le : m ≤ l.length
section
variable {w w' : World} {B x y z : Nat} {A : Option Addr} {c : Nat} {l : List UInt8} {m : Nat} {bad : Bool}
theorem Env.cb (h : Env w B x y z A c l m bad) : w.cell? ⟨x, 0, none⟩ = some (.slice A l.length c) := h.vb.cell 0 _ rfl
theorem Env.ca (h : Env w B x y z A c l m bad) : w.cell? ⟨y, 0, none⟩ = some (.int .i64 (m : Int)) := h.va.cell 0 _ rfl
theorem Env.cd (h : Env w B x y z A c l m bad) : w.cell? ⟨z, 0, none⟩ = some (.bool bad) := h.vd.cell 0 _ rfl
theorem Env.fa (h : Env w B x y z A c l m bad) : w.frozen? ⟨y, 0, none⟩ = false := h.va.frozen 0
theorem Env.fd (h : Env w B x y z A c l m bad) : w.frozen? ⟨z, 0, none⟩ = false := h.vd.frozen 0
theorem Env.keep {row : Option Nat} (h : Env w B x y z A c l m bad) (hg : w.grownBy w' row) (hr : ∀ k, row = some k → B ≤ k ∧ k ≠ x ∧ k ≠ y ∧ k ≠ z) : Env w' B x y z A c l m bad := by
  have e : ∀ k, k < w.heap.size → k = x ∨ k = y ∨ k = z ∨ k < B → w'.heap[k]? = w.heap[k]? := fun k hk hc => hg.block k hk (fun e => by have := hr k e.symm; omega)
  refine ⟨(e x h.vb.lt (by simp)).trans h.vb, (e y h.va.lt (by simp)).trans h.va, (e z h.vd.lt (by simp)).trans h.vd, h.row.keep fun p hp => World.cell?_of_block (e p.block ?_ (by omega)), h.bx, h.xy, h.yz, h.le⟩
  have := h.vb.lt
  have := h.bx
  omega
theorem Env.alloc (h : Env w B x y z A c l m bad) (o : Obj) : Env (w.alloc o) B x y z A c l m bad := h.keep (World.grownBy_alloc w o none) (by simp)
theorem Env.below (h : Env w B x y z A c l m bad) (hb : Below w.heap.size w w') : Env w' B x y z A c l m bad :=
  h.keep (row := none) ⟨hb.os, hb.tape, hb.output, hb.size, fun k hk _ => hb.block k hk⟩ (by simp)
theorem Env.setBad (h : Env w B x y z A c l m bad) (b : Bool) : Env (w.setCell ⟨z, 0, none⟩ (.bool b)) B x y z A c l m b :=
  ⟨h.vb.far (by have := h.xy; have := h.yz; show x ≠ z; omega) _, h.va.far (by have := h.yz; show y ≠ z; omega) _, (h.vd.set_ 0 (.bool b)), h.row.setCell (by have := h.bx; have := h.xy; have := h.yz; show B ≤ z; omega) _, h.bx, h.xy, h.yz, h.le⟩
theorem Env.setAt (h : Env w B x y z A c l m bad) (n : Nat) (hn : n ≤ l.length) : Env (w.setCell ⟨y, 0, none⟩ (.int .i64 (n : Int))) B x y z A c l n bad :=
  ⟨h.vb.far (by have := h.xy; show x ≠ y; omega) _, (h.va.set_ 0 (.int .i64 (n : Int))), h.vd.far (by have := h.yz; show z ≠ y; omega) _, h.row.setCell (by have := h.bx; have := h.xy; show B ≤ y; omega) _, h.bx, h.xy, h.yz, hn⟩
theorem Env.rd (h : Env w B x y z A c l m bad) : Rd w (.slice A l.length c) (u8s l) := h.row.more (by have := h.vb.lt; have := h.bx; omega)
theorem run_mid {P : Program} {t : TypeId} (ht : P.underlying t = some (.slice (P.elem t))) (hs : ∀ w, (sizeOf (P.elem t)).run P w = .ok 1 w) (A : Option Addr) (n c p q : Nat) (hpq : p ≤ q) (hq : q ≤ c) (w : World) :
    (Instr.slice t (.slice A n c) (some (.int .i64 (p : Int))) (some (.int .i64 (q : Int))) none).run P w = .ok (.slice (hiA A c p) (q - p) (c - p)) w := by
  rw [run_slice_lh w t A n c ht .i64 .i64 p q (by omega) (by omega) (by omega), hs]
  simp [Result.andThen, sliced, hiA]
/-- string(b[p:p+k]). -/
theorem Env.part (h : Env w B x y z A c l m bad) (p k : Nat) (hk : p + k ≤ l.length) : (convert 22 9 (.slice (hiA A c p) k (c - p))).run Try.prog w = .ok (.string ⟨((l.drop p).take k).toArray⟩) w := by
  have h1 : Rd w (.slice (hiA A c p) (l.length - p) (c - p)) (u8s (l.drop p)) := Rd.high h.rd (by omega)
  have h2 : Rd w (.slice (hiA A c p) k (c - p)) (u8s ((l.drop p).take k)) := Rd.low h1 (by omega)
  have hl : ((l.drop p).take k).length = k := by rw [List.length_take, List.length_drop]; omega
  have := conv_rd (l := (l.drop p).take k) (A := hiA A c p) (c := c - p) (by rw [hl]; exact h2)
  rwa [hl] at this

/-- The state that the variables stand for. -/
def stOf (l : List UInt8) (m : Nat) (bad : Bool) : St := ⟨l.drop m, bad⟩

theorem part_fails (n : Int) (h : Env w B x y z A c l m bad) (hc : (stOf l m bad).can n = false) (hm : l.length ≤ 1000) :
    Calls Try.prog 10 #[.int .i64 n, ptr z, ptr x, ptr y] w fun e w' => e = .returned (.string ⟨#[]⟩) ∧ Env w' B x y z A c l m true ∧ Below y w w' ∧ ∀ p : Addr, p.block ≠ y → p.block ≠ z → w'.cell? p = w.cell? p := by
  have c1 := h.cb
  have c2 := h.ca
  have c3 := h.cd
  have f3 := h.fd
  have hle := h.le
  have h1 := h.setBad true
  have d3 := h1.cd
  have H1 := hide h1
  have hyz := h.yz
  clear h1
  unfold stOf St.can at hc
  unfold ptr
  cases bad
  · by_cases h0 : n < 0
    · clear hc
      go_enter Try.func10, Try.ntmps10
      go_wp2
      go_ret
      exact ⟨rfl, H1.out, (Below.refl _ _).setCell (Nat.le_of_lt hyz) _, fun p _ h2 => World.cell?_setCell_other _ _ _ _ (fun e => by subst e; exact h2 rfl)⟩
    · have h2 : (l.length : Int) - (m : Int) < n := by
        simp at hc
        omega
      clear hc
      go_enter Try.func10, Try.ntmps10
      go_wp2
      go_ret
      exact ⟨rfl, H1.out, (Below.refl _ _).setCell (Nat.le_of_lt hyz) _, fun p _ h2 => World.cell?_setCell_other _ _ _ _ (fun e => by subst e; exact h2 rfl)⟩
  · clear hc
    go_enter Try.func10, Try.ntmps10
    go_wp2
    go_ret
    exact ⟨rfl, H1.out, (Below.refl _ _).setCell (Nat.le_of_lt hyz) _, fun p _ h2 => World.cell?_setCell_other _ _ _ _ (fun e => by subst e; exact h2 rfl)⟩
theorem part_takes (k : Nat) (h : Env w B x y z A c l m false) (hk : m + k ≤ l.length) (hm : l.length ≤ 1000) :
    Calls Try.prog 10 #[.int .i64 (k : Int), ptr z, ptr x, ptr y] w fun e w' => e = .returned (.string ⟨((l.drop m).take k).toArray⟩) ∧ Env w' B x y z A c l (m + k) false ∧ Below y w w' ∧ ∀ p : Addr, p.block ≠ y → p.block ≠ z → w'.cell? p = w.cell? p := by
  have c1 := h.cb
  have c2 := h.ca
  have c3 := h.cd
  have f3 := h.fd
  have hle := h.le
  have h1 := h.setBad false
  have d2 := h1.ca
  have d3 := h1.cd
  have f2 := h1.fa
  have h2 := h1.setAt (m + k) hk
  have e1 := h2.cb
  have e2 := h2.ca
  have hcl : l.length ≤ c := by obtain ⟨_, _, he, hc, _⟩ := h.row; injection he with _ _ e3; rw [u8s_length] at hc; omega
  have hsl := fun W => run_mid (P := Try.prog) slice8 size8 A l.length c m (m + k) (by omega) (by omega) W
  rw [show m + k - m = k by omega] at hsl
  have hcv := h2.part m k hk
  rw [Int.natCast_add] at hsl e1 e2 hcv
  have H2 := hide h2
  have hyz := h.yz
  have k0 : decide ((k : Int) < 0) = false := decide_eq_false (by omega)
  have k1 : decide ((l.length : Int) - (m : Int) < (k : Int)) = false := decide_eq_false (by omega)
  clear h1 h2
  unfold ptr
  go_enter Try.func10, Try.ntmps10
  go_wp2
  go_ret
  have H3 := H2.out
  rw [Int.natCast_add] at H3
  exact ⟨rfl, H3, ((Below.refl _ _).setCell (p := ⟨z, 0, none⟩) (Nat.le_of_lt hyz) _).setCell (p := ⟨y, 0, none⟩) (Nat.le_refl _) _,
    fun p h1 h2 => (World.cell?_setCell_other _ _ _ _ (fun e => by subst e; exact h1 rfl)).trans (World.cell?_setCell_other _ _ _ _ (fun e => by subst e; exact h2 rfl))⟩
theorem part_any (n : Int) (h : Env w B x y z A c l m bad) (hm : l.length ≤ 1000) :
    Calls Try.prog 10 #[.int .i64 n, ptr z, ptr x, ptr y] w fun e w' => ∃ m' bad', e = .returned (.string ⟨((stOf l m bad).got n).toArray⟩) ∧ (stOf l m bad).take n = stOf l m' bad' ∧ Env w' B x y z A c l m' bad' ∧ Below y w w' ∧ ∀ p : Addr, p.block ≠ y → p.block ≠ z → w'.cell? p = w.cell? p := by
  cases hc : (stOf l m bad).can n
  · refine (part_fails n h hc hm).mono ?_
    rintro e w' ⟨rfl, h1, h2, h3⟩
    refine ⟨m, true, ?_, ?_, h1, h2, h3⟩
    · unfold St.got; rw [if_neg (by rw [hc]; exact Bool.false_ne_true)]
    · unfold St.take; rw [if_neg (by rw [hc]; exact Bool.false_ne_true)]; rfl
  · have hc' := hc
    unfold stOf St.can at hc'
    simp at hc'
    obtain ⟨⟨hb, h0⟩, h1⟩ := hc'
    subst hb
    obtain ⟨k, rfl⟩ : ∃ k : Nat, n = (k : Int) := ⟨n.toNat, by omega⟩
    have hle := h.le
    refine (part_takes k h (by omega) hm).mono ?_
    rintro e w' ⟨rfl, h1, h2, h3⟩
    refine ⟨m + k, false, ?_, ?_, h1, h2, h3⟩
    · unfold St.got; rw [if_pos hc]; rfl
    · unfold St.take; rw [if_pos hc]; simp [stOf, List.drop_drop]
/-- As the walk meets it. -/
theorem part_at (n : Int) (h : Env w B x y z A c l m bad) (hm : l.length ≤ 1000) :
    Calls Try.prog 10 #[.int .i64 n, .pointer (some ⟨z, 0, none⟩), .pointer (some ⟨x, 0, none⟩), .pointer (some ⟨y, 0, none⟩)] w fun e w' => ∃ m' bad', e = .returned (.string ⟨((stOf l m bad).got n).toArray⟩) ∧ (stOf l m bad).take n = stOf l m' bad' ∧ Env w' B x y z A c l m' bad' ∧ Below y w w' ∧ ∀ p : Addr, p.block ≠ y → p.block ≠ z → w'.cell? p = w.cell? p := part_any n h hm
end
theorem bad_st {w : World} {lo g : Nat} {l : List UInt8} {m : Nat} {bad : Bool} (h : Rdr w lo g (stOf l m bad)) : Calls Try.prog 14 #[ptr g] w fun e w' => e = .returned (.bool bad) ∧ w = w' := bad_any h
theorem rest_st {w : World} {lo g : Nat} {l : List UInt8} {m : Nat} {bad : Bool} (h : Rdr w lo g (stOf l m bad)) (hm : m ≤ l.length) : Calls Try.prog 15 #[ptr g] w fun e w' => e = .returned (.int .i64 ((l.length : Int) - (m : Int))) ∧ w = w' := by
  have := rest_any h
  rwa [show ((stOf l m bad).rest.length : Int) = (l.length : Int) - (m : Int) by simp [stOf]; omega] at this
theorem Rdr.low {w w' : World} {B lo g : Nat} {s : St} (h : Rdr w lo g s) (hb : Below B w w') (hg : g < B) : Rdr w' lo g s := by
  obtain ⟨hlo, A, c, hblk, hrow, hk⟩ := h
  exact ⟨hlo, A, c, (hb.block g hg).trans hblk, hrow.below (hb.mono (by omega)), hk⟩
theorem Below.drewN {B : Nat} {a w : World} (h : Below B a w) (n : Nat) : Below B a (w.drewN n) := ⟨h.os, h.tape, h.output, h.size, h.block⟩
theorem Env.drewN {w : World} {B x y z : Nat} {A : Option Addr} {c : Nat} {l : List UInt8} {m : Nat} {bad : Bool} (h : Env w B x y z A c l m bad) (n : Nat) : Env (w.drewN n) B x y z A c l m bad :=
  h.keep (row := none) ⟨rfl, rfl, rfl, Nat.le_refl _, fun _ _ _ => rfl⟩ (by simp)
/-- '[]byte(s)' of a string that is no constant. -/
def strW (w : World) (l : List UInt8) : World := Lib.bytesWorld w 5 ⟨l.toArray⟩
def strC (w : World) (l : List UInt8) : Nat := grownCap w l.length 0 5
theorem run_str (l : List UInt8) (w : World) : (convert 9 22 (.string ⟨l.toArray⟩)).run Try.prog w = .ok (.slice (some ⟨w.heap.size, 0, none⟩) l.length (strC w l)) (strW w l) := by
  have h := Lib.run_convert_string_bytes (P := Try.prog) w 9 22 5 ⟨l.toArray⟩ Try.underlying9 Try.underlying22 Try.underlying5
  have hl : (⟨l.toArray⟩ : ByteArray).size = l.length := by show l.toArray.size = _; simp
  rw [h, hl]
  rfl
theorem strW_grown (w : World) (l : List UInt8) : w.grownBy (strW w l) none := by
  refine ⟨rfl, rfl, rfl, ?_, fun k hk _ => Lib.bytesWorld_at_old w _ _ k hk⟩
  unfold strW
  rw [Lib.bytesWorld_size]
  omega
theorem strW_cell (w : World) (l : List UInt8) (j : Nat) (hj : j < l.length) : (strW w l).cell? ⟨w.heap.size, j, none⟩ = some (.int .u8 (l[j].toNat : Int)) := by
  have hl : (⟨l.toArray⟩ : ByteArray).size = l.length := by show l.toArray.size = _; simp
  have h := Lib.bytesWorld_cell w 5 ⟨l.toArray⟩ j (by rw [hl]; exact hj)
  rw [show strW w l = Lib.bytesWorld w 5 ⟨l.toArray⟩ from rfl, h]
  simp [List.getD, hj]
/-- Num, of the variables' state: 'n' from 1 to 8 or not. -/
theorem num_kind (l : List UInt8) (m : Nat) (bad b1 : Bool) (n : Int) (h : b1 = (bad || !(decide (1 ≤ n) && decide (n ≤ 8)))) :
    (stOf l m bad).num n = val ((stOf l m b1).got n) ∧ (stOf l m bad).numSt n = (stOf l m b1).take n ∧ ((stOf l m b1).got n).length ≤ 8 := by
  by_cases hn : 1 ≤ n ∧ n ≤ 8
  · have hb : b1 = bad := by rw [h]; simp [hn]
    rw [hb]
    refine ⟨?_, ?_, St.got_le _ _ hn.2⟩
    · unfold St.num; rw [if_pos hn]
    · unfold St.numSt; rw [if_pos hn]
  · have hb : b1 = true := by rw [h]; simp; omega
    rw [hb]
    have hc : (stOf l m true).can n = false := by simp [stOf, St.can]
    have hg : (stOf l m true).got n = [] := by unfold St.got; rw [if_neg (by rw [hc]; exact Bool.false_ne_true)]
    refine ⟨?_, ?_, by rw [hg]; simp⟩
    · unfold St.num; rw [if_neg hn, hg]; rfl
    · unfold St.numSt St.take; rw [if_neg hn, if_neg (by rw [hc]; exact Bool.false_ne_true)]; rfl
theorem text_kind (l : List UInt8) (m : Nat) (bad : Bool) (m4 : Nat) (b4 : Bool) (h : (stOf l m bad).take 1 = stOf l m4 b4) :
    (((stOf l m bad).got 1 = [] ∧ (stOf l m bad).text = (stOf l m4 b4).got 0 ∧ (stOf l m bad).textSt = (stOf l m4 b4).take 0) ∨
      ∃ b, (stOf l m bad).got 1 = [b] ∧ (stOf l m bad).text = (stOf l m4 b4).got (b.toNat : Int) ∧ (stOf l m bad).textSt = (stOf l m4 b4).take (b.toNat : Int)) := by
  have e1 : (stOf l m bad).numSt 1 = stOf l m4 b4 := by unfold St.numSt; rw [if_pos (by omega)]; exact h
  have e2 : (stOf l m bad).num 1 = val ((stOf l m bad).got 1) := by unfold St.num; rw [if_pos (by omega)]
  have hl : ((stOf l m bad).got 1).length ≤ 1 := by
    unfold St.got
    split
    · rw [List.length_take]; omega
    · simp
  unfold St.text St.textSt
  rw [e1, e2]
  match hg : (stOf l m bad).got 1, hl with
  | [], _ => exact .inl ⟨rfl, rfl, rfl⟩
  | [b], _ => exact .inr ⟨b, rfl, by simp [val], by simp [val]⟩
end Go.Proofs.Ytalojooicpkdhaa
