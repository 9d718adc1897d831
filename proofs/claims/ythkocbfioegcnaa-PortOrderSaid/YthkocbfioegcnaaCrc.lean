/-
  Plain mathematics of the check sum of layer 1, no Go in it: the register of 32 bits, one bit step, one byte step, a text.
-/
namespace Go.Proofs.Ythkocbfioegcnaa.Crc

/-- The polynomial, its bits reversed. -/
def poly : BitVec 32 := 0xEDB88320#32
/-- One bit of the division. -/
def bitStep (r : BitVec 32) : BitVec 32 := bif r.getLsbD 0 then (r >>> 1) ^^^ poly else r >>> 1
/-- k bits of the division. -/
def steps : Nat → BitVec 32 → BitVec 32
  | 0, r => r
  | k + 1, r => bitStep (steps k r)
/-- A byte in 32 bits. -/
def wide (b : UInt8) : BitVec 32 := b.toBitVec.setWidth 32
/-- One byte of a text. -/
def byteStep (r : BitVec 32) (b : UInt8) : BitVec 32 := steps 8 (r ^^^ wide b)
/-- The register behind a text. -/
def reg (r : BitVec 32) (l : List UInt8) : BitVec 32 := l.foldl byteStep r
/-- The check sum of a text. -/
def crc (l : List UInt8) : BitVec 32 := ~~~ (reg (BitVec.allOnes 32) l)

theorem reg_append (r : BitVec 32) (a b : List UInt8) : reg r (a ++ b) = reg (reg r a) b := List.foldl_append ..
theorem reg_cons (r : BitVec 32) (x : UInt8) (l : List UInt8) : reg r (x :: l) = reg (byteStep r x) l := rfl
theorem reg_nil (r : BitVec 32) : reg r [] = r := rfl
theorem crc_nil : crc [] = 0#32 := by decide

theorem poly_top : poly.getLsbD 31 = true := by decide

theorem xor_swap (a b c d : BitVec 32) : (a ^^^ b) ^^^ (c ^^^ d) = (a ^^^ c) ^^^ (b ^^^ d) := by
  ext i hi
  simp only [BitVec.getElem_xor]
  cases a[i] <;> cases b[i] <;> cases c[i] <;> cases d[i] <;> rfl
theorem bitStep_xor (a b : BitVec 32) : bitStep (a ^^^ b) = bitStep a ^^^ bitStep b := by
  unfold bitStep
  rw [BitVec.getLsbD_xor, BitVec.ushiftRight_xor_distrib]
  cases a.getLsbD 0 <;> cases b.getLsbD 0 <;>
    first | rfl | (ext i hi; simp only [Bool.xor_true, Bool.xor_false, Bool.not_true, Bool.not_false, cond_true, cond_false, BitVec.getElem_xor]; cases (a >>> 1)[i] <;> cases (b >>> 1)[i] <;> cases poly[i] <;> rfl)
theorem steps_xor (k : Nat) (a b : BitVec 32) : steps k (a ^^^ b) = steps k a ^^^ steps k b := by
  induction k with
  | zero => rfl
  | succ k ih => simp only [steps, ih, bitStep_xor]
theorem steps_add (j k : Nat) (a : BitVec 32) : steps (j + k) a = steps j (steps k a) := by
  induction j with
  | zero => rw [Nat.zero_add]; rfl
  | succ j ih => rw [Nat.succ_add]; simp only [steps, ih]
theorem bitStep_zero : bitStep 0#32 = 0#32 := by decide
theorem steps_zero (k : Nat) : steps k 0#32 = 0#32 := by
  induction k with
  | zero => rfl
  | succ k ih => simp only [steps, ih, bitStep_zero]

/-- The bit step loses nothing: its kernel is zero. -/
theorem bitStep_ker (d : BitVec 32) (h : bitStep d = 0#32) : d = 0#32 := by
  unfold bitStep at h
  cases h0 : d.getLsbD 0
  · rw [h0, cond_false] at h
    apply BitVec.eq_of_getLsbD_eq
    intro i hi
    rcases Nat.eq_zero_or_pos i with rfl | hp
    · rw [h0]; rfl
    · have h1 := congrArg (fun x : BitVec 32 => x.getLsbD (i - 1)) h
      simp only [BitVec.getLsbD_ushiftRight, BitVec.getLsbD_zero] at h1
      rw [show 1 + (i - 1) = i by omega] at h1
      rw [h1]; exact (BitVec.getLsbD_zero).symm
  · rw [h0, cond_true] at h
    have h1 := congrArg (fun x : BitVec 32 => x.getLsbD 31) h
    simp only [BitVec.getLsbD_xor, BitVec.getLsbD_ushiftRight, BitVec.getLsbD_zero, poly_top] at h1
    rw [BitVec.getLsbD_of_ge d (1 + 31) (by omega)] at h1
    exact absurd h1 (by decide)
theorem xor_eq_zero {a b : BitVec 32} (h : a ^^^ b = 0#32) : a = b := by
  ext i hi
  have h1 := congrArg (fun x : BitVec 32 => x[i]) h
  simp only [BitVec.getElem_xor, BitVec.getElem_zero] at h1
  revert h1
  cases a[i] <;> cases b[i] <;> decide
theorem bitStep_inj {a b : BitVec 32} (h : bitStep a = bitStep b) : a = b := by
  apply xor_eq_zero
  apply bitStep_ker
  rw [bitStep_xor, h, BitVec.xor_self]
theorem steps_inj (k : Nat) {a b : BitVec 32} (h : steps k a = steps k b) : a = b := by
  induction k with
  | zero => exact h
  | succ k ih => exact ih (bitStep_inj h)
theorem xor_left_inj {a b c : BitVec 32} (h : a ^^^ c = b ^^^ c) : a = b := by
  have := congrArg (· ^^^ c) h
  simpa [BitVec.xor_assoc] using this
theorem xor_right_inj {a b c : BitVec 32} (h : c ^^^ a = c ^^^ b) : a = b := by
  rw [BitVec.xor_comm c a, BitVec.xor_comm c b] at h
  exact xor_left_inj h
theorem wide_inj {a b : UInt8} (h : wide a = wide b) : a = b := by
  unfold wide at h
  have h1 := congrArg BitVec.toNat h
  simp only [BitVec.toNat_setWidth] at h1
  have ha := a.toBitVec.isLt
  have hb := b.toBitVec.isLt
  rw [Nat.mod_eq_of_lt (by omega), Nat.mod_eq_of_lt (by omega)] at h1
  have : a.toBitVec = b.toBitVec := BitVec.eq_of_toNat_eq h1
  exact UInt8.toBitVec_inj.1 this
theorem byteStep_inj_reg {r s : BitVec 32} {b : UInt8} (h : byteStep r b = byteStep s b) : r = s := xor_left_inj (steps_inj 8 h)
theorem byteStep_inj_byte {r : BitVec 32} {a b : UInt8} (h : byteStep r a = byteStep r b) : a = b := wide_inj (xor_right_inj (steps_inj 8 h))
theorem reg_inj {r s : BitVec 32} (l : List UInt8) (h : reg r l = reg s l) : r = s := by
  induction l generalizing r s with
  | nil => exact h
  | cons x l ih => exact byteStep_inj_reg (ih h)
theorem crc_inj_reg {a b : List UInt8} : crc a = crc b ↔ reg (BitVec.allOnes 32) a = reg (BitVec.allOnes 32) b := by
  unfold crc
  constructor
  · intro h
    have := congrArg (fun x : BitVec 32 => ~~~ x) h
    simpa using this
  · intro h; rw [h]

/-- Another byte at one place: another sum. -/
theorem crc_one_other (p s : List UInt8) {a b : UInt8} (h : a ≠ b) : crc (p ++ a :: s) ≠ crc (p ++ b :: s) := by
  intro e
  rw [crc_inj_reg, reg_append, reg_append, reg_cons, reg_cons] at e
  exact h (byteStep_inj_byte (reg_inj s e))
theorem crc_last_other (p : List UInt8) {a b : UInt8} (h : a ≠ b) : crc (p ++ [a]) ≠ crc (p ++ [b]) := crc_one_other p [] h
theorem crc_single (a b : UInt8) : crc [a] = crc [b] ↔ a = b := by
  constructor
  · intro h
    by_cases e : a = b
    · exact e
    · exact absurd h (crc_one_other [] [] e)
  · intro h; rw [h]

/-- No byte but zero is its own entry of the table. -/
theorem table_moves : ∀ n : Fin 256, n.val ≠ 0 → steps 8 (BitVec.ofNat 32 n.val) ≠ BitVec.ofNat 32 n.val := by decide +kernel
theorem wide_xor (a b : UInt8) : wide (a ^^^ b) = wide a ^^^ wide b := by
  unfold wide
  rw [UInt8.toBitVec_xor, BitVec.setWidth_xor]
theorem wide_ofNat (a : UInt8) : wide a = BitVec.ofNat 32 a.toNat := by
  unfold wide
  apply BitVec.eq_of_toNat_eq
  simp [BitVec.toNat_setWidth]
theorem wide_moves (d : UInt8) (h : d ≠ 0) : steps 8 (wide d) ≠ wide d := by
  rw [wide_ofNat]
  refine table_moves ⟨d.toNat, d.toNat_lt⟩ ?_
  intro e
  apply h
  exact UInt8.toNat_inj.1 e
theorem crc_swap_other (p s : List UInt8) {a b : UInt8} (h : a ≠ b) : crc (p ++ a :: b :: s) ≠ crc (p ++ b :: a :: s) := by
  intro e
  rw [crc_inj_reg, reg_append, reg_append, reg_cons, reg_cons, reg_cons, reg_cons] at e
  have e1 := reg_inj s e
  unfold byteStep at e1
  have e2 := steps_inj 8 e1
  rw [steps_xor, steps_xor] at e2
  rw [BitVec.xor_assoc, BitVec.xor_assoc] at e2
  have e3 := xor_right_inj e2
  apply wide_moves (a ^^^ b)
  · intro e4
    apply h
    have := congrArg (· ^^^ b) e4
    simpa [UInt8.xor_assoc] using this
  · rw [wide_xor, steps_xor]
    apply xor_eq_zero
    rw [BitVec.xor_comm (wide a) (wide b), xor_swap, e3, BitVec.xor_self]

/-- Sums part as texts do. -/
theorem reg_xor (a b : List UInt8) (h : a.length = b.length) (r s : BitVec 32) : reg (r ^^^ s) (List.zipWith (· ^^^ ·) a b) = reg r a ^^^ reg s b := by
  induction a generalizing b r s with
  | nil =>
    cases b with
    | nil => rfl
    | cons y b => simp at h
  | cons x a ih =>
    cases b with
    | nil => simp at h
    | cons y b =>
      rw [List.zipWith_cons_cons, reg_cons, reg_cons, reg_cons]
      have : byteStep (r ^^^ s) (x ^^^ y) = byteStep r x ^^^ byteStep s y := by
        unfold byteStep
        rw [wide_xor, xor_swap, steps_xor]
      rw [this]
      exact ih b (by simpa using h) _ _
theorem zip_zero (a : List UInt8) : List.zipWith (· ^^^ ·) a (List.replicate a.length 0) = a := by
  induction a with
  | nil => rfl
  | cons x a ih => rw [List.length_cons, List.replicate_succ, List.zipWith_cons_cons, ih]; simp
theorem not_eq_xor (x : BitVec 32) : ~~~ x = x ^^^ BitVec.allOnes 32 := by
  ext i hi
  rw [BitVec.getElem_not, BitVec.getElem_xor, BitVec.getElem_allOnes]
  cases x[i] <;> rfl
theorem shr_shr (x : BitVec 32) (m n : Nat) : x >>> m >>> n = x >>> (m + n) := (BitVec.shiftRight_add x m n).symm
theorem crc_xor (a b : List UInt8) (h : a.length = b.length) : crc (List.zipWith (· ^^^ ·) a b) = (crc a ^^^ crc b) ^^^ crc (List.replicate a.length 0) := by
  have hz := zip_zero (List.zipWith (· ^^^ ·) a b)
  have hl : (List.zipWith (· ^^^ ·) a b : List UInt8).length = a.length := by simp [h]
  have h3 := reg_xor (List.zipWith (· ^^^ ·) a b) (List.replicate a.length 0) (by simp [h]) (BitVec.allOnes 32 ^^^ BitVec.allOnes 32) (BitVec.allOnes 32)
  rw [hl] at hz
  have h0 : BitVec.allOnes 32 ^^^ BitVec.allOnes 32 ^^^ BitVec.allOnes 32 = BitVec.allOnes 32 := by decide
  rw [hz, reg_xor a b h (BitVec.allOnes 32) (BitVec.allOnes 32), h0] at h3
  unfold crc
  rw [h3]
  simp only [not_eq_xor]
  generalize reg _ a = x
  generalize reg _ b = y
  generalize reg _ (List.replicate _ _) = z
  ext i hi
  simp only [BitVec.getElem_xor]
  cases x[i] <;> cases y[i] <;> cases z[i] <;> simp

/-- Eight steps of a register whose last eight bits are clear: it moves down. -/
theorem steps_clear (k : Nat) (r : BitVec 32) (h : ∀ i, i < k → r.getLsbD i = false) : steps k r = r >>> k := by
  induction k with
  | zero => simp [steps]
  | succ k ih =>
    rw [steps, ih (fun i hi => h i (by omega))]
    unfold bitStep
    rw [BitVec.getLsbD_ushiftRight, Nat.add_zero, h k (by omega), cond_false, shr_shr]
/-- A byte of a word, by its place. -/
def byteOf (c : BitVec 32) (k : Nat) : UInt8 := UInt8.ofBitVec ((c >>> (8 * k)).setWidth 8)
theorem wide_byteOf (c : BitVec 32) (k : Nat) : wide (byteOf c k) = (c >>> (8 * k)) &&& 255#32 := by
  unfold wide byteOf
  apply BitVec.eq_of_getLsbD_eq
  intro i hi
  simp only [BitVec.getLsbD_setWidth, BitVec.getLsbD_and]
  have h255 : (255#32).getLsbD i = decide (i < 8) := by
    revert i; decide
  rw [h255]
  by_cases h8 : i < 8 <;> simp [h8, hi]
theorem byteStep_word (r c : BitVec 32) : byteStep r (byteOf c 0) = steps 8 (r ^^^ c) ^^^ (c >>> 8) := by
  unfold byteStep
  rw [wide_byteOf]
  have h : r ^^^ ((c >>> (8 * 0)) &&& 255#32) = (r ^^^ c) ^^^ (c &&& ~~~ 255#32) := by
    ext i hi
    simp only [BitVec.getElem_xor, BitVec.getElem_and, BitVec.getElem_not, Nat.mul_zero, BitVec.ushiftRight_zero]
    cases r[i] <;> cases c[i] <;> cases (255#32)[i] <;> rfl
  rw [h, steps_xor]
  congr 1
  rw [steps_clear]
  · apply BitVec.eq_of_getLsbD_eq
    intro i hi
    simp only [BitVec.getLsbD_ushiftRight, BitVec.getLsbD_and, BitVec.getLsbD_not]
    by_cases h32 : 8 + i < 32
    · have : (255#32).getLsbD (8 + i) = false := by
        have : ∀ j : Fin 24, (255#32).getLsbD (8 + j.val) = false := by decide
        exact this ⟨i, by omega⟩
      rw [this]; simp only [h32, decide_true, Bool.not_false, Bool.and_true]
    · rw [BitVec.getLsbD_of_ge c _ (by omega)]; rfl
  · intro i hi
    simp only [BitVec.getLsbD_and, BitVec.getLsbD_not]
    have : ∀ j : Fin 8, (255#32).getLsbD j.val = true := by decide
    rw [this ⟨i, hi⟩]
    simp
theorem byteOf_shift (c : BitVec 32) (k : Nat) : byteOf (c >>> 8) k = byteOf c (k + 1) := by
  unfold byteOf
  rw [shr_shr]
  congr 3
  omega
/-- The four bytes of a word, the lowest one first: 32 steps of the register and the word. -/
theorem reg_word (r c : BitVec 32) : reg r [byteOf c 0, byteOf c 1, byteOf c 2, byteOf c 3] = steps 32 (r ^^^ c) := by
  simp only [reg_cons, reg_nil]
  rw [byteStep_word r c]
  rw [← byteOf_shift c 0, byteStep_word]
  rw [BitVec.xor_assoc, BitVec.xor_self, BitVec.xor_zero, ← steps_add]
  rw [← byteOf_shift c 1, ← byteOf_shift (c >>> 8) 0, byteStep_word]
  rw [BitVec.xor_assoc, BitVec.xor_self, BitVec.xor_zero, ← steps_add]
  rw [← byteOf_shift c 2, ← byteOf_shift (c >>> 8) 1, ← byteOf_shift (c >>> 8 >>> 8) 0, byteStep_word]
  rw [BitVec.xor_assoc, BitVec.xor_self, BitVec.xor_zero, ← steps_add]
  have : c >>> 8 >>> 8 >>> 8 >>> 8 = 0#32 := by
    rw [shr_shr, shr_shr, shr_shr]
    apply BitVec.eq_of_getLsbD_eq
    intro i hi
    rw [BitVec.getLsbD_ushiftRight, BitVec.getLsbD_of_ge c _ (by omega), BitVec.getLsbD_zero]
  rw [this, BitVec.xor_zero]
theorem residue : ~~~ (steps 32 (BitVec.allOnes 32)) = 0x2144DF1C#32 := by decide +kernel
theorem crc_own (b : List UInt8) : crc (b ++ [byteOf (crc b) 0, byteOf (crc b) 1, byteOf (crc b) 2, byteOf (crc b) 3]) = 0x2144DF1C#32 := by
  show ~~~ reg _ _ = _
  rw [reg_append, reg_word]
  have : reg (BitVec.allOnes 32) b ^^^ crc b = BitVec.allOnes 32 := by
    unfold crc
    rw [not_eq_xor, ← BitVec.xor_assoc, BitVec.xor_self, BitVec.zero_xor]
  rw [this, residue]

/-- The statement's own way: the text's bits one by one beside the register. -/
def slowBit (x : UInt8) (c : BitVec 32) (i : Nat) : BitVec 32 := bif (c.getLsbD 0).xor ((wide x).getLsbD i) then (c >>> 1) ^^^ poly else c >>> 1
def slowBits (x : UInt8) : Nat → BitVec 32 → BitVec 32
  | 0, c => c
  | k + 1, c => slowBit x (slowBits x k c) k
theorem slowBits_eq (x : UInt8) (k : Nat) (c : BitVec 32) : steps k (c ^^^ wide x) = slowBits x k c ^^^ (wide x >>> k) := by
  induction k with
  | zero => simp [steps, slowBits]
  | succ k ih =>
    rw [steps, ih]
    show _ = slowBit x _ k ^^^ _
    generalize slowBits x k c = d
    unfold bitStep slowBit
    rw [BitVec.getLsbD_xor, BitVec.getLsbD_ushiftRight, Nat.add_zero, BitVec.ushiftRight_xor_distrib, shr_shr]
    cases d.getLsbD 0 <;> cases (wide x).getLsbD k <;>
      simp only [Bool.xor_true, Bool.xor_false, Bool.not_true, Bool.not_false, cond_true, cond_false] <;>
      (rw [BitVec.xor_assoc, BitVec.xor_assoc, BitVec.xor_comm poly])
theorem slowBits_byte (x : UInt8) (c : BitVec 32) : slowBits x 8 c = byteStep c x := by
  unfold byteStep
  rw [slowBits_eq]
  have : wide x >>> 8 = 0#32 := by
    apply BitVec.eq_of_getLsbD_eq
    intro i hi
    unfold wide
    rw [BitVec.getLsbD_ushiftRight, BitVec.getLsbD_setWidth, BitVec.getLsbD_of_ge _ _ (by omega), Bool.and_false, BitVec.getLsbD_zero]
  rw [this, BitVec.xor_zero]

end Go.Proofs.Ythkocbfioegcnaa.Crc
