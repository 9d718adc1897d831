/-
  The walks of layer 1's functions: divide, Of; the reference's crc (its first part is s01/XSum).
-/
import Derived.Test.YthkocbfioegcnaaRows
import Derived.Test.YthkocbfioegcnaaCrc
import Derived.Test.YthkocbfioegcnaaB3
import Derived.WalkKit
import Derived.WalkSpells
import Derived.WalkLawsBesides
namespace Go.Proofs.Ythkocbfioegcnaa
open Go.RowKit Crc

/-- A word of 32 bits as the model's number. -/
def w32 (x : BitVec 32) : Int := (x.toNat : Int)
theorem w32_lo (x : BitVec 32) : 0 ≤ w32 x := by unfold w32; omega
theorem w32_hi (x : BitVec 32) : w32 x < 4294967296 := by unfold w32; have := x.isLt; omega
theorem w32_wrap (x : BitVec 32) : IntKind.u32.wrap (w32 x) = w32 x := by
  rw [IntKind.wrap_u32]
  have := w32_lo x; have := w32_hi x
  omega
theorem w32_inj {a b : BitVec 32} : w32 a = w32 b ↔ a = b := by
  unfold w32
  constructor
  · intro h; exact BitVec.eq_of_toNat_eq (by omega)
  · intro h; rw [h]
theorem w32_xor (a b : BitVec 32) : bits .xor .u32 (w32 a) (w32 b) = w32 (a ^^^ b) := by
  unfold w32
  rw [u32_xor_nat _ _ a.isLt b.isLt, BitVec.toNat_xor]
theorem w32_byte (b : UInt8) : (b.toNat : Int) % (4294967296 : Int) = w32 (wide b) := by
  unfold w32 wide
  rw [BitVec.toNat_setWidth]
  have := b.toNat_lt
  show _ = ((b.toNat % 2 ^ 32 : Nat) : Int)
  omega
theorem w32_half (x : BitVec 32) : w32 x / (2 : Int) = w32 (x >>> 1) := by
  unfold w32
  rw [BitVec.toNat_ushiftRight, Nat.shiftRight_eq_div_pow]
  omega
/-- The last bit. -/
def odd (x : BitVec 32) : Bool := x.getLsbD 0
theorem w32_odd (x : BitVec 32) : bits .and .u32 (w32 x) (1 : Int) = bif odd x then (1 : Int) else (0 : Int) := by
  unfold w32 odd
  have h := u32_and_nat x.toNat 1 x.isLt (by omega)
  rw [show ((1 : Nat) : Int) = 1 from rfl] at h
  rw [h, nat_mask1, BitVec.getLsbD, Nat.testBit_zero]
  by_cases h2 : x.toNat % 2 = 1
  · simp [h2]
  · have : x.toNat % 2 = 0 := by omega
    simp [this]
theorem w32_poly : (3988292384 : Int) = w32 poly := by unfold w32 poly; rfl
theorem w32_xor_poly (x : BitVec 32) : bits .xor .u32 (w32 x) (3988292384 : Int) = w32 (x ^^^ poly) := by rw [w32_poly, w32_xor]
theorem w32_not (x : BitVec 32) : bits .xor .u32 (4294967295 : Int) (w32 x) = w32 (~~~ x) := by
  rw [show (4294967295 : Int) = w32 (BitVec.allOnes 32) from rfl, w32_xor, not_eq_xor, BitVec.xor_comm]
theorem w32_ones : (4294967295 : Int) = w32 (BitVec.allOnes 32) := rfl

theorem ret_i32s {k : IntKind} {a b : Int} (h : a = b) : Ending.returned (.int k a) = .returned (.int k b) := by rw [h]

section
attribute [local go_sem] w32_xor w32_byte w32_half w32_odd w32_xor_poly w32_not

set_option maxHeartbeats 400000 in
theorem divide_any (r : BitVec 32) (b : UInt8) (w : World) :
    Calls Try.prog 31 #[.int .u32 (w32 r), .int .u8 (b.toNat : Int)] w fun e w' => e = .returned (.int .u32 (w32 (byteStep r b))) ∧ w = w' := by
  go_enter Try.func31, Try.ntmps31
  go_wp2
  go_loop [0, 5, 10] (fun x o i => ∃ k : Nat, k ≤ 8 ∧ i = .int .i64 k ∧ x = .int .u32 (w32 (steps k (r ^^^ wide b)))) (fun _ _ i => 8 - (intOf i).toNat)
  case atStart => exact ⟨0, by omega, rfl, rfl⟩
  case round =>
    obtain ⟨k, hk, rfl, rfl⟩ := hrel
    by_cases hlt : k < 8
    · have HS : Hid (steps (k + 1) (r ^^^ wide b) = bitStep (steps k (r ^^^ wide b))) := rfl
      generalize steps k (r ^^^ wide b) = d at *
      cases hb : odd d
      · have HB : Hid (bitStep d = d >>> 1) := by show _ = _; unfold bitStep; unfold odd at hb; rw [hb]; rfl
        go_wp2
        go_round
        case rel => exact ⟨k + 1, by omega, by go_num, by rw [HS.out, HB.out]⟩
        case measure => simp [intOf]; omega
      · have HB : Hid (bitStep d = (d >>> 1) ^^^ poly) := by show _ = _; unfold bitStep; unfold odd at hb; rw [hb]; rfl
        go_wp2
        go_round
        case rel => exact ⟨k + 1, by omega, by go_num, by rw [HS.out, HB.out]⟩
        case measure => simp [intOf]; omega
    · obtain rfl : k = 8 := by omega
      go_wp2
      go_ret
      exact ⟨rfl, rfl⟩

theorem reg_snoc (r : BitVec 32) (l : List UInt8) (k : Nat) (h : k < l.length) : reg r (l.take (k + 1)) = byteStep (reg r (l.take k)) l[k] := by
  rw [List.take_succ_eq_append_getElem h, reg_append]; rfl
theorem reg_flat_snoc (r : BitVec 32) (ls : List (List UInt8)) (k : Nat) (h : k < ls.length) : reg r (ls.take (k + 1)).flatten = reg (reg r (ls.take k).flatten) ls[k] := by
  rw [List.take_succ_eq_append_getElem h, List.flatten_append, reg_append]; simp

/-- A slice of slices of bytes. -/
def Rows8 (w : World) (B : Nat) (v : Value) (ls : List (List UInt8)) : Prop :=
  ∃ vs : List Value, vs.length = ls.length ∧ Row w B v vs ∧ ∀ i (h : i < ls.length), ∃ u, vs[i]? = some u ∧ Row w B u (u8s ls[i])

set_option maxHeartbeats 1000000 in
theorem of_any (v : Value) (ls : List (List UInt8)) (B : Nat) (w : World) (hm : ls.length ≤ maxLen) (hms : ∀ l ∈ ls, l.length ≤ maxLen) (hv : Rows8 w B v ls) :
    Calls Try.prog 22 #[v] w fun e w' => e = .returned (.int .u32 (w32 (crc ls.flatten))) ∧ w = w' := by
  obtain ⟨vs, hvl, ⟨A, c, rfl, hc, hA⟩, hin⟩ := hv
  rw [hvl] at hA ⊢
  unfold maxLen at hm
  have HL := hide hvl
  clear hvl
  go_enter Try.func22, Try.ntmps22
  go_wp2
  go_loop [3, 10] (fun x i => ∃ k : Nat, k ≤ ls.length ∧ i = .int .i64 k ∧ x = .int .u32 (w32 (reg (BitVec.allOnes 32) (ls.take k).flatten))) (fun _ i => ls.length - (intOf i).toNat)
  case atStart => exact ⟨0, by omega, rfl, rfl⟩
  case round =>
    obtain ⟨k, hk, rfl, rfl⟩ := hrel
    by_cases hlt : k < ls.length
    · obtain ⟨b, o, rfl, hb, hcell⟩ := hA (by omega)
      obtain ⟨u, hu, ⟨A', c', rfl, hc', hA'⟩⟩ := hin k hlt
      have hck := hcell k _ hu
      rw [u8s_length] at hA' hck
      have hml := hms _ (List.getElem_mem hlt)
      unfold maxLen at hml
      have HS := hide (reg_flat_snoc (BitVec.allOnes 32) ls k hlt)
      generalize reg (BitVec.allOnes 32) (ls.take k).flatten = r0 at *
      generalize hl : ls[k] = l at *
      have HLL := hide hl
      clear hl hcell hu
      go_wp2
      go_loop [3, 16] (fun x i => ∃ j : Nat, j ≤ l.length ∧ i = .int .i64 j ∧ x = .int .u32 (w32 (reg r0 (l.take j)))) (fun _ i => l.length - (intOf i).toNat)
      case atStart => exact ⟨0, by omega, rfl, rfl⟩
      case round =>
        obtain ⟨j, hj, rfl, rfl⟩ := hrel
        by_cases hlt2 : j < l.length
        · obtain ⟨b', o', rfl, hb', hcell'⟩ := hA' (by omega)
          have hcj := hcell' j _ (u8s_get l j hlt2)
          have HS2 := hide (reg_snoc r0 l j hlt2)
          clear hcell'
          generalize reg r0 (l.take j) = r1 at *
          go_wp2_with (go_at_call 31; refine (divide_any r1 l[j] _).mono ?_; rintro e w' ⟨rfl, rfl⟩)
          go_round
          case rel => exact ⟨j + 1, by omega, by go_num, by rw [HS2.out]⟩
          case measure => simp [intOf]; omega
        · obtain rfl : j = l.length := by omega
          go_wp2
          go_round
          case rel => exact ⟨k + 1, by omega, by go_num, by rw [HS.out, List.take_length]⟩
          case measure => simp [intOf]; omega
    · obtain rfl : k = ls.length := by omega
      go_wp2
      go_ret
      exact ⟨ret_i32s (w32_not _), rfl⟩

theorem w32_mod (x : BitVec 32) : w32 x % (2 : Int) = bif odd x then (1 : Int) else (0 : Int) := by
  have h : odd x = decide (x.toNat % 2 = 1) := by
    unfold odd
    rw [BitVec.getLsbD, Nat.testBit_zero]
  rw [h]
  unfold w32
  by_cases e : x.toNat % 2 = 1
  · rw [decide_eq_true e]; show _ = (1 : Int); omega
  · rw [decide_eq_false e]; show _ = (0 : Int); omega
theorem w32_tmod (x : BitVec 32) : (w32 x).tmod 2 % (4294967296 : Int) = bif odd x then (1 : Int) else (0 : Int) := by
  rw [Int.tmod_eq_emod_of_nonneg (w32_lo x), w32_mod]
  cases odd x <;> rfl
theorem w32_tdiv (x : BitVec 32) : (w32 x).tdiv 2 % (4294967296 : Int) = w32 (x >>> 1) := by
  rw [Int.tdiv_eq_ediv_of_nonneg (w32_lo x), w32_half]
  have := w32_lo (x >>> 1)
  have := w32_hi (x >>> 1)
  omega
attribute [local go_sem] w32_mod w32_tmod w32_tdiv
set_option maxHeartbeats 1000000 in
/-- The reference's way. -/
theorem rcrc_any (v : Value) (l : List UInt8) (w : World) (hm : l.length ≤ maxLen) (hv : Rd w v (u8s l)) :
    Calls Try.prog 26 #[v] w fun e w' => e = .returned (.int .u32 (w32 (crc l))) ∧ w = w' := by
  obtain ⟨A, c, rfl, hc, hA⟩ := hv
  rw [u8s_length] at hA hc ⊢
  unfold maxLen at hm
  go_enter Try.func26, Try.ntmps26
  go_wp2
  go_loop [3, 4] (fun x i => ∃ k : Nat, k ≤ l.length ∧ i = .int .i64 k ∧ x = .int .u32 (w32 (reg (BitVec.allOnes 32) (l.take k)))) (fun _ i => l.length - (intOf i).toNat)
  case atStart => exact ⟨0, by omega, rfl, rfl⟩
  case round =>
    obtain ⟨k, hk, rfl, rfl⟩ := hrel
    by_cases hlt : k < l.length
    · obtain ⟨b, o, rfl, hb, hcell⟩ := hA (by omega)
      have hck := hcell k _ (u8s_get l k hlt)
      have HS := hide (reg_snoc (BitVec.allOnes 32) l k hlt)
      generalize reg (BitVec.allOnes 32) (l.take k) = r0 at *
      generalize hl : l[k] = x at *
      have HLL := hide hl
      clear hl hcell
      go_wp2
      go_loop [3, 5] (fun y i => ∃ j : Nat, j ≤ 8 ∧ i = .int .i64 j ∧ y = .int .u32 (w32 (steps j (r0 ^^^ wide x)))) (fun _ i => 8 - (intOf i).toNat)
      case atStart => exact ⟨0, by omega, rfl, rfl⟩
      case round =>
        obtain ⟨j, hj, rfl, rfl⟩ := hrel
        by_cases hlt2 : j < 8
        · have HS2 : Hid (steps (j + 1) (r0 ^^^ wide x) = bitStep (steps j (r0 ^^^ wide x))) := rfl
          generalize steps j (r0 ^^^ wide x) = d at *
          cases hb : odd d
          · have f1 : ((w32 d).tmod 2 == 1) = false := by rw [Int.tmod_eq_emod_of_nonneg (w32_lo d), w32_mod, hb]; rfl
            have f2 : (w32 d % 2 == 1) = false := by rw [w32_mod, hb]; rfl
            have HB : Hid (bitStep d = d >>> 1) := by show _ = _; unfold bitStep; unfold odd at hb; rw [hb]; rfl
            go_wp2
            go_round
            case rel => exact ⟨j + 1, by omega, by go_num, by rw [HS2.out, HB.out, w32_tdiv]⟩
            case measure => simp [intOf]; omega
          · have f1 : ((w32 d).tmod 2 == 1) = true := by rw [Int.tmod_eq_emod_of_nonneg (w32_lo d), w32_mod, hb]; rfl
            have f2 : (w32 d % 2 == 1) = true := by rw [w32_mod, hb]; rfl
            have HB : Hid (bitStep d = (d >>> 1) ^^^ poly) := by show _ = _; unfold bitStep; unfold odd at hb; rw [hb]; rfl
            go_wp2
            go_round
            case rel => exact ⟨j + 1, by omega, by go_num, by rw [HS2.out, HB.out]⟩
            case measure => simp [intOf]; omega
        · obtain rfl : j = 8 := by omega
          go_wp2
          go_round
          case rel => exact ⟨k + 1, by omega, by go_num, by rw [HS.out]; rfl⟩
          case measure => simp [intOf]; omega
    · obtain rfl : k = l.length := by omega
      go_wp2
      go_ret
      exact ⟨ret_i32s (w32_not _), rfl⟩
/-- The sum of one text. -/
theorem of_one {w : World} {g : Nat} {u : Value} {l : List UInt8} (hb : Blk w g 26 #[u]) (hu : Rd w u (u8s l)) (hm : l.length ≤ maxLen) :
    Calls Try.prog 22 #[.slice (some ⟨g, 0, none⟩) 1 1] w fun e w' => e = .returned (.int .u32 (w32 (crc l))) ∧ w = w' := by
  have h := of_any (.slice (some ⟨g, 0, none⟩) 1 1) [l] w.heap.size w (by simp [maxLen]) (by simpa using hm) ⟨[u], rfl, hb.rd (n := 1) (c := 1) rfl (Nat.le_refl _), fun i hi => by
    have : i = 0 := by simpa using hi
    subst this
    exact ⟨u, rfl, hu⟩⟩
  rwa [List.flatten_singleton] at h
end

end Go.Proofs.Ythkocbfioegcnaa
