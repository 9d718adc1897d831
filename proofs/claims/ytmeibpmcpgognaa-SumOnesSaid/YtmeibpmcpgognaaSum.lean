/-
  The walks of layer 1's functions: divide, Of; the statements' own: of, fit.
-/
import Derived.Test.YtmeibpmcpgognaaRows
import Derived.Test.YtmeibpmcpgognaaCrc
import Derived.Test.YtmeibpmcpgognaaMem
import Derived.WalkKit
import Derived.WalkSpells
import Derived.WalkLawsBesides
namespace Go.Proofs.Ytmeibpmcpgognaa
open Go.RowKit Crc

/-- A word of 32 bits as the model's number. -/
def w32 (x : BitVec 32) : Int := (x.toNat : Int)
theorem w32_lo (x : BitVec 32) : 0 ≤ w32 x := by unfold w32; omega
theorem w32_hi (x : BitVec 32) : w32 x < 4294967296 := by unfold w32; have := x.isLt; omega
theorem w32_wrap (x : BitVec 32) : IntKind.u32.wrap (w32 x) = w32 x := by
  rw [IntKind.wrap_u32]
  have := w32_lo x; have := w32_hi x
  omega
theorem w32_inj {a b : BitVec 32} : w32 a = w32 b ↔ a = b := by
  unfold w32
  constructor
  · intro h; exact BitVec.eq_of_toNat_eq (by omega)
  · intro h; rw [h]
theorem w32_xor (a b : BitVec 32) : bits .xor .u32 (w32 a) (w32 b) = w32 (a ^^^ b) := by
  unfold w32
  rw [u32_xor_nat _ _ a.isLt b.isLt, BitVec.toNat_xor]
theorem w32_byte (b : UInt8) : (b.toNat : Int) % (4294967296 : Int) = w32 (wide b) := by
  unfold w32 wide
  rw [BitVec.toNat_setWidth]
  have := b.toNat_lt
  show _ = ((b.toNat % 2 ^ 32 : Nat) : Int)
  omega
theorem w32_half (x : BitVec 32) : w32 x / (2 : Int) = w32 (x >>> 1) := by
  unfold w32
  rw [BitVec.toNat_ushiftRight, Nat.shiftRight_eq_div_pow]
  omega
/-- The last bit. -/
def odd (x : BitVec 32) : Bool := x.getLsbD 0
theorem w32_odd (x : BitVec 32) : bits .and .u32 (w32 x) (1 : Int) = bif odd x then (1 : Int) else (0 : Int) := by
  unfold w32 odd
  have h := u32_and_nat x.toNat 1 x.isLt (by omega)
  rw [show ((1 : Nat) : Int) = 1 from rfl] at h
  rw [h, nat_mask1, BitVec.getLsbD, Nat.testBit_zero]
  by_cases h2 : x.toNat % 2 = 1
  · simp [h2]
  · have : x.toNat % 2 = 0 := by omega
    simp [this]
theorem w32_poly : (3988292384 : Int) = w32 poly := by unfold w32 poly; rfl
theorem w32_xor_poly (x : BitVec 32) : bits .xor .u32 (w32 x) (3988292384 : Int) = w32 (x ^^^ poly) := by rw [w32_poly, w32_xor]
theorem w32_not (x : BitVec 32) : bits .xor .u32 (4294967295 : Int) (w32 x) = w32 (~~~ x) := by
  rw [show (4294967295 : Int) = w32 (BitVec.allOnes 32) from rfl, w32_xor, not_eq_xor, BitVec.xor_comm]
theorem w32_ones : (4294967295 : Int) = w32 (BitVec.allOnes 32) := rfl

theorem ret_int {k : IntKind} {a b : Int} (h : a = b) : Ending.returned (.int k a) = .returned (.int k b) := by rw [h]

section
attribute [local go_sem] w32_xor w32_byte w32_half w32_odd w32_xor_poly w32_not

set_option maxHeartbeats 400000 in
theorem divide_any (r : BitVec 32) (b : UInt8) (w : World) :
    Calls Try.prog 11 #[.int .u32 (w32 r), .int .u8 (b.toNat : Int)] w fun e w' => e = .returned (.int .u32 (w32 (byteStep r b))) ∧ w = w' := by
  go_enter Try.func11, Try.ntmps11
  go_wp2
  go_loop [0, 5, 10] (fun x o i => ∃ k : Nat, k ≤ 8 ∧ i = .int .i64 k ∧ x = .int .u32 (w32 (steps k (r ^^^ wide b)))) (fun _ _ i => 8 - (intOf i).toNat)
  case atStart => exact ⟨0, by omega, rfl, rfl⟩
  case round =>
    obtain ⟨k, hk, rfl, rfl⟩ := hrel
    by_cases hlt : k < 8
    · have HS : Hid (steps (k + 1) (r ^^^ wide b) = bitStep (steps k (r ^^^ wide b))) := rfl
      generalize steps k (r ^^^ wide b) = d at *
      cases hb : odd d
      · have HB : Hid (bitStep d = d >>> 1) := by show _ = _; unfold bitStep; unfold odd at hb; rw [hb]; rfl
        go_wp2
        go_round
        case rel => exact ⟨k + 1, by omega, by go_num, by rw [HS.out, HB.out]⟩
        case measure => simp [intOf]; omega
      · have HB : Hid (bitStep d = (d >>> 1) ^^^ poly) := by show _ = _; unfold bitStep; unfold odd at hb; rw [hb]; rfl
        go_wp2
        go_round
        case rel => exact ⟨k + 1, by omega, by go_num, by rw [HS.out, HB.out]⟩
        case measure => simp [intOf]; omega
    · obtain rfl : k = 8 := by omega
      go_wp2
      go_ret
      exact ⟨rfl, rfl⟩

theorem reg_snoc (r : BitVec 32) (l : List UInt8) (k : Nat) (h : k < l.length) : reg r (l.take (k + 1)) = byteStep (reg r (l.take k)) l[k] := by
  rw [List.take_succ_eq_append_getElem h, reg_append]; rfl
theorem reg_flat_snoc (r : BitVec 32) (ls : List (List UInt8)) (k : Nat) (h : k < ls.length) : reg r (ls.take (k + 1)).flatten = reg (reg r (ls.take k).flatten) ls[k] := by
  rw [List.take_succ_eq_append_getElem h, List.flatten_append, reg_append]; simp

/-- A slice of slices of bytes. -/
def Rows8 (w : World) (B : Nat) (v : Value) (ls : List (List UInt8)) : Prop :=
  ∃ vs : List Value, vs.length = ls.length ∧ Row w B v vs ∧ ∀ i (h : i < ls.length), ∃ u, vs[i]? = some u ∧ Row w B u (u8s ls[i])

set_option maxHeartbeats 1000000 in
theorem of_any (v : Value) (ls : List (List UInt8)) (B : Nat) (w : World) (hm : ls.length ≤ maxLen) (hms : ∀ l ∈ ls, l.length ≤ maxLen) (hv : Rows8 w B v ls) :
    Calls Try.prog 9 #[v] w fun e w' => e = .returned (.int .u32 (w32 (crc ls.flatten))) ∧ w = w' := by
  obtain ⟨vs, hvl, ⟨A, c, rfl, hc, hA⟩, hin⟩ := hv
  rw [hvl] at hA ⊢
  unfold maxLen at hm
  have HL := hide hvl
  clear hvl
  go_enter Try.func9, Try.ntmps9
  go_wp2
  go_loop [3, 10] (fun x i => ∃ k : Nat, k ≤ ls.length ∧ i = .int .i64 k ∧ x = .int .u32 (w32 (reg (BitVec.allOnes 32) (ls.take k).flatten))) (fun _ i => ls.length - (intOf i).toNat)
  case atStart => exact ⟨0, by omega, rfl, rfl⟩
  case round =>
    obtain ⟨k, hk, rfl, rfl⟩ := hrel
    by_cases hlt : k < ls.length
    · obtain ⟨b, o, rfl, hb, hcell⟩ := hA (by omega)
      obtain ⟨u, hu, ⟨A', c', rfl, hc', hA'⟩⟩ := hin k hlt
      have hck := hcell k _ hu
      rw [u8s_length] at hA' hck
      have hml := hms _ (List.getElem_mem hlt)
      unfold maxLen at hml
      have HS := hide (reg_flat_snoc (BitVec.allOnes 32) ls k hlt)
      generalize reg (BitVec.allOnes 32) (ls.take k).flatten = r0 at *
      generalize hl : ls[k] = l at *
      have HLL := hide hl
      clear hl hcell hu
      go_wp2
      go_loop [3, 16] (fun x i => ∃ j : Nat, j ≤ l.length ∧ i = .int .i64 j ∧ x = .int .u32 (w32 (reg r0 (l.take j)))) (fun _ i => l.length - (intOf i).toNat)
      case atStart => exact ⟨0, by omega, rfl, rfl⟩
      case round =>
        obtain ⟨j, hj, rfl, rfl⟩ := hrel
        by_cases hlt2 : j < l.length
        · obtain ⟨b', o', rfl, hb', hcell'⟩ := hA' (by omega)
          have hcj := hcell' j _ (u8s_get l j hlt2)
          have HS2 := hide (reg_snoc r0 l j hlt2)
          clear hcell'
          generalize reg r0 (l.take j) = r1 at *
          go_wp2_with (go_at_call 11; refine (divide_any r1 l[j] _).mono ?_; rintro e w' ⟨rfl, rfl⟩)
          go_round
          case rel => exact ⟨j + 1, by omega, by go_num, by rw [HS2.out]⟩
          case measure => simp [intOf]; omega
        · obtain rfl : j = l.length := by omega
          go_wp2
          go_round
          case rel => exact ⟨k + 1, by omega, by go_num, by rw [HS.out, List.take_length]⟩
          case measure => simp [intOf]; omega
    · obtain rfl : k = ls.length := by omega
      go_wp2
      go_ret
      exact ⟨ret_int (w32_not _), rfl⟩

theorem slow_test (d : BitVec 32) (x : UInt8) (j : Nat) : (bits .xor .u32 (bif odd d then (1 : Int) else (0 : Int)) (bits .and .u32 ((x.toNat : Int) / (2 : Int) ^ j % (4294967296 : Int)) (1 : Int)) == (1 : Int)) = (odd d).xor ((wide x).getLsbD j) := by
  have h1 : (x.toNat : Int) / (2 : Int) ^ j % (4294967296 : Int) = w32 (wide x >>> j) := by
    have h2 : w32 (wide x >>> j) = (((wide x).toNat / 2 ^ j : Nat) : Int) := by
      unfold w32
      rw [BitVec.toNat_ushiftRight, Nat.shiftRight_eq_div_pow]
    have h3 : (wide x).toNat = x.toNat := by
      unfold wide
      rw [BitVec.toNat_setWidth]
      have := x.toNat_lt
      exact Nat.mod_eq_of_lt (by show x.toNat < _; omega)
    rw [h2, h3]
    have h4 : x.toNat / 2 ^ j ≤ x.toNat := Nat.div_le_self _ _
    have := x.toNat_lt
    have h5 : ((x.toNat / 2 ^ j : Nat) : Int) = (x.toNat : Int) / (2 : Int) ^ j := by rw [Int.natCast_ediv]; simp
    rw [← h5]
    generalize x.toNat / 2 ^ j = q at *
    omega
  have h2 : odd (wide x >>> j) = (wide x).getLsbD j := by unfold odd; rw [BitVec.getLsbD_ushiftRight]; rfl
  rw [h1, w32_odd, h2]
  cases odd d <;> cases (wide x).getLsbD j <;> decide
theorem slow_snoc (c : BitVec 32) (x : UInt8) (k : Nat) : slowBits x (k + 1) c = slowBit x (slowBits x k c) k := rfl

set_option maxHeartbeats 1000000 in
/-- The statement's own way, bit by bit. -/
theorem slow_any (v : Value) (l : List UInt8) (B : Nat) (w : World) (hm : l.length ≤ maxLen) (hv : Row w B v (u8s l)) :
    Calls Try.prog 10 #[v] w fun e w' => e = .returned (.int .u32 (w32 (crc l))) ∧ w = w' := by
  obtain ⟨A, c, rfl, hc, hA⟩ := hv
  rw [u8s_length] at hA hc ⊢
  unfold maxLen at hm
  go_enter Try.func10, Try.ntmps10
  go_wp2
  go_loop [3, 10] (fun x i => ∃ k : Nat, k ≤ l.length ∧ i = .int .i64 k ∧ x = .int .u32 (w32 (reg (BitVec.allOnes 32) (l.take k)))) (fun _ i => l.length - (intOf i).toNat)
  case atStart => exact ⟨0, by omega, rfl, rfl⟩
  case round =>
    obtain ⟨k, hk, rfl, rfl⟩ := hrel
    by_cases hlt : k < l.length
    · obtain ⟨b, o, rfl, hb, hcell⟩ := hA (by omega)
      have hck := hcell k _ (u8s_get l k hlt)
      have HS := hide (reg_snoc (BitVec.allOnes 32) l k hlt)
      generalize reg (BitVec.allOnes 32) (l.take k) = r0 at *
      generalize hl : l[k] = x at *
      have HLL := hide hl
      clear hl hcell
      go_wp2
      go_loop [3, 14] (fun y i => ∃ j : Nat, j ≤ 8 ∧ i = .int .i64 j ∧ y = .int .u32 (w32 (slowBits x j r0))) (fun _ i => 8 - (intOf i).toNat)
      case atStart => exact ⟨0, by omega, rfl, rfl⟩
      case round =>
        obtain ⟨j, hj, rfl, rfl⟩ := hrel
        by_cases hlt2 : j < 8
        · have HS2 := hide (slow_snoc r0 x j)
          generalize slowBits x j r0 = d at *
          have HT := slow_test d x j
          have HD : Hid (slowBit x d j = bif (odd d).xor ((wide x).getLsbD j) then (d >>> 1) ^^^ poly else d >>> 1) := rfl
          generalize (odd d).xor ((wide x).getLsbD j) = t at *
          cases t
          all_goals
            go_wp2
            go_round
            case rel => exact ⟨j + 1, by omega, by go_num, by rw [HS2.out, HD.out]; rfl⟩
            case measure => simp [intOf]; omega
        · obtain rfl : j = 8 := by omega
          go_wp2
          go_round
          case rel => exact ⟨k + 1, by omega, by go_num, by rw [HS.out, slowBits_byte]⟩
          case measure => simp [intOf]; omega
    · obtain rfl : k = l.length := by omega
      go_wp2
      go_ret
      exact ⟨ret_int (w32_not _), rfl⟩
end

end Go.Proofs.Ytmeibpmcpgognaa
