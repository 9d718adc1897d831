/-
  Contracts of package row: readField, read, Decode.
-/
import Derived.Test.YtajpjffjhnmfmaaEnc
import Derived.Test.YtajpjffjhnmfmaaNumber
namespace Go.Proofs.Ytajpjffjhnmfmaa
open Go.RowKit

def St.fieldSt (s : St) (room : Nat) : St := s.textSt.take ((room : Int) - (s.text.length : Int))
theorem St.text_length (s : St) : s.text.length ≤ s.rest.length := Nat.le_trans (St.got_length _ _) (s.numSt_length 1)
theorem St.text_le (s : St) : s.text.length ≤ 255 := by
  unfold St.text St.got
  have := s.num1_lt
  split
  · rw [List.length_take]; omega
  · simp
theorem St.fieldSt_length (s : St) (room : Nat) : (s.fieldSt room).rest.length ≤ s.rest.length := Nat.le_trans (St.take_length _ _) s.textSt_length
theorem arr_size (l : List UInt8) : (⟨l.toArray⟩ : ByteArray).size = l.length := by show l.toArray.size = _; simp
theorem arr_list (l : List UInt8) : (⟨l.toArray⟩ : ByteArray).data.toList = l := by simp
theorem readField_any {w : World} {lo g : Nat} {s : St} (room : Nat) (h : Rdr w lo g s) (hm : s.rest.length ≤ 1000) (hr : room ≤ 100) :
    Calls Try.prog 38 #[ptr g, .int .i64 (room : Int)] w fun e w' => e = .returned (.string ⟨s.text.toArray⟩) ∧ Rdr w' lo g (s.fieldSt room) ∧ w.grownBy w' (some g) := by
  unfold St.fieldSt
  have hl := s.text_le
  have hm1 : s.textSt.rest.length ≤ 70368744177664 := Nat.le_trans s.textSt_length (by omega)
  have hsz := hide (arr_size s.text)
  go_enter Try.func38, Try.ntmps38
  go_wp2_with (first
    | (go_at_call 39; refine (text_any_r h (by omega)).mono ?_; rintro e w1 ⟨rfl, hr1, hg1⟩)
    | (go_at_call 32; refine (take_told ((room : Int) - (s.text.length : Int)) hr1 hm1).mono ?_; rintro e w2 ⟨A, c, rfl, hrd, hr2, hg2, hcv⟩))
  go_ret
  exact ⟨rfl, hr2, hg1.trans hg2⟩

/-- What a reader takes from where a row would stand. -/
def rowT (l : List UInt8) : Nat := ((⟨l, false⟩ : St).take 1).num 1
def rowS (l : List UInt8) : St := ((⟨l, false⟩ : St).take 1).numSt 1
def rowK (l : List UInt8) : List UInt8 := (rowS l).text
def rowV (l : List UInt8) : List UInt8 := ((rowS l).fieldSt 15).text
theorem St.byte_take (b : UInt8) (r : List UInt8) : (⟨b :: r, false⟩ : St).take 1 = ⟨r, false⟩ := by
  have hc : (⟨b :: r, false⟩ : St).can 1 = true := by simp [St.can]; omega
  unfold St.take; rw [if_pos hc]; rfl
theorem St.byte_num (b : UInt8) (r : List UInt8) : (⟨b :: r, false⟩ : St).num 1 = b.toNat ∧ (⟨b :: r, false⟩ : St).numSt 1 = ⟨r, false⟩ := by
  have hc : (⟨b :: r, false⟩ : St).can 1 = true := by simp [St.can]; omega
  refine ⟨?_, ?_⟩
  · unfold St.num St.got; rw [if_pos (by omega), if_pos hc]; simp [val]
  · unfold St.numSt; rw [if_pos (by omega)]; exact St.byte_take b r
theorem St.some_take (a r : List UInt8) (n : Int) (h : (a.length : Int) = n) : (⟨a ++ r, false⟩ : St).take n = ⟨r, false⟩ ∧ (⟨a ++ r, false⟩ : St).got n = a := by
  subst h
  have hc : (⟨a ++ r, false⟩ : St).can (a.length : Int) = true := by simp [St.can]; omega
  exact ⟨by unfold St.take; rw [if_pos hc]; simp, by unfold St.got; rw [if_pos hc]; simp⟩
theorem St.text_of (t r : List UInt8) (h : t.length ≤ 255) : (⟨UInt8.ofNat t.length :: t ++ r, false⟩ : St).text = t ∧ (⟨UInt8.ofNat t.length :: t ++ r, false⟩ : St).textSt = ⟨r, false⟩ := by
  have hb : (UInt8.ofNat t.length).toNat = t.length := by rw [UInt8.toNat_ofNat']; omega
  obtain ⟨h1, h2⟩ := St.byte_num (UInt8.ofNat t.length) (t ++ r)
  unfold St.text St.textSt
  rw [List.cons_append, h1, h2, hb]
  exact ⟨(St.some_take t r _ rfl).2, (St.some_take t r _ rfl).1⟩
theorem St.field_of (t r : List UInt8) (room : Nat) (h : t.length ≤ room) (hr : room ≤ 255) : (⟨fieldL t room ++ r, false⟩ : St).text = t ∧ (⟨fieldL t room ++ r, false⟩ : St).fieldSt room = ⟨r, false⟩ := by
  have e : fieldL t room ++ r = UInt8.ofNat t.length :: t ++ (List.replicate (room - t.length) 0 ++ r) := by simp [fieldL]
  unfold St.fieldSt
  rw [e]
  obtain ⟨h1, h2⟩ := St.text_of t (List.replicate (room - t.length) 0 ++ r) (by omega)
  rw [h1, h2]
  exact ⟨rfl, (St.some_take _ r _ (by simp; omega)).1⟩
theorem row_enc (t : Nat) (k v : List UInt8) (ht : t < 256) (hk : k.length ≤ 15) (hv : v.length ≤ 21) : rowT (encL t k v) = t ∧ rowK (encL t k v) = k ∧ rowV (encL t k v) = v := by
  have e1 : (⟨encL t k v, false⟩ : St).take 1 = ⟨UInt8.ofNat t :: (fieldL k 15 ++ (fieldL v 21 ++ [])), false⟩ := by
    rw [show encL t k v = 1 :: (UInt8.ofNat t :: (fieldL k 15 ++ (fieldL v 21 ++ []))) by simp [encL]]
    exact St.byte_take _ _
  obtain ⟨h1, h2⟩ := St.byte_num (UInt8.ofNat t) (fieldL k 15 ++ (fieldL v 21 ++ []))
  obtain ⟨h3, h4⟩ := St.field_of k (fieldL v 21 ++ []) 15 hk (by omega)
  obtain ⟨h5, _⟩ := St.field_of v [] 21 hv (by omega)
  unfold rowV rowK rowT rowS
  rw [e1, h1, h2, h3, h4, h5]
  exact ⟨by rw [UInt8.toNat_ofNat']; omega, rfl, rfl⟩
theorem rowT_lt (l : List UInt8) : rowT l < 256 := St.num1_lt _
theorem rowS_length (l : List UInt8) : (rowS l).rest.length ≤ l.length := Nat.le_trans (St.numSt_length _ _) (St.take_length _ _)

theorem take_1 {w : World} {lo g : Nat} {s : St} (h : Rdr w lo g s) (hm : s.rest.length ≤ 70368744177664) :
    Calls Try.prog 32 #[ptr g, .int .i64 1] w fun e w' => ∃ A c, e = .returned (.slice A (s.got 1).length c) ∧ Rdr w' lo g (s.take 1) ∧ w.grownBy w' (some g) :=
  (take_told 1 h hm).mono fun _ _ ⟨A, c, h1, _, h3, h4, _⟩ => ⟨A, c, h1, h3, h4⟩
theorem readField_15 {w : World} {lo g : Nat} {s : St} (h : Rdr w lo g s) (hm : s.rest.length ≤ 1000) :
    Calls Try.prog 38 #[ptr g, .int .i64 15] w fun e w' => e = .returned (.string ⟨s.text.toArray⟩) ∧ Rdr w' lo g (s.fieldSt 15) ∧ w.grownBy w' (some g) := readField_any 15 h hm (by omega)
theorem readField_21 {w : World} {lo g : Nat} {s : St} (h : Rdr w lo g s) (hm : s.rest.length ≤ 1000) :
    Calls Try.prog 38 #[ptr g, .int .i64 21] w fun e w' => e = .returned (.string ⟨s.text.toArray⟩) ∧ Rdr w' lo g (s.fieldSt 21) ∧ w.grownBy w' (some g) := readField_any 21 h hm (by omega)
theorem Blk.grown {w w' : World} {k : Nat} {t : TypeId} {cs : Array Value} {row : Option Nat} (h : Blk w k t cs) (hg : w.grownBy w' row) (hne : row ≠ some k) : Blk w' k t cs :=
  (hg.block k h.lt (fun e => hne e.symm)).trans h
theorem Blk.three_f {w : World} {g : Nat} {t : TypeId} {cs : Array Value} (h : Blk w g t cs) : w.frozen? ⟨g, 0, none⟩ = false ∧ w.frozen? ⟨g, 1, none⟩ = false ∧ w.frozen? ⟨g, 2, none⟩ = false := ⟨h.frozen 0, h.frozen 1, h.frozen 2⟩
theorem grownBy_set {w w' : World} {row : Option Nat} (h : w.grownBy w' row) {p : Addr} (hp : w.heap.size ≤ p.block) (u : Value) : w.grownBy (w'.setCell p u) row :=
  ⟨h.os, h.tape, h.output, by have := h.size; simpa [World.setCell] using this, fun k hk hne => (Below.heap_setCell _ _ _ _ (by omega)).trans (h.block k hk hne)⟩
theorem grownBy_below {w w' : World} {row : Option Nat} (hb : Below w.heap.size w w') : w.grownBy w' row := ⟨hb.os, hb.tape, hb.output, hb.size, fun k hk _ => hb.block k hk⟩
set_option maxHeartbeats 1000000 in
theorem read_any {w : World} {lo g : Nat} {l : List UInt8} (h : Rdr w lo g ⟨l, false⟩) (hm : l.length ≤ 1000) :
    Calls Try.prog 34 #[ptr g] w fun e w' => e = .returned (.agg #[.int .i64 (rowT l : Int), .string ⟨(rowK l).toArray⟩, .string ⟨(rowV l).toArray⟩]) ∧ w.grownBy w' (some g) := by
  have hT := rowT_lt l
  have hgl := h.lt
  have B0 : Blk (w.alloc (.cells #[.int .i64 0, .string ⟨#[]⟩, .string ⟨#[]⟩] 46)) w.heap.size 46 #[.int .i64 0, .string ⟨#[]⟩, .string ⟨#[]⟩] := heap_new w _
  have hne : some g ≠ some w.heap.size := fun e => by injection e with e; omega
  have hS := rowS_length l
  have hS2 := St.fieldSt_length (rowS l) 15
  have h0 := h.alloc (.cells #[.int .i64 0, .string ⟨#[]⟩, .string ⟨#[]⟩] 46)
  have hgw := hide (World.grownBy_alloc w (.cells #[.int .i64 0, .string ⟨#[]⟩, .string ⟨#[]⟩] 46) (some g))
  have hm0 : (⟨l, false⟩ : St).rest.length ≤ 70368744177664 := by show l.length ≤ _; omega
  have hm1 : ((⟨l, false⟩ : St).take 1).rest.length ≤ 70368744177664 := Nat.le_trans (St.take_length _ _) hm0
  have HT := hide (show ((⟨l, false⟩ : St).take 1).num 1 = rowT l from rfl)
  have HS := hide (show ((⟨l, false⟩ : St).take 1).numSt 1 = rowS l from rfl)
  have HK := hide (show (rowS l).text = rowK l from rfl)
  have HV := hide (show ((rowS l).fieldSt 15).text = rowV l from rfl)
  go_enter Try.func34, Try.ntmps34
  go_wp2_with (first
    | (go_at_call 32; refine (take_1 h0 hm0).mono ?_; rintro e w1 ⟨A, c, rfl, hr1, hg1⟩)
    | (go_at_call 31; refine (num_any 1 hr1 hm1).mono ?_; rw [HT.out, HS.out]; rintro e w2 ⟨rfl, hr2, hg2⟩)
    | (go_at_call 38; (with_reducible refine (readField_15 hr2 (by omega)).mono ?_); rw [HK.out]; rintro e w3 ⟨rfl, hr3, hg3⟩)
    | (go_at_call 38; (with_reducible refine (readField_21 hr3 (by omega)).mono ?_); rw [HV.out]; rintro e w4 ⟨rfl, hr4, hg4⟩; have B4 := (((B0.grown hg1 hne).grown hg2 hne).grown hg3 hne).grown hg4 hne; obtain ⟨c1, c2, c3⟩ := B4.three; obtain ⟨f1, f2, f3⟩ := B4.three_f))
  refine bodyPost_ret (v := .agg #[.int .i64 (rowT l : Int), .string ⟨(rowK l).toArray⟩, .string ⟨(rowV l).toArray⟩]) (by simp [results, Try.results34, go_sem, c1, c2, c3]) rfl ⟨rfl, ?_⟩
  have hg := (((hgw.out.trans hg1).trans hg2).trans hg3).trans hg4
  exact grownBy_set (grownBy_set (grownBy_set hg (Nat.le_refl _) _) (Nat.le_refl _) _) (Nat.le_refl _) _

/-- What bytes tell. -/
def Dec (l : List UInt8) (t : Int) (k v : ByteArray) (e : Int) : Prop :=
  (e = 9 ∧ t = 0 ∧ k = ⟨#[]⟩ ∧ v = ⟨#[]⟩ ∧ l ≠ List.replicate 40 0 ∧ ∀ (t' : Nat) (k' v' : List UInt8), t' < 4 → k'.length ≤ 15 → v'.length ≤ 21 → encL t' k' v' ≠ l) ∨
  (e = 5 ∧ t = 0 ∧ k = ⟨#[]⟩ ∧ v = ⟨#[]⟩ ∧ l = List.replicate 40 0) ∨
  (e = 0 ∧ rightB t k v = true ∧ encL t.toNat k.data.toList v.data.toList = l)
end Go.Proofs.Ytajpjffjhnmfmaa
