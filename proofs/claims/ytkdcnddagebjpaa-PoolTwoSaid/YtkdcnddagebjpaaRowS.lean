/-
  A row's bytes as a string; a page's Set and Slot: what PoolKeeps and PoolTwo share.
-/
import Derived.Test.YtkdcnddagebjpaaUpd
namespace Go.Proofs.Ytkdcnddagebjpaa
open Go.RowKit
set_option maxRecDepth 20000
set_option linter.unusedSimpArgs false
set_option linter.unusedVariables false

/-- A row's bytes. -/
def rowL (t : Int) (k u : ByteArray) : List UInt8 := encL t.toNat k.data.toList u.data.toList
theorem rowL_length {t : Int} {k u : ByteArray} (h : rowOkB t k u = true) : (rowL t k u).length = 40 := by
  obtain ⟨_, _, h3, h4⟩ := rightB_iff.1 h
  exact encL_length _ _ _ (by simpa using h3) (by simpa using h4)
theorem rowL_ok {t : Int} {k u : ByteArray} (h : rowOkB t k u = true) : okB ⟨(rowL t k u).toArray⟩ = true := by
  obtain ⟨h1, h2, h3, h4⟩ := rightB_iff.1 h
  have := rowB_enc t.toNat k.data.toList u.data.toList (by omega) (by simpa using h3) (by simpa using h4)
  unfold okB rowL
  rw [Bool.or_eq_true]
  right
  simpa using this
theorem row_enc_told {t : Int} {k u : ByteArray} {L : List UInt8} (h : rowOkB t k u = true) (hL : rowL t k u = L) (w : World) :
    Calls Try.prog 24 #[.agg #[.int .i64 t, .string k, .string u]] w fun e w' => ∃ v, e = .returned v ∧ (Say.rd 40 L).p w' v ∧ Below w.heap.size w w' := by
  obtain ⟨h1, h2, h3, h4⟩ := rightB_iff.1 h
  have hl := rowL_length h
  obtain ⟨n, rfl⟩ := Int.eq_ofNat_of_zero_le h1
  refine (encode_yes n k u w h).mono ?_
  rintro e w' ⟨v', rfl, hm, hb⟩
  obtain ⟨A, c, rfl⟩ := hm.form
  have e1 : encL n k.data.toList u.data.toList = L := hL
  rw [e1] at hm ⊢
  rw [hL] at hl
  rw [hl] at hm ⊢
  exact ⟨_, rfl, ⟨A, c, rfl, hm.rd⟩, hb⟩
/-- The same, for a walk: it comes with its conversion. -/
theorem row_str {t : Int} {k u : ByteArray} {L : List UInt8} (h : rowOkB t k u = true) (hL : rowL t k u = L) (w : World) :
    Calls Try.prog 24 #[.agg #[.int .i64 t, .string k, .string u]] w fun e w' => ∃ A c, e = .returned (.slice A 40 c) ∧ (convert 58 9 (.slice A 40 c)).run Try.prog w' = .ok (.string ⟨L.toArray⟩) w' ∧ Below w.heap.size w w' := by
  refine (row_enc_told h hL w).mono ?_
  rintro e w' ⟨v, rfl, ⟨A, c, rfl, hr⟩, hb⟩
  exact ⟨A, c, rfl, conv_rdn (by rw [← hL]; exact rowL_length h) hr, hb⟩
section
variable {w w' : World} {X Y : Nat → Prop} {dg : Nat} {d : Ds} {g q r k gen s : Nat} {all : List Rc} {P : Po} {D : Nat → Pg} {x : Option Nat}
/-- pool.New, its records any that are eleven bytes. -/
theorem new_pool_any (h : LaneP w X dg d g 0 k 1 [checkR] 1 (Rg.new 538).base) :
    Calls Try.prog 11 #[.pointer (some ⟨dg, 0, none⟩), .int .i64 0, .pointer (some ⟨g, 0, none⟩)] w fun e w' => ∃ q all0, e = .returned (.pointer (some ⟨q, 0, none⟩)) ∧ (frsR all0).length = 11 ∧ PoolT w' X dg d g q 0 k 1 all0 1 (Po.new 0) (pTN 0) none ∧ Below w.heap.size w w' := by
  refine (new_pool0 h).mono ?_
  rintro e w' ⟨q, rfl, h1, h2⟩
  exact ⟨q, [checkR], rfl, frs_check, h1, h2⟩
def Fm.slotted (y : Fm) (i : Nat) (t : ByteArray) : Fm := ⟨y.pb, y.num, y.req, y.dirty, y.since, y.pg.set i t⟩
theorem po_set3 (h : PoolT w X dg d g q r k gen all s P D none) {z b : Nat} (hz : z < 3) (hb : (P.f z).pb = some b) (t : ByteArray) (ht : okB t = true) :
    Calls Try.prog 23 #[.pointer (some ⟨b, 0, none⟩), .int .i64 3, .string t] w fun e w' => e = .returned (.bool true) ∧ PoolT w' X dg d g q r k gen all s (P.set z ((P.f z).slotted 3 t)) D (some z) ∧ Out X w w' := po_set h hz hb 3 (by omega) t ht
theorem po_set0 (h : PoolT w X dg d g q r k gen all s P D none) {z b : Nat} (hz : z < 3) (hb : (P.f z).pb = some b) (t : ByteArray) (ht : okB t = true) :
    Calls Try.prog 23 #[.pointer (some ⟨b, 0, none⟩), .int .i64 0, .string t] w fun e w' => e = .returned (.bool true) ∧ PoolT w' X dg d g q r k gen all s (P.set z ((P.f z).slotted 0 t)) D (some z) ∧ Out X w w' := po_set h hz hb 0 (by omega) t ht
end
/-- A page with one slot filled. -/
def pgY (m r p i : Nat) (t : ByteArray) : Pg := ⟨m, r, p, fun j => if j = i then t else ⟨#[]⟩⟩
theorem val_one {y : Pg} {r p m i : Nat} {t : ByteArray} (h : y.val = (pTN r p).val) : ((y.set i t).marked m).val = (pgY m r p i t).val := by
  obtain ⟨h1, h2, h3, h4⟩ := pg_of_val h
  have e : ∀ j, j < 5 → ((y.set i t).marked m).s j = (pgY m r p i t).s j := by
    intro j hj
    show (if j = i then t else y.s j) = if j = i then t else ⟨#[]⟩
    rw [h4 j hj]; rfl
  have e2 : ((y.set i t).marked m).ten = r := h2
  have e3 : ((y.set i t).marked m).num = p := h3
  unfold Pg.val Pg.cells
  rw [e 0 (by omega), e 1 (by omega), e 2 (by omega), e 3 (by omega), e 4 (by omega), e2, e3]
  rfl
section
variable {w w' : World} {X Y : Nat → Prop} {dg : Nat} {d : Ds} {g q r k gen s : Nat} {all : List Rc} {P P' : Po} {D D' : Nat → Pg} {x : Option Nat}
theorem PoolT.cont_at (h : PoolT w X dg d g q r k gen all s P D x) {z b n : Nat} (hz : z < 3) (hb : (P.f z).pb = some b) (hn : (P.f z).num = n) : cont P D n = (P.f z).pg := by
  have := (h.at_ hz hb).2.2.2
  rw [hn] at this
  unfold cont
  rw [this]
/-- What lies where Get says, of a pool in which nothing was at hand. -/
theorem got_new {p z b : Nat} (hG : Got (Po.new r) (pTN r) p z P D) (h : PoolT w X dg d g q r k gen all s P D x) (hp : p < 6) (hz : z < 3) (hb : (P.f z).pb = some b) (hn : (P.f z).num = p) : (P.f z).pg.val = (pTN r p).val := by
  rw [← h.cont_at hz hb hn, hG.cont p hp]
  rfl
/-- Touch, behind Set. -/
theorem po_touched {z b n m i : Nat} {t : ByteArray} (h : PoolT w X dg d g q r k gen all s (P.set z ((P.f z).slotted i t)) D (some z)) (hz : z < 3) (hb : (P.f z).pb = some b) (hn : (P.f z).num = n) (hm1 : 1 ≤ m) (hm2 : m < lim gen all) (hm3 : m < 18446744073709551616) :
    Calls Try.prog 14 #[.pointer (some ⟨q, 0, none⟩), .int .i64 (n : Int), .int .u64 (m : Int)] w fun e w' => e = .returned (.tuple #[]) ∧ (∃ P', PoolT w' X dg d g q r k gen all s P' D none ∧ (P'.f z).pb = some b ∧ (P'.f z).num = n ∧ (P'.f z).pg = ((P.f z).pg.set i t).marked m ∧ (P'.f z).dirty = true) ∧ Out X w w' := by
  refine (po_touch (m := m) (n := n) (b := b) h hz (by rw [Po.set_same]; exact hb) (by rw [Po.set_same]; exact hn) (.inr rfl) hm1 hm2 hm3).mono ?_
  rintro e w' ⟨rfl, h2, ho⟩
  refine ⟨rfl, ⟨_, h2, ?_, ?_, ?_, ?_⟩, ho⟩
  · rw [Po.set_same, Po.set_same]; exact hb
  · rw [Po.set_same, Po.set_same]; exact hn
  · rw [Po.set_same, Po.set_same]; rfl
  · rw [Po.set_same]; rfl
end
theorem slot_at {w : World} {b : Nat} {p : Pg} (h : PgB w b p) (i : Nat) (hi : i < 5) {t : ByteArray} (ht : p.s i = t) :
    Calls Try.prog 25 #[.pointer (some ⟨b, 0, none⟩), .int .i64 (i : Int)] w fun e w' => ∃ v, e = .returned v ∧ (Say.is (.string t)).p w' v ∧ Below w.heap.size w w' := by
  refine (slot_in h i hi).mono ?_
  rintro e w' ⟨rfl, rfl⟩
  exact ⟨_, rfl, by rw [ht]; rfl, Below.refl _ _⟩
end Go.Proofs.Ytkdcnddagebjpaa
