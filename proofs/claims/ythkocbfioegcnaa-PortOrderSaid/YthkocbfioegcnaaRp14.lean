/-
  What the reference's Rows goes through: bytes taken row by row.
-/
import Derived.Test.YthkocbfioegcnaaBy14
namespace Go.Proofs.Ythkocbfioegcnaa
open Go.RowKit Crc
set_option maxRecDepth 20000
set_option linter.unusedSimpArgs false
set_option linter.unusedVariables false

def Fit1 (x : Rw) : Prop := 0 ≤ x.t ∧ x.t < 256 ∧ x.k.size < 256 ∧ x.v.size < 256
theorem PortOf.parts {b : List UInt8} {l : List Rw} (h : PortOf b l) : b = (headL ++ be 2 l.length) ++ (rowsL l ++ sumL (bodyL l)) := by
  rw [← h.eq, portL, bodyL, List.append_assoc]
theorem PortOf.take6 {b : List UInt8} {l : List Rw} (h : PortOf b l) : b.take 6 = headL ++ be 2 l.length := by
  have e := h.parts
  rw [e, List.take_append_of_le_length (by simp [headL, be_length]), List.take_of_length_le (by simp [headL, be_length])]
theorem be_two (n : Nat) : be 2 n = [UInt8.ofNat (n / 256), UInt8.ofNat n] := rfl
theorem PortOf.count {b : List UInt8} {l : List Rw} (h : PortOf b l) {x y : UInt8} (h4 : b[4]? = some x) (h5 : b[5]? = some y) : l.length = x.toNat * 256 + y.toNat := by
  have e := h.parts
  rw [be_two] at e
  rw [e] at h4 h5
  have h4 : some (UInt8.ofNat (l.length / 256)) = some x := h4
  have h5 : some (UInt8.ofNat l.length) = some y := h5
  obtain rfl := Option.some.inj h4
  obtain rfl := Option.some.inj h5
  have := h.few
  rw [UInt8.toNat_ofNat', UInt8.toNat_ofNat']
  omega
theorem PortOf.long {b : List UInt8} {l : List Rw} (h : PortOf b l) : 10 ≤ b.length := by
  rw [← h.eq, portL_length]
  omega
theorem PortOf.take4 {b : List UInt8} {l : List Rw} (h : PortOf b l) : b.take 4 = headL := by
  have e := congrArg (List.take 4) h.take6
  rw [List.take_take] at e
  exact e
/-- Within: some rows have been taken, n of them in all. -/
structure Wit (b : List UInt8) (p : Nat) (acc : List Rw) : Prop where
  ris : Ris acc
  at_ : p = 6 + (rowsL acc).length
  le : p + 4 ≤ b.length
  eq : b = b.take 6 ++ (rowsL acc ++ b.drop p)
theorem Wit.start {b : List UInt8} (h : 10 ≤ b.length) : Wit b 6 [] := ⟨Ris.nil, rfl, by omega, by rw [rowsL_nil, List.nil_append, List.take_append_drop]⟩
theorem Wit.one {b : List UInt8} {p : Nat} {acc l : List Rw} (h : Wit b p acc) (hl : PortOf b l) (hn : acc.length ≤ l.length) : l.take acc.length = acc ∧ b.drop p = rowsL (l.drop acc.length) ++ sumL (bodyL l) := by
  have e1 := h.eq
  have e2 := hl.parts
  rw [← hl.take6] at e2
  have e3 := List.append_cancel_left (e1.symm.trans e2)
  have e4 : rowsL l ++ sumL (bodyL l) = rowsL (l.take acc.length) ++ (rowsL (l.drop acc.length) ++ sumL (bodyL l)) := by
    rw [← List.append_assoc, ← rowsL_append, List.take_append_drop]
  rw [e4] at e3
  have h1 := rdL_rows (r := b.drop p) h.ris.fits
  have h2 := rdL_rows (r := rowsL (l.drop acc.length) ++ sumL (bodyL l)) (hl.ris.take acc.length).fits
  rw [List.length_take, Nat.min_eq_left hn, ← e3, h1] at h2
  refine ⟨h2.symm, ?_⟩
  rw [← h2] at e3
  exact List.append_cancel_left e3
/-- There is one more. -/
theorem Wit.next {b : List UInt8} {p : Nat} {acc l : List Rw} (h : Wit b p acc) (hl : PortOf b l) (hn : acc.length < l.length) : ∃ x r, l[acc.length]? = some x ∧ Fit1 x ∧ b.drop p = rowL x ++ r ∧ 4 ≤ r.length := by
  obtain ⟨_, h2⟩ := h.one hl (by omega)
  rw [List.drop_eq_getElem_cons hn, rowsL_cons, List.append_assoc] at h2
  exact ⟨l[acc.length], _, List.getElem?_eq_getElem hn, hl.ris.fits _ (List.getElem_mem hn), h2, by rw [List.length_append, sumL_length]; omega⟩
theorem drop_at {b : List UInt8} {p j : Nat} : (b.drop p)[j]? = b[p + j]? := by rw [List.getElem?_drop]
theorem rowL_one (x : Rw) (r : List UInt8) : (rowL x ++ r)[1]? = some (UInt8.ofNat x.k.size) := rfl
theorem rowL_two (x : Rw) (r : List UInt8) : (rowL x ++ r)[2 + x.k.size]? = some (UInt8.ofNat x.v.size) := by
  have e : rowL x ++ r = (UInt8.ofNat (x.t % 256).toNat :: UInt8.ofNat x.k.size :: x.k.data.toList) ++ (UInt8.ofNat x.v.size :: (x.v.data.toList ++ r)) := by simp [rowL]
  rw [e, List.getElem?_append_right (by simp only [List.length_cons, size_list]; omega)]
  simp only [List.length_cons, size_list]
  rw [show 2 + x.k.size - (x.k.size + 1 + 1) = 0 by omega]
  rfl
theorem u8_of {n : Nat} (h : n < 256) {k : UInt8} (e : UInt8.ofNat n = k) : n = k.toNat := by
  subst e
  rw [UInt8.toNat_ofNat']
  omega
/-- What a row lacks is told. -/
theorem Wit.no1 {b : List UInt8} {p : Nat} {acc l : List Rw} (h : Wit b p acc) (hl : PortOf b l) (hn : acc.length < l.length) : p + 7 ≤ b.length := by
  obtain ⟨x, r, _, _, he, hr⟩ := h.next hl hn
  have := congrArg List.length he
  rw [List.length_drop, List.length_append, rowL_length] at this
  omega
theorem Wit.no2 {b : List UInt8} {p : Nat} {acc l : List Rw} {k : UInt8} (h : Wit b p acc) (hl : PortOf b l) (hn : acc.length < l.length) (hk : b[p + 1]? = some k) : p + 7 + k.toNat ≤ b.length := by
  obtain ⟨x, r, _, hf, he, hr⟩ := h.next hl hn
  have e1 := congrArg List.length he
  rw [List.length_drop, List.length_append, rowL_length] at e1
  have e2 := drop_at (b := b) (p := p) (j := 1)
  rw [he, rowL_one, hk] at e2
  have := u8_of hf.2.2.1 (Option.some.inj e2)
  omega
theorem Wit.no3 {b : List UInt8} {p : Nat} {acc l : List Rw} {k v : UInt8} (h : Wit b p acc) (hl : PortOf b l) (hn : acc.length < l.length) (hk : b[p + 1]? = some k) (hv : b[p + 2 + k.toNat]? = some v) : p + 7 + k.toNat + v.toNat ≤ b.length := by
  obtain ⟨x, r, _, hf, he, hr⟩ := h.next hl hn
  have e1 := congrArg List.length he
  rw [List.length_drop, List.length_append, rowL_length] at e1
  have e2 := drop_at (b := b) (p := p) (j := 1)
  rw [he, rowL_one, hk] at e2
  have hk2 := u8_of hf.2.2.1 (Option.some.inj e2)
  have e3 := drop_at (b := b) (p := p) (j := 2 + x.k.size)
  rw [he, rowL_two, hk2, ← Nat.add_assoc, hv] at e3
  have := u8_of hf.2.2.2 (Option.some.inj e3)
  omega
def hereK (b : List UInt8) (p : Nat) (k : UInt8) : ByteArray := ⟨((b.drop (p + 2)).take k.toNat).toArray⟩
def hereV (b : List UInt8) (p : Nat) (k v : UInt8) : ByteArray := ⟨((b.drop (p + 2 + k.toNat + 1)).take v.toNat).toArray⟩
def hereR (b : List UInt8) (p : Nat) (t k v : UInt8) : Rw := ⟨(t.toNat : Int), hereK b p k, hereV b p k v⟩
theorem hereK_size {b : List UInt8} {p : Nat} {k : UInt8} (h : p + 2 + k.toNat ≤ b.length) : (hereK b p k).size = k.toNat := by
  show ((b.drop (p + 2)).take k.toNat).toArray.size = _
  rw [List.size_toArray, List.length_take, List.length_drop]
  omega
theorem hereV_size {b : List UInt8} {p : Nat} {k v : UInt8} (h : p + 2 + k.toNat + 1 + v.toNat ≤ b.length) : (hereV b p k v).size = v.toNat := by
  show ((b.drop (p + 2 + k.toNat + 1)).take v.toNat).toArray.size = _
  rw [List.size_toArray, List.length_take, List.length_drop]
  omega
theorem drop_split (b : List UInt8) (i k : Nat) : b.drop i = (b.drop i).take k ++ b.drop (i + k) := by
  have h := (List.take_append_drop k (b.drop i)).symm
  rw [List.drop_drop] at h
  exact h
theorem ofNat_toNat (x : UInt8) : UInt8.ofNat x.toNat = x := by simp
theorem row_here {b : List UInt8} {p : Nat} {t k v : UInt8} (h0 : b[p]? = some t) (h1 : b[p + 1]? = some k) (h2 : b[p + 2 + k.toNat]? = some v) (h3 : p + 2 + k.toNat + 1 + v.toNat ≤ b.length) :
    b.drop p = rowL (hereR b p t k v) ++ b.drop (p + 2 + k.toNat + 1 + v.toNat) := by
  have a0 : b.drop p = t :: b.drop (p + 1) := by
    rw [List.drop_eq_getElem_cons (List.getElem?_eq_some_iff.1 h0).1, (List.getElem?_eq_some_iff.1 h0).2]
  have a1 : b.drop (p + 1) = k :: b.drop (p + 2) := by
    rw [List.drop_eq_getElem_cons (List.getElem?_eq_some_iff.1 h1).1, (List.getElem?_eq_some_iff.1 h1).2]
  have a2 : b.drop (p + 2) = (b.drop (p + 2)).take k.toNat ++ b.drop (p + 2 + k.toNat) := drop_split b _ _
  have a3 : b.drop (p + 2 + k.toNat) = v :: b.drop (p + 2 + k.toNat + 1) := by
    rw [List.drop_eq_getElem_cons (List.getElem?_eq_some_iff.1 h2).1, (List.getElem?_eq_some_iff.1 h2).2]
  have a4 : b.drop (p + 2 + k.toNat + 1) = (b.drop (p + 2 + k.toNat + 1)).take v.toNat ++ b.drop (p + 2 + k.toNat + 1 + v.toNat) := drop_split b _ _
  have hk : (hereK b p k).data.toList = (b.drop (p + 2)).take k.toNat := by simp [hereK]
  have hv : (hereV b p k v).data.toList = (b.drop (p + 2 + k.toNat + 1)).take v.toNat := by simp [hereV]
  have ht : ((t.toNat : Int) % 256).toNat = t.toNat := by have := t.toNat_lt; omega
  have e : rowL (hereR b p t k v) = t :: k :: ((b.drop (p + 2)).take k.toNat ++ v :: (b.drop (p + 2 + k.toNat + 1)).take v.toNat) := by
    show UInt8.ofNat ((t.toNat : Int) % 256).toNat :: (UInt8.ofNat (hereK b p k).size :: (hereK b p k).data.toList ++ (UInt8.ofNat (hereV b p k v).size :: (hereV b p k v).data.toList)) = _
    rw [hereK_size (by omega), hereV_size h3, hk, hv, ht, ofNat_toNat, ofNat_toNat, ofNat_toNat]
    rfl
  rw [a0, a1, e]
  show _ = t :: k :: (_ ++ _)
  rw [List.append_assoc, List.cons_append, ← a4, ← a3, ← a2]
theorem hereR_fit {b : List UInt8} {p : Nat} {t k v : UInt8} (h3 : p + 2 + k.toNat + 1 + v.toNat ≤ b.length) : Fit1 (hereR b p t k v) := by
  have := t.toNat_lt
  have := k.toNat_lt
  have := v.toNat_lt
  refine ⟨?_, ?_, ?_, ?_⟩
  · show (0 : Int) ≤ (t.toNat : Int); omega
  · show (t.toNat : Int) < 256; omega
  · show (hereK b p k).size < 256; rw [hereK_size (by omega)]; omega
  · show (hereV b p k v).size < 256; rw [hereV_size h3]; omega
/-- The row that is there is the next one. -/
theorem Wit.same {b : List UInt8} {p : Nat} {acc l : List Rw} {x : Rw} {r : List UInt8} (h : Wit b p acc) (hl : PortOf b l) (hn : acc.length < l.length) (hx : Fit1 x) (he : b.drop p = rowL x ++ r) : l[acc.length]? = some x := by
  obtain ⟨y, s, h1, h2, h3, _⟩ := h.next hl hn
  rw [h3] at he
  have a := (rd_row (r := s) h2).1
  rw [he, (rd_row (r := r) hx).1] at a
  rw [h1, a]
theorem Wit.more {b : List UInt8} {p q : Nat} {acc : List Rw} {x : Rw} (h : Wit b p acc) (hr : Ris (acc ++ [x])) (he : b.drop p = rowL x ++ b.drop q) (hq : q = p + (rowL x).length) (hle : q + 4 ≤ b.length) : Wit b q (acc ++ [x]) :=
  ⟨hr, by rw [rowsL_snoc, List.length_append, hq, h.at_]; omega, hle, by
    have e := h.eq
    rw [he] at e
    rw [rowsL_snoc, List.append_assoc]
    exact e⟩
/-- A row that may not be, or doesn't come behind the last one. -/
theorem Wit.bad {b : List UInt8} {p : Nat} {acc l : List Rw} {x : Rw} {r : List UInt8} (h : Wit b p acc) (hl : PortOf b l) (hn : acc.length < l.length) (hx : Fit1 x) (he : b.drop p = rowL x ++ r) : Ris (acc ++ [x]) := by
  have h1 := h.same hl hn hx he
  have h2 := (h.one hl (by omega)).1
  have h3 : l.take (acc.length + 1) = acc ++ [x] := by rw [List.take_add_one, h1, h2]; rfl
  rw [← h3]
  exact hl.ris.take _
theorem Wit.all {b : List UInt8} {p : Nat} {acc l : List Rw} (h : Wit b p acc) (hl : PortOf b l) (hn : acc.length = l.length) : l = acc := by
  have h2 := (h.one hl (by omega)).1
  rwa [hn, List.take_length] at h2
end Go.Proofs.Ythkocbfioegcnaa
