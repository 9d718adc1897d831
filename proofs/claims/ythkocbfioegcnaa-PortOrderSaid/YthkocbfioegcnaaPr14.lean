/-
  Stage 14's data: rows, their encoding, what bytes tell; nothing of the program.
-/
import Derived.Test.YthkocbfioegcnaaLess
import Derived.Test.YthkocbfioegcnaaCrc
namespace Go.Proofs.Ythkocbfioegcnaa
open Go.RowKit Crc
set_option maxRecDepth 20000
set_option linter.unusedSimpArgs false
set_option linter.unusedVariables false

structure Rw where
  t : Int
  k : ByteArray
  v : ByteArray
instance : Inhabited Rw := ⟨⟨0, ⟨#[]⟩, ⟨#[]⟩⟩⟩
def okR (x : Rw) : Bool := rowOkB x.t x.k x.v
def lessR (a b : Rw) : Bool := lessB a.t a.k b.t b.k
/-- Each comes behind the one ahead of it. -/
def Chn : List Rw → Prop
  | x :: y :: l => lessR x y = true ∧ Chn (y :: l)
  | _ => True
structure Ris (l : List Rw) : Prop where
  ok : ∀ x ∈ l, okR x = true
  ch : Chn l
theorem chn_cons {x : Rw} {l : List Rw} : Chn (x :: l) ↔ (∀ y, l.head? = some y → lessR x y = true) ∧ Chn l := by
  cases l with
  | nil => exact ⟨fun _ => ⟨(fun y h => (by cases h)), trivial⟩, fun _ => trivial⟩
  | cons z l => exact ⟨fun h => ⟨fun y hy => by obtain rfl := Option.some.inj hy; exact h.1, h.2⟩, fun h => ⟨h.1 z rfl, h.2⟩⟩
theorem chn_append {b : List Rw} : ∀ {a : List Rw}, Chn (a ++ b) ↔ Chn a ∧ Chn b ∧ ∀ x y, a.getLast? = some x → b.head? = some y → lessR x y = true
  | [] => ⟨fun h => ⟨trivial, h, fun x y h => (by cases h)⟩, fun h => h.2.1⟩
  | [x] => by
    show Chn (x :: b) ↔ _
    rw [chn_cons]
    exact ⟨fun h => ⟨trivial, h.2, fun z y hz hy => by obtain rfl := Option.some.inj hz; exact h.1 y hy⟩, fun h => ⟨fun y hy => h.2.2 x y rfl hy, h.2.1⟩⟩
  | x :: y :: a => by
    show lessR x y = true ∧ Chn (y :: a ++ b) ↔ (lessR x y = true ∧ Chn (y :: a)) ∧ _
    rw [chn_append (a := y :: a), show (x :: y :: a).getLast? = (y :: a).getLast? from rfl]
    exact ⟨fun h => ⟨⟨h.1, h.2.1⟩, h.2.2⟩, fun h => ⟨h.1.1, h.1.2, h.2⟩⟩
theorem chn_at : ∀ {l : List Rw} {i : Nat} {x y : Rw}, Chn l → l[i]? = some x → l[i + 1]? = some y → lessR x y = true
  | [], i, x, y, _, h, _ => by simp at h
  | [a], i, x, y, _, _, h => by simp at h
  | a :: b :: l, 0, x, y, hc, h1, h2 => by
    obtain rfl : a = x := by simpa using h1
    obtain rfl : b = y := by simpa using h2
    exact hc.1
  | a :: b :: l, i + 1, x, y, hc, h1, h2 => chn_at hc.2 (by simpa using h1) (by simpa using h2)
theorem last_at {l : List Rw} {i : Nat} {x : Rw} (h : l[i]? = some x) : (l.take (i + 1)).getLast? = some x := by
  have hlt := (List.getElem?_eq_some_iff.1 h).1
  rw [List.getLast?_eq_getElem?, List.length_take, List.getElem?_take, if_pos (by omega), show min (i + 1) l.length - 1 = i by omega]
  exact h
theorem Ris.nil : Ris [] := ⟨fun x h => (by cases h), trivial⟩
theorem Ris.snoc {l : List Rw} {x : Rw} : Ris (l ++ [x]) ↔ Ris l ∧ okR x = true ∧ ∀ y, l.getLast? = some y → lessR y x = true := by
  constructor
  · intro h
    obtain ⟨h1, _, h3⟩ := chn_append.1 h.ch
    exact ⟨⟨fun y hy => h.ok y (List.mem_append_left _ hy), h1⟩, h.ok x (by simp), fun y hy => h3 y x hy rfl⟩
  · rintro ⟨h1, h2, h3⟩
    refine ⟨fun y hy => (List.mem_append.1 hy).elim (h1.ok y) (fun hy => by rw [List.mem_singleton.1 hy]; exact h2), chn_append.2 ⟨h1.ch, trivial, fun a b ha hb => ?_⟩⟩
    obtain rfl := Option.some.inj hb
    exact h3 a ha
theorem Ris.take {l : List Rw} (h : Ris l) (n : Nat) : Ris (l.take n) := by
  have h2 := h.ch
  rw [← List.take_append_drop n l] at h2
  exact ⟨fun x hx => h.ok x (List.mem_of_mem_take hx), (chn_append.1 h2).1⟩
/-- A row put in its place. -/
theorem Ris.put {a c : List Rw} {x : Rw} (h : Ris (a ++ c)) (hx : okR x = true) (h1 : ∀ y, a.getLast? = some y → lessR y x = true) (h2 : ∀ y, c.head? = some y → lessR x y = true) : Ris (a ++ x :: c) := by
  obtain ⟨c1, c2, _⟩ := chn_append.1 h.ch
  refine ⟨fun y hy => ?_, chn_append.2 ⟨c1, chn_cons.2 ⟨h2, c2⟩, fun p q hp hq => by obtain rfl := Option.some.inj hq; exact h1 p hp⟩⟩
  rcases List.mem_append.1 hy with hy | hy
  · exact h.ok y (List.mem_append_left _ hy)
  · rcases List.mem_cons.1 hy with rfl | hy
    · exact hx
    · exact h.ok y (List.mem_append_right _ hy)
noncomputable def risB (l : List Rw) : Bool := @decide (Ris l) (Classical.propDecidable _)
theorem risB_yes {l : List Rw} (h : Ris l) : risB l = true := @decide_eq_true _ (Classical.propDecidable _) h
theorem risB_no {l : List Rw} (h : ¬ Ris l) : risB l = false := @decide_eq_false _ (Classical.propDecidable _) h
theorem risB_iff {l : List Rw} : risB l = true ↔ Ris l := ⟨fun h => @of_decide_eq_true _ (Classical.propDecidable _) h, risB_yes⟩

/-! The encoding. -/
def rowL (x : Rw) : List UInt8 := UInt8.ofNat (x.t % 256).toNat :: (UInt8.ofNat x.k.size :: x.k.data.toList ++ (UInt8.ofNat x.v.size :: x.v.data.toList))
def rowsL (l : List Rw) : List UInt8 := l.flatMap rowL
def headL : List UInt8 := [84, 78, 77, 49]
def bodyL (l : List Rw) : List UInt8 := headL ++ be 2 l.length ++ rowsL l
def sumL (b : List UInt8) : List UInt8 := be 4 (crc b).toNat
def portL (l : List Rw) : List UInt8 := bodyL l ++ sumL (bodyL l)
theorem size_list (s : ByteArray) : s.data.toList.length = s.size := rfl
theorem rowL_length (x : Rw) : (rowL x).length = 3 + x.k.size + x.v.size := by
  simp only [rowL, List.length_cons, List.length_append, size_list]
  omega
theorem rowsL_nil : rowsL [] = [] := rfl
theorem rowsL_cons (x : Rw) (l : List Rw) : rowsL (x :: l) = rowL x ++ rowsL l := rfl
theorem rowsL_append (a b : List Rw) : rowsL (a ++ b) = rowsL a ++ rowsL b := List.flatMap_append
theorem rowsL_snoc (a : List Rw) (x : Rw) : rowsL (a ++ [x]) = rowsL a ++ rowL x := by rw [rowsL_append]; simp [rowsL]
theorem bodyL_length (l : List Rw) : (bodyL l).length = 6 + (rowsL l).length := by
  simp only [bodyL, List.length_append, be_length, headL, List.length_cons, List.length_nil]
theorem sumL_length (b : List UInt8) : (sumL b).length = 4 := be_length _ _
theorem portL_length (l : List Rw) : (portL l).length = 10 + (rowsL l).length := by
  rw [portL, List.length_append, bodyL_length, sumL_length]
  omega
/-- Rows whose parts fit their bytes. -/
def Fits (l : List Rw) : Prop := ∀ x ∈ l, 0 ≤ x.t ∧ x.t < 256 ∧ x.k.size < 256 ∧ x.v.size < 256
theorem okR_iff {x : Rw} : okR x = true ↔ 0 ≤ x.t ∧ x.t < 4 ∧ x.k.size ≤ 15 ∧ x.v.size ≤ 21 := rightB_iff
theorem Ris.fits {l : List Rw} (h : Ris l) : Fits l := fun x hx => by
  have := okR_iff.1 (h.ok x hx)
  omega
theorem rowsL_le {l : List Rw} {m : Nat} (h : ∀ x ∈ l, x.k.size + x.v.size ≤ m) : (rowsL l).length ≤ l.length * (3 + m) := by
  induction l with
  | nil => simp [rowsL]
  | cons x l ih =>
    have h1 := ih (fun y hy => h y (List.mem_cons_of_mem _ hy))
    have h2 := h x (by simp)
    rw [rowsL_cons, List.length_append, rowL_length, List.length_cons, Nat.add_mul]
    omega
theorem Ris.size {l : List Rw} (h : Ris l) : (rowsL l).length ≤ l.length * 39 := rowsL_le (m := 36) (fun x hx => by have := okR_iff.1 (h.ok x hx); omega)

/-! What is read. -/
def rdR (s : St) : Rw := ⟨(s.num 1 : Int), ⟨(s.numSt 1).text.toArray⟩, ⟨((s.numSt 1).textSt).text.toArray⟩⟩
def rdS (s : St) : St := ((s.numSt 1).textSt).textSt
def rdL : Nat → St → List Rw
  | 0, _ => []
  | n + 1, s => rdR s :: if (rdS s).bad = true then [] else rdL n (rdS s)
def readN (b : List UInt8) : Nat := ((⟨b, false⟩ : St).take 4).num 2
def readL (b : List UInt8) : List Rw := rdL (readN b) (((⟨b, false⟩ : St).take 4).numSt 2)
theorem rdL_length : ∀ n s, (rdL n s).length ≤ n
  | 0, s => Nat.le_refl _
  | n + 1, s => by
    unfold rdL
    split
    · simp
    · rw [List.length_cons]
      exact Nat.succ_le_succ (rdL_length n _)
theorem readN_lt (b : List UInt8) : readN b < 65536 := by
  unfold readN St.num
  rw [if_pos (by omega)]
  have h1 := val_lt (((⟨b, false⟩ : St).take 4).got 2)
  have h2 : (((⟨b, false⟩ : St).take 4).got 2).length ≤ 2 := by
    unfold St.got
    split
    · rw [List.length_take]; exact Nat.min_le_left _ _
    · exact Nat.zero_le _
  have h3 : 256 ^ (((⟨b, false⟩ : St).take 4).got 2).length ≤ 256 ^ 2 := Nat.pow_le_pow_right (by omega) h2
  omega
theorem str_back (s : ByteArray) : (⟨s.data.toList.toArray⟩ : ByteArray) = s := by simp
theorem rd_row {x : Rw} {r : List UInt8} (h : 0 ≤ x.t ∧ x.t < 256 ∧ x.k.size < 256 ∧ x.v.size < 256) : rdR ⟨rowL x ++ r, false⟩ = x ∧ rdS ⟨rowL x ++ r, false⟩ = ⟨r, false⟩ := by
  obtain ⟨h0, h1, h2, h3⟩ := h
  have e : rowL x ++ r = UInt8.ofNat (x.t % 256).toNat :: (UInt8.ofNat x.k.data.toList.length :: x.k.data.toList ++ (UInt8.ofNat x.v.data.toList.length :: x.v.data.toList ++ r)) := by
    simp [rowL, size_list]
  obtain ⟨a1, a2⟩ := St.byte_num (UInt8.ofNat (x.t % 256).toNat) (UInt8.ofNat x.k.data.toList.length :: x.k.data.toList ++ (UInt8.ofNat x.v.data.toList.length :: x.v.data.toList ++ r))
  obtain ⟨b1, b2⟩ := St.text_ofR x.k.data.toList (UInt8.ofNat x.v.data.toList.length :: x.v.data.toList ++ r) (by rw [size_list]; omega)
  obtain ⟨c1, c2⟩ := St.text_ofR x.v.data.toList r (by rw [size_list]; omega)
  unfold rdR rdS
  rw [e, a1, a2, b1, b2, c1, c2, str_back, str_back]
  refine ⟨?_, rfl⟩
  have : ((UInt8.ofNat (x.t % 256).toNat).toNat : Int) = x.t := by
    rw [UInt8.toNat_ofNat']
    omega
  rw [this]
theorem rdL_rows : ∀ {l : List Rw} {r : List UInt8}, Fits l → rdL l.length ⟨rowsL l ++ r, false⟩ = l
  | [], r, _ => rfl
  | x :: l, r, h => by
    obtain ⟨h1, h2⟩ := rd_row (r := rowsL l ++ r) (h x (by simp))
    rw [List.length_cons, rowsL_cons, List.append_assoc, rdL, h1, h2, if_neg (by simp), rdL_rows (fun y hy => h y (List.mem_cons_of_mem _ hy))]
theorem read_head (n : Nat) (r : List UInt8) (hn : n < 65536) : readN (headL ++ be 2 n ++ r) = n ∧ ((⟨headL ++ be 2 n ++ r, false⟩ : St).take 4).numSt 2 = ⟨r, false⟩ := by
  unfold readN
  rw [List.append_assoc, (St.some_take headL (be 2 n ++ r) 4 rfl).1]
  obtain ⟨h1, h2⟩ := St.num_some 2 n r (by omega) (by omega)
  have h1 : (⟨be 2 n ++ r, false⟩ : St).num 2 = n % 256 ^ 2 := h1
  have h2 : (⟨be 2 n ++ r, false⟩ : St).numSt 2 = ⟨r, false⟩ := h2
  rw [h1, h2]
  exact ⟨Nat.mod_eq_of_lt (by omega), rfl⟩
theorem read_body {l : List Rw} {r : List UInt8} (h : Fits l) (hn : l.length < 65536) : readL (bodyL l ++ r) = l := by
  unfold readL bodyL
  rw [List.append_assoc]
  obtain ⟨h1, h2⟩ := read_head l.length (rowsL l ++ r) hn
  rw [h1, h2, rdL_rows h]
theorem read_port {l : List Rw} (h : Fits l) (hn : l.length < 65536) : readL (portL l) = l := read_body h hn
theorem readL_length (b : List UInt8) : (readL b).length < 65536 := Nat.lt_of_le_of_lt (rdL_length _ _) (readN_lt b)
/-- The bytes are those of rows that may be, in order. -/
structure PortOf (b : List UInt8) (l : List Rw) : Prop where
  ris : Ris l
  few : l.length < 65536
  eq : portL l = b
theorem PortOf.read {b : List UInt8} {l : List Rw} (h : PortOf b l) : readL b = l := by rw [← h.eq]; exact read_port h.ris.fits h.few
theorem PortOf.one {b : List UInt8} {l l' : List Rw} (h : PortOf b l) (h' : PortOf b l') : l = l' := h.read.symm.trans h'.read
/-- What Decode answers: the rows, the error. -/
inductive DecR (b : List UInt8) : List Rw → Int → Prop
  | form : (∀ l, ¬ PortOf b l) → DecR b [] 9
  | quota (l) : PortOf b l → 30 < l.length → DecR b [] 7
  | ok (l) : PortOf b l → l.length ≤ 30 → DecR b l 0
theorem DecR.one {b : List UInt8} {l l' : List Rw} {e e' : Int} (h : DecR b l e) (h' : DecR b l' e') : l = l' ∧ e = e' := by
  cases h with
  | form h =>
    cases h' with
    | form _ => exact ⟨rfl, rfl⟩
    | quota m h2 _ => exact absurd h2 (h m)
    | ok m h2 _ => exact absurd h2 (h _)
  | quota m h hl =>
    cases h' with
    | form h2 => exact absurd h (h2 m)
    | quota _ _ _ => exact ⟨rfl, rfl⟩
    | ok m h2 hl2 => rw [h.one h2] at hl; omega
  | ok m h hl =>
    cases h' with
    | form h2 => exact absurd h (h2 _)
    | quota _ h2 hl2 => rw [← h.one h2] at hl2; omega
    | ok m h2 hl2 => exact ⟨h.one h2, rfl⟩
/-- By reading. -/
theorem DecR.of_read {b : List UInt8} (h : ¬ (risB (readL b) = true ∧ portL (readL b) = b)) : DecR b [] 9 := .form fun l hl => h (by rw [hl.read]; exact ⟨risB_yes hl.ris, hl.eq⟩)
theorem PortOf.of_read {b : List UInt8} (h1 : risB (readL b) = true) (h2 : portL (readL b) = b) : PortOf b (readL b) := ⟨risB_iff.1 h1, readL_length b, h2⟩
theorem port_of {l : List Rw} (h : Ris l) (hn : l.length ≤ 30) : PortOf (portL l) l := ⟨h, by omega, rfl⟩
theorem dec_port {l m : List Rw} {e : Int} (h : Ris l) (hn : l.length ≤ 30) (hd : DecR (portL l) m e) : m = l ∧ e = 0 := hd.one (.ok l (port_of h hn) hn)
/-- Rows that may not be, or don't rise. -/
theorem dec_wrong {l m : List Rw} {e : Int} (h : ¬ Ris l) (hf : Fits l) (hn : l.length < 65536) (hd : DecR (portL l) m e) : e = 9 :=
  (hd.one (.form fun l' h' => h (by have := h'.read; rw [read_port hf hn] at this; rw [this]; exact h'.ris))).2
/-- The last byte gone. -/
theorem dec_short {l m : List Rw} {e : Int} (h : Ris l) (hn : l.length ≤ 30) (hd : DecR ((portL l).take ((portL l).length - 1)) m e) : e = 9 := by
  refine (hd.one (.form fun l' h' => ?_)).2
  have e1 : (portL l).take ((portL l).length - 1) = bodyL l ++ (sumL (bodyL l)).take 3 := by
    rw [portL, List.length_append, sumL_length, List.take_append, List.take_of_length_le (by omega), show (bodyL l).length + 4 - 1 - (bodyL l).length = 3 by omega]
  have h1 := h'.read
  rw [e1, read_body h.fits (by omega)] at h1
  have h2 := congrArg List.length h'.eq
  rw [← h1, List.length_take] at h2
  have := portL_length l
  omega
theorem be_inj4 {a b : BitVec 32} (h : be 4 a.toNat = be 4 b.toNat) : a = b := by
  have h1 := congrArg val h
  rw [val_be, val_be] at h1
  have := a.isLt
  have := b.isLt
  apply BitVec.eq_of_toNat_eq
  omega
theorem set_parts {l : List UInt8} {i : Nat} {x y : UInt8} (h : l[i]? = some y) : l = l.take i ++ y :: l.drop (i + 1) ∧ l.set i x = l.take i ++ x :: l.drop (i + 1) := by
  have hlt := (List.getElem?_eq_some_iff.1 h).1
  constructor
  · have e := (List.getElem?_eq_some_iff.1 h).2
    rw [← e]
    simp
  · rw [List.set_eq_take_append_cons_drop, if_pos hlt]
/-- One byte changed. -/
theorem dec_turned {l m : List Rw} {e : Int} {i : Nat} {x y : UInt8} (h : (portL l)[i]? = some y) (hxy : x ≠ y) (hd : DecR ((portL l).set i x) m e) : e = 9 := by
  refine (hd.one (.form fun l' h' => ?_)).2
  have hlt := (List.getElem?_eq_some_iff.1 h).1
  have e1 := h'.eq
  have hl := congrArg List.length e1
  rw [List.length_set, portL, portL, List.length_append, List.length_append, sumL_length, sumL_length] at hl
  have hb : (bodyL l').length = (bodyL l).length := by omega
  rw [portL, portL] at e1
  rcases Nat.lt_or_ge i (bodyL l).length with hi | hi
  · rw [List.set_append_left _ _ hi] at e1
    obtain ⟨e2, e3⟩ := List.append_inj e1 (by rw [List.length_set]; exact hb)
    have e4 := be_inj4 e3
    rw [portL, List.getElem?_append_left hi] at h
    obtain ⟨p1, p2⟩ := set_parts (x := x) h
    rw [e2, p2, ] at e4
    have e5 : crc (bodyL l) = crc (List.take i (bodyL l) ++ y :: List.drop (i + 1) (bodyL l)) := by rw [← p1]
    rw [e5] at e4
    exact crc_one_other _ _ hxy e4
  · rw [List.set_append_right _ _ hi] at e1
    obtain ⟨e2, e3⟩ := List.append_inj e1 hb
    rw [e2] at e3
    rw [portL, List.getElem?_append_right hi] at h
    rw [e3, List.getElem?_set_self (List.getElem?_eq_some_iff.1 (e3 ▸ h) |>.1 |> fun h => by simpa using h)] at h
    exact hxy (Option.some.inj h)
end Go.Proofs.Ythkocbfioegcnaa
