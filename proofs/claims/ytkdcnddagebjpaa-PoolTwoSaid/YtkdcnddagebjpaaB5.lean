/-
  What stage 7's statements lean on, part 5 of 6 (put together by merge.py).
-/
import Derived.Test.YtkdcnddagebjpaaB4
namespace Go.Proofs.Ytkdcnddagebjpaa
set_option linter.unusedSimpArgs false
set_option linter.unusedVariables false
section
/- Contract: a lane's stream. -/
open Go.RowKit
set_option maxRecDepth 20000
set_option linter.unusedSimpArgs false
set_option linter.unusedVariables false

theorem strm_all (gen : Nat) (B : List Sec) (h : B.length = 256) : strm gen (B.drop 256) = [] := by
  rw [List.drop_eq_nil_of_le (by omega)]
  rfl
set_option maxHeartbeats 8000000 in
theorem stream_ln {w : World} {X : Nat → Prop} {dg : Nat} {d : Ds} {g : Nat} {l : Ln} {kv : Value} {gr : Rg} {k : Nat} (h : LnAt w X dg d g l kv) (hf : l.Fit) (hd : DIs d l.r gr k) :
    Calls Try.prog 41 #[ptr g] w fun e w' => ∃ A n c, e = .returned (.tuple #[.slice A n c, .int .i64 0]) ∧ n = (strm l.gen (bankOf gr.secs l.bank)).length ∧ Mine w' w.heap.size (.slice A n c) (strm l.gen (bankOf gr.secs l.bank)) ∧ Below w.heap.size w w' := by
  have H0 := hide h
  have HF := hide hf
  have HD := hide hd
  obtain ⟨i0, hi, hz0, hz1, hz2⟩ := info_parts info8
  have hBl := bankOf_length gr.secs l.bank hf.bank (by rw [hd.fit.secs_length]; exact hd.size)
  have HBG := hide (bankOf_get gr.secs l)
  generalize hBk : bankOf gr.secs l.bank = Bk at *
  clear h hf hd
  unfold ptr
  go_enter Try.func41, Try.ntmps41
  go_wp2
  go_loopw [4, 9] (fun u i wr => ∃ (j : Nat) (acc : List UInt8), j ≤ 256 ∧ i = .int .i64 j ∧ Mine wr w.heap.size u acc ∧ acc.length = 56 * j ∧ strm l.gen Bk = acc ++ strm l.gen (Bk.drop j) ∧ Below w.heap.size w wr) (fun _ i _ => 256 - (intOf i).toNat)
  case atStart => exact ⟨0, [], by omega, rfl, own_nil _ w.heap.size 5, rfl, by simp, Below.refl _ _⟩
  case round =>
    obtain ⟨j, acc, hj, rfl, hm, hal, hst, hb⟩ := hrel
    by_cases hlt : j < 256
    · have HM := hide hm
      have HB := hide hb
      have H1 := hide (H0.out.below hb)
      obtain ⟨b, hb2, hbs, hb64⟩ := HD.out.rd (sec_lt HF.out HD.out hlt)
      have hbk : Bk[j]? = some b := by rw [← hBk, bankOf_get _ _ _ hlt]; exact hbs
      have hst2 := strm_step l.gen Bk j b hbk
      have HST := hide hst
      have HST2 := hide hst2
      have HL64 := hide hb64
      have hread := read_ln H1.out HF.out j (by omega) hb2 hb64
      unfold ptr at hread
      have hle := ld_le l.gen b
      have hlt' : (j : Int) < 256 := by omega
      have hlen := hide (show acc.length + (ld l.gen b).length ≤ 20000 by omega)
      clear hm hb hb2 hbs hbk hst hst2
      obtain ⟨ln, hln⟩ : ∃ ln, (ld l.gen b).length = ln := ⟨_, rfl⟩
      have HLN := hide hln
      rw [hln] at hle
      clear hln
      by_cases h56 : ln < 56
      · have h56' : (ln : Int) < 56 := by omega
        go_wp2_with (first
          | (go_at_call 69; ((with_reducible refine hread.mono ?_); rintro e w2 ⟨A2, c2, rfl, hr2, hb2⟩; have hload := load_ln (gr := gr) (k := k) (H1.out.below hb2) b HL64.out hr2; unfold ptr at hload; rw [HLN.out] at hload; have B2 := hide (HB.out.trans (hb2.mono HB.out.size)); have M2 := hide (HM.out.below hb2); clear hr2 hb2))
          | (go_at_call 70; ((with_reducible refine hload.mono ?_); rintro e w3 ⟨v3, rfl, ⟨A3, c3, rfl, hr3⟩, hb3⟩; have B3 := hide (B2.out.trans (hb3.mono B2.out.size)); have M3 := hide (M2.out.below hb3); have R3 := hide hr3; clear hr3 hb3))
          | (at_builtin; refine wpList_append_rd rfl (.tmp 24) (.tmp 25) 58 rfl (base := w.heap.size) 5 i0 (.int .u8 0) 1 Try.underlying58 hi hz0 hz1 hz2 rfl _ acc.length (u8s acc) rfl M3.out (.slice A3 ln c3) (u8s (ld l.gen b)) rfl R3.out (oneCell_u8s _) (by rw [u8s_length]; have := hlen.out; unfold maxLen; omega) (by rw [u8s_length]; have := hlen.out; omega) B3.out.size ?_; intro v6 w6 own6 grow6 at6; have M6 : Hid (Mine w6 w.heap.size v6 (acc ++ ld l.gen b)) := hide (mine_rd own6); have B6 := hide (B3.out.grown grow6 B3.out.size (fun k hk => M3.out.low k hk)); clear own6 grow6 at6))
        go_ret2
        have e : strm l.gen Bk = acc ++ ld l.gen b := by
          rw [HST.out, HST2.out, if_pos (by rw [HLN.out]; exact h56)]
        rw [e]
        obtain ⟨A9, c9, hu9⟩ := M6.out.form
        subst hu9
        exact ⟨_, _, _, rfl, rfl, M6.out, B6.out⟩
      · have h56' : ¬ (ln : Int) < 56 := by omega
        go_wp2_with (first
          | (go_at_call 69; ((with_reducible refine hread.mono ?_); rintro e w2 ⟨A2, c2, rfl, hr2, hb2⟩; have hload := load_ln (gr := gr) (k := k) (H1.out.below hb2) b HL64.out hr2; unfold ptr at hload; rw [HLN.out] at hload; have B2 := hide (HB.out.trans (hb2.mono HB.out.size)); have M2 := hide (HM.out.below hb2); clear hr2 hb2))
          | (go_at_call 70; ((with_reducible refine hload.mono ?_); rintro e w3 ⟨v3, rfl, ⟨A3, c3, rfl, hr3⟩, hb3⟩; have B3 := hide (B2.out.trans (hb3.mono B2.out.size)); have M3 := hide (M2.out.below hb3); have R3 := hide hr3; clear hr3 hb3))
          | (at_builtin; refine wpList_append_rd rfl (.tmp 24) (.tmp 25) 58 rfl (base := w.heap.size) 5 i0 (.int .u8 0) 1 Try.underlying58 hi hz0 hz1 hz2 rfl _ acc.length (u8s acc) rfl M3.out (.slice A3 ln c3) (u8s (ld l.gen b)) rfl R3.out (oneCell_u8s _) (by rw [u8s_length]; have := hlen.out; unfold maxLen; omega) (by rw [u8s_length]; have := hlen.out; omega) B3.out.size ?_; intro v6 w6 own6 grow6 at6; have M6 : Hid (Mine w6 w.heap.size v6 (acc ++ ld l.gen b)) := hide (mine_rd own6); have B6 := hide (B3.out.grown grow6 B3.out.size (fun k hk => M3.out.low k hk)); clear own6 grow6 at6))
        go_roundw
        case rel => exact ⟨j + 1, acc ++ ld l.gen b, by omega, by go_num, M6.out, by rw [List.length_append, HLN.out]; omega, by rw [HST.out, HST2.out, if_neg (by rw [HLN.out]; exact h56), List.append_assoc], B6.out⟩
        case measure => simp [intOf]; omega
    · obtain rfl : j = 256 := by omega
      rw [strm_all _ _ hBl, List.append_nil] at hst
      obtain ⟨A9, c9, hu9⟩ := hm.form
      subst hu9
      have HM := hide hm
      have HST := hide hst
      clear hm hst
      go_wp2
      go_ret2
      rw [HST.out]
      exact ⟨_, _, _, rfl, rfl, HM.out, hb⟩
end
section
/- Records one behind the other, and what a beginning of them tells (plain data). -/
open Go.RowKit
set_option maxRecDepth 20000

/-- The frames of records, one behind the other. -/
def frsR (l : List Rc) : List UInt8 := (l.map Rc.frame).flatten
theorem frsR_nil : frsR [] = [] := rfl
theorem frsR_cons (r : Rc) (l : List Rc) : frsR (r :: l) = r.frame ++ frsR l := by simp [frsR]
theorem frsR_append (a b : List Rc) : frsR (a ++ b) = frsR a ++ frsR b := by simp [frsR]
theorem frsR_one (r : Rc) : frsR [r] = r.frame := by simp [frsR]
theorem Rc.frame_pos (r : Rc) : 11 ≤ r.frame.length := by rw [r.frame_length]; omega
theorem frsR_take (l : List Rc) (k : Nat) : frsR (l.take k) <+: frsR l := by
  conv => rhs; rw [← List.take_append_drop k l, frsR_append]
  exact List.prefix_append _ _
theorem frsR_length_le (l : List Rc) (h : ∀ r ∈ l, r.Ok) : (frsR l).length ≤ 395 * l.length := by
  induction l with
  | nil => simp [frsR]
  | cons r l ih =>
    have h1 := ih (fun x hx => h x (List.mem_cons_of_mem _ hx))
    have h2 := (h r (List.mem_cons_self ..)).most
    rw [frsR_cons, List.length_append, List.length_cons]
    omega
theorem frsR_ge (l : List Rc) : 11 * l.length ≤ (frsR l).length := by
  induction l with
  | nil => simp
  | cons r l ih =>
    have := r.frame_pos
    rw [frsR_cons, List.length_append, List.length_cons]
    omega
theorem prefix_both {α : Type} {a b l : List α} (ha : a <+: l) (hb : b <+: l) : ∃ x y, a ++ x = b ++ y := by
  obtain ⟨x, hx⟩ := ha
  obtain ⟨y, hy⟩ := hb
  exact ⟨x, y, hx.trans hy.symm⟩
theorem prefix_of_le {α : Type} {a b l : List α} (ha : a <+: l) (hb : b <+: l) (h : a.length ≤ b.length) : a <+: b := List.prefix_of_prefix_length_le ha hb h
/-- What a beginning of records' frames tells. -/
theorem ents_prefix : ∀ (rs all : List Rc) (G rest : List UInt8), (∀ r ∈ rs, r.Ok) → (∀ r ∈ all, r.Ok) → G <+: frsR all → G = frsR rs ++ rest → (∀ r : Rc, r.Ok → ¬ r.frame <+: rest) →
    ∃ k, k ≤ all.length ∧ rs = all.take k ∧ ∀ j, j ≤ all.length → (frsR (all.take j)).length ≤ G.length → j ≤ k
  | [], all, G, rest, _, hall, hG, he, hno => by
    refine ⟨0, Nat.zero_le _, rfl, fun j hj hl => ?_⟩
    rcases Nat.eq_zero_or_pos j with h0 | hpos
    · omega
    · exfalso
      cases all with
      | nil => simp at hj; omega
      | cons a all =>
        obtain ⟨i, rfl⟩ : ∃ i, j = i + 1 := ⟨j - 1, by omega⟩
        rw [List.take_succ_cons, frsR_cons, List.length_append] at hl
        rw [frsR_nil, List.nil_append] at he
        subst he
        refine hno a (hall a (List.mem_cons_self ..)) (prefix_of_le ?_ hG (by omega))
        rw [frsR_cons]
        exact List.prefix_append _ _
  | r :: rs, all, G, rest, hrs, hall, hG, he, hno => by
    cases all with
    | nil =>
      exfalso
      have := hG.length_le
      have h2 := r.frame_pos
      rw [he, frsR_cons, frsR_nil, List.length_append, List.length_append, List.length_nil] at this
      omega
    | cons a all =>
      have hr : r.frame <+: frsR (a :: all) := by
        refine List.IsPrefix.trans ?_ hG
        rw [he, frsR_cons, List.append_assoc]
        exact List.prefix_append _ _
      have ha : a.frame <+: frsR (a :: all) := by rw [frsR_cons]; exact List.prefix_append _ _
      obtain ⟨x, y, hxy⟩ := prefix_both hr ha
      obtain rfl := frame_inj (hrs r (List.mem_cons_self ..)) (hall a (List.mem_cons_self ..)) hxy
      have hG' : frsR rs ++ rest <+: frsR all := by
        rw [he, frsR_cons, frsR_cons, List.append_assoc] at hG
        exact (List.prefix_append_right_inj _).1 hG
      obtain ⟨k, h1, h2, h3⟩ := ents_prefix rs all (frsR rs ++ rest) rest (fun x hx => hrs x (List.mem_cons_of_mem _ hx)) (fun x hx => hall x (List.mem_cons_of_mem _ hx)) hG' rfl hno
      refine ⟨k + 1, by rw [List.length_cons]; omega, by rw [List.take_succ_cons, ← h2], fun j hj hl => ?_⟩
      cases j with
      | zero => omega
      | succ j =>
        rw [List.take_succ_cons, frsR_cons, List.length_append, he, frsR_cons, List.append_assoc, List.length_append] at hl
        have := h3 j (by simpa using hj) (by omega)
        omega
/-- All of them, where all is there. -/
theorem ents_all {rs all : List Rc} {G rest : List UInt8} (hrs : ∀ r ∈ rs, r.Ok) (hall : ∀ r ∈ all, r.Ok) (hG : G = frsR all) (he : G = frsR rs ++ rest) (hno : ∀ r : Rc, r.Ok → ¬ r.frame <+: rest) : rs = all ∧ rest = [] := by
  obtain ⟨k, h1, h2, h3⟩ := ents_prefix rs all G rest hrs hall (by rw [hG]; exact List.prefix_refl _) he hno
  have := h3 all.length (Nat.le_refl _) (by rw [List.take_length, hG]; exact Nat.le_refl _)
  obtain rfl : k = all.length := by omega
  rw [List.take_length] at h2
  subst h2
  refine ⟨rfl, ?_⟩
  rw [hG] at he
  exact (List.append_right_eq_self.1 he.symm)
end
section
/- Records in a slice, their cells in blocks of a set: what keeps such a reading; entries. -/
open Go.RowKit
set_option maxRecDepth 20000
set_option linter.unusedSimpArgs false
set_option linter.unusedVariables false

/-- v reads as xs, its array in a block of X. -/
def RIn (w : World) (X : Nat → Prop) (v : Value) (xs : List Value) : Prop :=
  ∃ A c, v = .slice A xs.length c ∧ xs.length ≤ c ∧ (0 < xs.length → ∃ b o, A = some ⟨b, o, none⟩ ∧ b < w.heap.size ∧ X b ∧ ∀ j u, xs[j]? = some u → w.cell? ⟨b, o + j, none⟩ = some u)
theorem RIn.rd {w : World} {X : Nat → Prop} {v : Value} {xs : List Value} (h : RIn w X v xs) : Rd w v xs := by
  obtain ⟨A, c, e, hc, h⟩ := h
  exact ⟨A, c, e, hc, fun hn => by obtain ⟨b, o, e, hb, _, hr⟩ := h hn; exact ⟨b, o, e, hb, hr⟩⟩
theorem RIn.keep {w w' : World} {X Y : Nat → Prop} {v : Value} {xs : List Value} (h : RIn w X v xs) (hk : ∀ p : Addr, p.block < w.heap.size → X p.block → w'.cell? p = w.cell? p) (hs : w.heap.size ≤ w'.heap.size) (hY : ∀ k, k < w.heap.size → X k → Y k) : RIn w' Y v xs := by
  obtain ⟨A, c, e, hc, h⟩ := h
  refine ⟨A, c, e, hc, fun hn => ?_⟩
  obtain ⟨b, o, e, hb, hx, hr⟩ := h hn
  exact ⟨b, o, e, Nat.lt_of_lt_of_le hb hs, hY b hb hx, fun j u hu => (hk ⟨b, o + j, none⟩ hb hx).trans (hr j u hu)⟩
theorem RIn.of_row {w : World} {B : Nat} {v : Value} {xs : List Value} (h : Row w B v xs) (hB : B ≤ w.heap.size) : RIn w (fun k => k < B) v xs := by
  obtain ⟨A, c, e, hc, h⟩ := h
  refine ⟨A, c, e, hc, fun hn => ?_⟩
  obtain ⟨b, o, e, hb, hr⟩ := h hn
  exact ⟨b, o, e, by omega, hb, hr⟩
theorem RIn.of_rd {w : World} {v : Value} {xs : List Value} (h : Rd w v xs) : RIn w (fun k => k < w.heap.size) v xs := RIn.of_row h (Nat.le_refl _)
theorem RIn.of_btw {w : World} {lo hi : Nat} {v : Value} {xs : List Value} (h : Btw w lo hi v xs) (hB : hi ≤ w.heap.size) : RIn w (fun k => lo ≤ k ∧ k < hi) v xs := by
  obtain ⟨A, c, e, hc, h⟩ := h
  refine ⟨A, c, e, hc, fun hn => ?_⟩
  obtain ⟨b, o, e, hlo, hhi, hr⟩ := h hn
  exact ⟨b, o, e, by omega, ⟨hlo, hhi⟩, hr⟩
/-- What a record's cells are, its slice told. -/
def rcv (r : Rc) (D : Value) : List Value := [.int .i64 (r.k : Int), .int .i64 (r.t : Int), .int .i64 (r.p : Int), .int .i64 (r.s : Int), .string r.b, .string r.a, .string r.i, D]
/-- v is a slice of records, n cells each, of which the first ones are the record's. -/
def RecsN (n : Nat) (w : World) (X : Nat → Prop) (v : Value) (rs : List Rc) : Prop :=
  ∃ A c, v = .slice A rs.length c ∧ rs.length ≤ c ∧ (0 < rs.length → ∃ b o, A = some ⟨b, o, none⟩ ∧ b < w.heap.size ∧ X b ∧ ∀ j r, rs[j]? = some r → ∃ D, w.rangeAt b (o + j * n) (rcv r D) ∧ RIn w X D (u64s r.ds))
abbrev RecsAt (w : World) (X : Nat → Prop) (v : Value) (rs : List Rc) : Prop := RecsN 8 w X v rs
theorem rangeAt_keep {w w' : World} {b o : Nat} {l : List Value} (h : w.rangeAt b o l) (hk : ∀ p : Addr, p.block = b → w'.cell? p = w.cell? p) : w'.rangeAt b o l := fun j u hu => (hk _ rfl).trans (h j u hu)
section
variable {n : Nat} {w w' : World} {X Y : Nat → Prop} {v : Value} {rs : List Rc}
theorem RecsN.keep (h : RecsN n w X v rs) (hk : ∀ p : Addr, p.block < w.heap.size → X p.block → w'.cell? p = w.cell? p) (hs : w.heap.size ≤ w'.heap.size) (hY : ∀ k, k < w.heap.size → X k → Y k) : RecsN n w' Y v rs := by
  obtain ⟨A, c, e, hc, h⟩ := h
  refine ⟨A, c, e, hc, fun hn => ?_⟩
  obtain ⟨b, o, e, hb, hx, hr⟩ := h hn
  refine ⟨b, o, e, Nat.lt_of_lt_of_le hb hs, hY b hb hx, fun j r hj => ?_⟩
  obtain ⟨D, h1, h2⟩ := hr j r hj
  exact ⟨D, rangeAt_keep h1 (fun p hp => hk p (by omega) (by rw [hp]; exact hx)), h2.keep hk hs hY⟩
theorem RecsN.below (h : RecsN n w X v rs) (hb : Below w.heap.size w w') : RecsN n w' X v rs := h.keep (fun p hp _ => hb.cell hp) hb.size (fun _ _ h => h)
theorem RecsN.out (h : RecsN n w X v rs) (ho : Out X w w') : RecsN n w' X v rs := h.keep (fun p hp hx => Kept.cell ho hp (fun hn => hn hx)) ho.size (fun _ _ h => h)
theorem RecsN.sub (h : RecsN n w X v rs) (hY : ∀ k, k < w.heap.size → X k → Y k) : RecsN n w Y v rs := h.keep (fun _ _ _ => rfl) (Nat.le_refl _) hY
theorem RecsN.nil_ (w : World) (X : Nat → Prop) : RecsN n w X (.slice none 0 0) [] := ⟨none, 0, rfl, Nat.le_refl _, fun h => absurd h (by simp)⟩
theorem RecsN.form (h : RecsN n w X v rs) : ∃ A c, v = .slice A rs.length c ∧ rs.length ≤ c := by
  obtain ⟨A, c, e, hc, _⟩ := h
  exact ⟨A, c, e, hc⟩
/-- One of them. -/
theorem RecsN.get {A : Option Addr} {c m : Nat} (h : RecsN n w X (.slice A m c) rs) {j : Nat} {r : Rc} (hj : rs[j]? = some r) : ∃ b o, A = some ⟨b, o, none⟩ ∧ b < w.heap.size ∧ X b ∧ ∃ A2 c2, w.rangeAt b (o + j * n) [.int .i64 (r.k : Int), .int .i64 (r.t : Int), .int .i64 (r.p : Int), .int .i64 (r.s : Int), .string r.b, .string r.a, .string r.i, .slice A2 r.ds.length c2] ∧ RIn w X (.slice A2 r.ds.length c2) (u64s r.ds) := by
  have hlt := (List.getElem?_eq_some_iff.1 hj).1
  obtain ⟨A', c', e, hc, h⟩ := h
  injection e with e1 e2 e3
  subst e1 e3
  obtain ⟨b, o, e, hb, hx, hr⟩ := h (by omega)
  obtain ⟨D, h1, h2⟩ := hr j r hj
  obtain ⟨A2, c2, eD, _, _⟩ := id h2
  subst eD
  rw [u64s_length] at h1 h2
  exact ⟨b, o, e, hb, hx, A2, c2, h1, h2⟩
end
theorem infoRec : (Try.prog.info? 44).map (·.size) = some 8 := by kernel_rfl
/-- A record's right, as a test. -/
def Rc.okB (r : Rc) : Bool := rightB r.k r.t r.p r.s r.b r.a r.i r.ds.length
theorem Rc.Ok.okB {r : Rc} (h : r.Ok) : r.okB = true := h.rightB
end
section
/- Contracts: frames; a lane's Append. -/
open Go.RowKit
set_option maxRecDepth 20000
set_option linter.unusedSimpArgs false
set_option linter.unusedVariables false

/-- The error that records are refused with. -/
def frCode (rs : List Rc) (room : Nat) : Int := if ∀ r ∈ rs, r.okB = true then (if (frsR rs).length ≤ room then 0 else 7) else 1
theorem ok_of {r : Rc} (h : r.okB = true) (hu : ∀ x ∈ r.ds, x < 18446744073709551616) : r.Ok := by
  refine (Rc.right_iff r).1 ?_
  unfold Rc.right
  rw [Bool.and_eq_true, List.all_eq_true]
  exact ⟨h, fun x hx => decide_eq_true (hu x hx)⟩
theorem frsR_succ {rs : List Rc} {j : Nat} {r : Rc} (h : rs[j]? = some r) : frsR (rs.take (j + 1)) = frsR (rs.take j) ++ r.frame := by
  obtain ⟨hj, rfl⟩ := List.getElem?_eq_some_iff.1 h
  rw [List.take_succ_eq_append_getElem hj, frsR_append, frsR_one]
set_option maxHeartbeats 8000000 in
theorem frames_ln {w : World} {X : Nat → Prop} {v : Value} {rs : List Rc} (room : Nat) (hroom : room ≤ 14336) (hn : rs.length ≤ 1000) (hv : RecsAt w X v rs) (hu : ∀ r ∈ rs, ∀ x ∈ r.ds, x < 18446744073709551616) :
    Calls Try.prog 34 #[.int .i64 (room : Int), v] w fun e w' => ∃ A n c, e = .returned (.tuple #[.slice A n c, .int .i64 (frCode rs room)]) ∧ (frCode rs room = 0 → n = (frsR rs).length ∧ Mine w' w.heap.size (.slice A n c) (frsR rs)) ∧ Below w.heap.size w w' := by
  obtain ⟨A0, cap, rfl, _⟩ := hv.form
  have HV := hide hv
  have HU := hide hu
  obtain ⟨i0, hi, hz0, hz1, hz2⟩ := info_parts info8
  clear hv hu
  go_enter Try.func34, Try.ntmps34
  go_wp2
  go_loopw [13] (fun i wr => ∃ j : Nat, j ≤ rs.length ∧ i = .int .i64 j ∧ (∀ r ∈ rs.take j, r.okB = true) ∧ Below w.heap.size w wr) (fun i _ => rs.length - (intOf i).toNat)
  case atStart => exact ⟨0, by omega, rfl, by simp, Below.refl _ _⟩
  case round =>
    obtain ⟨j, hj, rfl, hall, hb⟩ := hrel
    by_cases hlt : j < rs.length
    · obtain ⟨r, hr⟩ : ∃ r, rs[j]? = some r := ⟨_, List.getElem?_eq_getElem hlt⟩
      obtain ⟨b, o, rfl, hb0, hx0, A2, c2, hrange, hrow⟩ := (HV.out.below hb).get hr
      have HRG := hide hrange
      have XIC := hide infoRec
      have hj0 : (0 : Int) ≤ (j : Int) := by omega
      have hj1 : (j : Int) < (rs.length : Int) := by omega
      have HB5 := hide (hb.alloc hb.size (.cells #[.int .i64 (r.k : Int), .int .i64 (r.t : Int), .int .i64 (r.p : Int), .int .i64 (r.s : Int), .string r.b, .string r.a, .string r.i, .slice A2 r.ds.length c2] 44))
      have HR5 := hide (hrow.rd.alloc (.cells #[.int .i64 (r.k : Int), .int .i64 (r.t : Int), .int .i64 (r.p : Int), .int .i64 (r.s : Int), .string r.b, .string r.a, .string r.i, .slice A2 r.ds.length c2] 44))
      have HMEM := hide (List.mem_of_getElem? hr)
      have HALL := hide hall
      have hright := fun W => right_any (r.k : Int) r.t r.p r.s r.b r.a r.i A2 r.ds.length c2 W
      clear hrange hrow hb hall
      cases hok : r.okB
      · have hok2 : rightB r.k r.t r.p r.s r.b r.a r.i r.ds.length = false := hok
        have hcode : frCode rs room = 1 := by
          unfold frCode
          rw [if_neg]
          intro hc
          have := hc r HMEM.out
          rw [hok] at this
          cases this
        have HC := hide hcode
        clear hcode
        simp only [hok2] at hright
        go_wp2_with (first
          | ((with_reducible refine wpList_load_mid rfl 44 (.tmp 15) rfl b (o + j * 8) rfl [.int .i64 (r.k : Int), .int .i64 (r.t : Int), .int .i64 (r.p : Int), .int .i64 (r.s : Int), .string r.b, .string r.a, .string r.i, .slice A2 r.ds.length c2] _ ?_ Try.underlying44 ?_ ?_ ?_); exact HRG.out; rfl; exact XIC.out)
          | (go_at_call 62; ((with_reducible refine (hright _).mono ?_); rintro e w2 ⟨rfl, hb2⟩)))
        go_ret2
        rw [HC.out]
        exact ⟨_, _, _, rfl, fun h => absurd h (by decide), HB5.out.trans (hb2.mono HB5.out.size)⟩
      · have hok2 : rightB r.k r.t r.p r.s r.b r.a r.i r.ds.length = true := hok
        have HALL2 := hide (show ∀ q ∈ rs.take (j + 1), q.okB = true by
          intro q hq
          obtain ⟨hj', e⟩ := List.getElem?_eq_some_iff.1 hr
          rw [List.take_succ_eq_append_getElem hj', List.mem_append, List.mem_singleton, e] at hq
          rcases hq with hq | rfl
          · exact HALL.out q hq
          · exact hok)
        simp only [hok2] at hright
        go_wp2_with (first
          | ((with_reducible refine wpList_load_mid rfl 44 (.tmp 15) rfl b (o + j * 8) rfl [.int .i64 (r.k : Int), .int .i64 (r.t : Int), .int .i64 (r.p : Int), .int .i64 (r.s : Int), .string r.b, .string r.a, .string r.i, .slice A2 r.ds.length c2] _ ?_ Try.underlying44 ?_ ?_ ?_); exact HRG.out; rfl; exact XIC.out)
          | (go_at_call 62; ((with_reducible refine (hright _).mono ?_); rintro e w2 ⟨rfl, hb2⟩)))
        go_roundw
        case rel => exact ⟨j + 1, by omega, by go_num, HALL2.out, HB5.out.trans (hb2.mono HB5.out.size)⟩
        case measure => simp [intOf]; omega
    · obtain rfl : j = rs.length := by omega
      rw [List.take_length] at hall
      have HALL := hide hall
      have HB0 := hide hb
      clear hall hb
      go_wp2
      go_loopw [8, 23] (fun u i wr => ∃ j : Nat, j ≤ rs.length ∧ i = .int .i64 j ∧ Mine wr w.heap.size u (frsR (rs.take j)) ∧ (frsR (rs.take j)).length ≤ room ∧ Below w.heap.size w wr) (fun _ i _ => rs.length - (intOf i).toNat)
      case atStart => exact ⟨0, by omega, rfl, own_nil _ w.heap.size 5, by simp [frsR], HB0.out⟩
      case round =>
        obtain ⟨j, hj, rfl, hm, hln, hb⟩ := hrel
        clear HB0
        by_cases hlt : j < rs.length
        · obtain ⟨r, hr⟩ : ∃ r, rs[j]? = some r := ⟨_, List.getElem?_eq_getElem hlt⟩
          obtain ⟨b, o, rfl, hb0, hx0, A2, c2, hrange, hrow⟩ := (HV.out.below hb).get hr
          have HRG := hide hrange
          have XIC := hide infoRec
          have hj0 : (0 : Int) ≤ (j : Int) := by omega
          have hj1 : (j : Int) < (rs.length : Int) := by omega
          have HB5 := hide (hb.alloc hb.size (.cells #[.int .i64 (r.k : Int), .int .i64 (r.t : Int), .int .i64 (r.p : Int), .int .i64 (r.s : Int), .string r.b, .string r.a, .string r.i, .slice A2 r.ds.length c2] 44))
          have HR5 := hide (hrow.rd.alloc (.cells #[.int .i64 (r.k : Int), .int .i64 (r.t : Int), .int .i64 (r.p : Int), .int .i64 (r.s : Int), .string r.b, .string r.a, .string r.i, .slice A2 r.ds.length c2] 44))
          have HMEM := hide (List.mem_of_getElem? hr)
          have HO := hide (ok_of (HALL.out r HMEM.out) (HU.out r HMEM.out))
          have HM := hide hm
          have HF := hide (frsR_succ hr)
          have HL := hide hln
          have PRE := hide (frsR_take rs (j + 1)).length_le
          have hmost := HO.out.most
          clear hrange hrow hb hm hln
          generalize frsR (rs.take j) = lj at *
          have HL1 := hide (show lj.length + r.frame.length ≤ 100000 by have := HL.out; omega)
          by_cases hq : room < (lj ++ r.frame).length
          · have hcode : frCode rs room = 7 := by
              unfold frCode
              rw [if_pos HALL.out, if_neg]
              have := PRE.out
              rw [HF.out] at this
              omega
            have HC := hide hcode
            have hq' : (room : Int) < ((lj.length + r.frame.length : Nat) : Int) := by rw [List.length_append] at hq; omega
            clear hcode
            go_wp2_with (first
              | ((with_reducible refine wpList_load_mid rfl 44 (.tmp 25) rfl b (o + j * 8) rfl [.int .i64 (r.k : Int), .int .i64 (r.t : Int), .int .i64 (r.p : Int), .int .i64 (r.s : Int), .string r.b, .string r.a, .string r.i, .slice A2 r.ds.length c2] _ ?_ Try.underlying44 ?_ ?_ ?_); exact HRG.out; rfl; exact XIC.out)
              | (go_at_call 63; ((with_reducible refine (enc_told r A2 c2 _ HO.out HR5.out).mono ?_); rintro e w7 ⟨A7, c7, rfl, m7, hb7⟩; have B7 := HB5.out.trans (hb7.mono HB5.out.size); have M7 := (HM.out.alloc (.cells #[.int .i64 (r.k : Int), .int .i64 (r.t : Int), .int .i64 (r.p : Int), .int .i64 (r.s : Int), .string r.b, .string r.a, .string r.i, .slice A2 r.ds.length c2] 44)).below hb7))
              | (at_builtin; refine wpList_append_rd rfl (.tmp 27) (.tmp 29) 58 rfl (base := w.heap.size) 5 i0 (.int .u8 0) 1 Try.underlying58 hi hz0 hz1 hz2 rfl _ lj.length (u8s lj) rfl M7 (.slice A7 r.frame.length c7) (u8s r.frame) rfl m7.rd (oneCell_u8s _) (by rw [u8s_length]; have := HL1.out; unfold maxLen; omega) (by rw [u8s_length]; have := HL1.out; omega) B7.size ?_; intro v8 w8 own8 grow8 at8; have M8 : Mine w8 w.heap.size v8 (lj ++ r.frame) := mine_rd own8; have B8 := B7.grown grow8 B7.size (fun k hk => M7.low k hk); obtain ⟨A8, c8, hu8⟩ := M8.form; rw [List.length_append] at hu8; subst hu8))
            go_ret2
            rw [HC.out]
            exact ⟨_, _, _, rfl, fun h => absurd h (by decide), B8⟩
          · have hq' : ¬ (room : Int) < ((lj.length + r.frame.length : Nat) : Int) := by rw [List.length_append] at hq; omega
            have HQ := hide hq
            clear hq
            go_wp2_with (first
              | ((with_reducible refine wpList_load_mid rfl 44 (.tmp 25) rfl b (o + j * 8) rfl [.int .i64 (r.k : Int), .int .i64 (r.t : Int), .int .i64 (r.p : Int), .int .i64 (r.s : Int), .string r.b, .string r.a, .string r.i, .slice A2 r.ds.length c2] _ ?_ Try.underlying44 ?_ ?_ ?_); exact HRG.out; rfl; exact XIC.out)
              | (go_at_call 63; ((with_reducible refine (enc_told r A2 c2 _ HO.out HR5.out).mono ?_); rintro e w7 ⟨A7, c7, rfl, m7, hb7⟩; have B7 := HB5.out.trans (hb7.mono HB5.out.size); have M7 := (HM.out.alloc (.cells #[.int .i64 (r.k : Int), .int .i64 (r.t : Int), .int .i64 (r.p : Int), .int .i64 (r.s : Int), .string r.b, .string r.a, .string r.i, .slice A2 r.ds.length c2] 44)).below hb7))
              | (at_builtin; refine wpList_append_rd rfl (.tmp 27) (.tmp 29) 58 rfl (base := w.heap.size) 5 i0 (.int .u8 0) 1 Try.underlying58 hi hz0 hz1 hz2 rfl _ lj.length (u8s lj) rfl M7 (.slice A7 r.frame.length c7) (u8s r.frame) rfl m7.rd (oneCell_u8s _) (by rw [u8s_length]; have := HL1.out; unfold maxLen; omega) (by rw [u8s_length]; have := HL1.out; omega) B7.size ?_; intro v8 w8 own8 grow8 at8; have M8 : Mine w8 w.heap.size v8 (lj ++ r.frame) := mine_rd own8; have B8 := B7.grown grow8 B7.size (fun k hk => M7.low k hk); obtain ⟨A8, c8, hu8⟩ := M8.form; rw [List.length_append] at hu8; subst hu8))
            go_roundw
            case rel => exact ⟨j + 1, by omega, by go_num, by rw [HF.out]; exact M8, by rw [HF.out]; have := HQ.out; omega, B8⟩
            case measure => simp [intOf]; omega
        · obtain rfl : j = rs.length := by omega
          rw [List.take_length] at hm hln
          have hcode : frCode rs room = 0 := by
            unfold frCode
            rw [if_pos HALL.out, if_pos hln]
          have HC := hide hcode
          obtain ⟨A9, c9, hu9⟩ := hm.form
          subst hu9
          have HM := hide hm
          clear hcode hm
          go_wp2
          go_ret2
          rw [HC.out]
          exact ⟨_, _, _, rfl, fun _ => ⟨rfl, HM.out⟩, hb⟩
end
section
/- Contracts: a lane's Append. -/
open Go.RowKit
set_option maxRecDepth 20000
set_option linter.unusedSimpArgs false
set_option linter.unusedVariables false

theorem infoRec3 : (Try.prog.info? 44).map (fun i => (i.zero, i.size, i.bytes)) = some (some (.agg #[.int .i64 0, .int .i64 0, .int .i64 0, .int .i64 0, .string ⟨#[]⟩, .string ⟨#[]⟩, .string ⟨#[]⟩, .slice none 0 0]), 8, 104) := by kernel_rfl
/-- It is a slice of this one record. -/
def Say.rec1 (r : Rc) : Say := ⟨fun w v => ∃ A c, v = .slice A 1 c ∧ RecsAt w (fun _ => True) (.slice A 1 c) [r], fun _ _ _ ⟨A, c, e, h⟩ hb => ⟨A, c, e, h.below hb⟩⟩
theorem rangeAt_new (w : World) (cs : Array Value) (t : TypeId) : (w.alloc (.cells cs t)).rangeAt w.heap.size 0 cs.toList := fun j u hu => by
  rw [Nat.zero_add]
  exact (Blk.new_ w cs t rfl).cell j u (by simpa using hu)
theorem rec1_new {w : World} {r : Rc} {A2 : Option Addr} {c2 : Nat} (h : Rd w (.slice A2 r.ds.length c2) (u64s r.ds)) :
    (Say.rec1 r).p (w.alloc (.cells #[.int .i64 (r.k : Int), .int .i64 (r.t : Int), .int .i64 (r.p : Int), .int .i64 (r.s : Int), .string r.b, .string r.a, .string r.i, .slice A2 r.ds.length c2] 44)) (.slice (some ⟨w.heap.size, 0, none⟩) 1 1) := by
  refine ⟨_, _, rfl, ⟨_, _, rfl, Nat.le_refl _, fun _ => ⟨_, _, rfl, by simp, trivial, fun j q hj => ?_⟩⟩⟩
  cases j with
  | succ j => simp at hj
  | zero =>
    obtain rfl : r = q := by simpa using hj
    refine ⟨.slice A2 r.ds.length c2, ?_, ?_⟩
    · rw [Nat.zero_add, Nat.zero_mul]
      exact rangeAt_new w _ _
    · have := RIn.of_rd (h.alloc (.cells #[.int .i64 (r.k : Int), .int .i64 (r.t : Int), .int .i64 (r.p : Int), .int .i64 (r.s : Int), .string r.b, .string r.a, .string r.i, .slice A2 r.ds.length c2] 44))
      exact this.keep (fun _ _ _ => rfl) (Nat.le_refl _) (fun _ _ _ => trivial)
/-- What frames answers. -/
def Say.frs (c0 : Int) (B : Nat) (F : List UInt8) : Say := ⟨fun w v => ∃ A n c, v = .tuple #[.slice A n c, .int .i64 c0] ∧ (c0 = 0 → n = F.length ∧ Mine w B (.slice A n c) F), fun _ _ _ ⟨A, n, c, e, h⟩ hb => ⟨A, n, c, e, fun h0 => ⟨(h h0).1, (h h0).2.below hb⟩⟩⟩
def Say.frb (c0 : Int) (B : Nat) (F : List UInt8) : Say := ⟨fun w v => ∃ A n c, v = .slice A n c ∧ (c0 = 0 → n = F.length ∧ Mine w B (.slice A n c) F), fun _ _ _ ⟨A, n, c, e, h⟩ hb => ⟨A, n, c, e, fun h0 => ⟨(h h0).1, (h h0).2.below hb⟩⟩⟩
theorem frames_one {w W : World} {B : Nat} {A : Option Addr} {c : Nat} {r : Rc} {c0 : Int} (room : Nat) (hroom : room ≤ 14336) (hv : RecsAt w (fun _ => True) (.slice A 1 c) [r]) (hu : ∀ x ∈ r.ds, x < 18446744073709551616) (hc : frCode [r] room = c0) (hb : Below W.heap.size W w) (hB : B ≤ W.heap.size) :
    Calls Try.prog 34 #[.int .i64 (room : Int), .slice A 1 c] w fun e w' => ∃ v, e = .returned v ∧ (Say.frs c0 B r.frame).p w' v ∧ Below w.heap.size w w' := by
  subst hc
  refine (frames_ln room hroom (by simp) hv (fun q hq => by rw [List.mem_singleton] at hq; subst hq; exact hu)).mono ?_
  rintro e w' ⟨A', n', c', rfl, hm, hb'⟩
  refine ⟨_, rfl, ⟨A', n', c', rfl, fun h0 => ?_⟩, hb'⟩
  have := hm h0
  rw [frsR_one] at this
  exact ⟨this.1, this.2.more (Nat.le_trans hB hb.size)⟩
set_option maxHeartbeats 8000000 in
theorem append_ln {w : World} {X : Nat → Prop} {dg : Nat} {d : Ds} {g : Nat} {l : Ln} {kv : Value} {r : Rc} {A2 : Option Addr} {c2 : Nat} {c0 : Int} (h : LnAt w X dg d g l kv) (hf : l.Fit) (hr : Rd w (.slice A2 r.ds.length c2) (u64s r.ds)) (hu : ∀ x ∈ r.ds, x < 18446744073709551616) (hc0 : frCode [r] (14336 - l.len) = c0) :
    Calls Try.prog 13 #[ptr g, .agg #[.int .i64 (r.k : Int), .int .i64 (r.t : Int), .int .i64 (r.p : Int), .int .i64 (r.s : Int), .string r.b, .string r.a, .string r.i, .slice A2 r.ds.length c2]] w fun e w' => (c0 ≠ 0 → e = .returned (.tuple #[.int .u64 0, .int .i64 c0]) ∧ Below w.heap.size w w') ∧
      (c0 = 0 → e = .returned (.tuple #[.int .u64 ((l.gen * 1048576 + l.len + 1 : Nat) : Int), .int .i64 0]) ∧ ∃ kv', LnAt w' X dg d g (l.setKept (l.kept ++ r.frame)) kv' ∧ Out X w w') := by
  have H0 := hide (h.below ((Below.refl _ w).alloc (Nat.le_refl _) (.cells #[.int .i64 (r.k : Int), .int .i64 (r.t : Int), .int .i64 (r.p : Int), .int .i64 (r.s : Int), .string r.b, .string r.a, .string r.i, .slice A2 r.ds.length c2] 44)))
  have HBX : Hid (Blk (w.alloc (.cells #[.int .i64 (r.k : Int), .int .i64 (r.t : Int), .int .i64 (r.p : Int), .int .i64 (r.s : Int), .string r.b, .string r.a, .string r.i, .slice A2 r.ds.length c2] 44)) w.heap.size 44 #[.int .i64 (r.k : Int), .int .i64 (r.t : Int), .int .i64 (r.p : Int), .int .i64 (r.s : Int), .string r.b, .string r.a, .string r.i, .slice A2 r.ds.length c2]) := hide (heap_new w _)
  have HR2 := hide (hr.alloc (.cells #[.int .i64 (r.k : Int), .int .i64 (r.t : Int), .int .i64 (r.p : Int), .int .i64 (r.s : Int), .string r.b, .string r.a, .string r.i, .slice A2 r.ds.length c2] 44))
  have HB0 := hide ((Below.refl _ w).alloc (Nat.le_refl _) (.cells #[.int .i64 (r.k : Int), .int .i64 (r.t : Int), .int .i64 (r.p : Int), .int .i64 (r.s : Int), .string r.b, .string r.a, .string r.i, .slice A2 r.ds.length c2] 44))
  have HF := hide hf
  have HU := hide hu
  have HC0 := hide hc0
  clear h hf hr hu hc0
  unfold ptr
  go_enter Try.func13, Try.ntmps13
  go_upto_region 1 with fail
  refine region_grows [Say.is (.pointer (some ⟨g, 0, none⟩)), Say.is (.int .i64 ((14336 - l.len : Nat) : Int)), Say.is (.agg #[.int .i64 (r.k : Int), .int .i64 (r.t : Int), .int .i64 (r.p : Int), .int .i64 (r.s : Int), .string r.b, .string r.a, .string r.i, .slice A2 r.ds.length c2]), Say.rec1 r, Say.frs c0 w.heap.size r.frame, Say.frs c0 w.heap.size r.frame, Say.frb c0 w.heap.size r.frame, Say.is (.int .i64 c0), Say.frb c0 w.heap.size r.frame, Say.is (.int .i64 c0)] (by kernel_rfl) (by kernel_rfl) (by kernel_rfl) (by kernel_rfl) ?_ ?_
  · intro i o ho a w2 hb hsz old dep
    match i, ho with
    | 0, ho =>
      obtain rfl := Option.some.inj ho
      have o0 : a.tmps.getD 0 undef = _ := old 0 (by kernel_rfl)
      rw [if_pos (wanted_none rfl)]
      refine grow_same (v := .pointer (some ⟨g, 0, none⟩)) ?_ rfl
      clear old dep ho hsz hb
      go_simp
    | 1, ho =>
      obtain rfl := Option.some.inj ho
      have d0 : a.tmps.getD 10 undef = .pointer (some ⟨g, 0, none⟩) := dep 0 _ _ (by kernel_rfl) rfl rfl
      have e0 : a.tmps[10]?.getD undef = _ := (Array.getD_eq_getD_getElem? ..).symm.trans d0
      rw [if_pos (wanted_none rfl)]
      refine grow_enters (f := 35) (args := #[.pointer (some ⟨g, 0, none⟩)]) ?_ ((room_ln (H0.out.below hb) HF.out.len).mono (by rintro e w' ⟨rfl, hb'⟩; exact ⟨_, rfl, rfl, hb'⟩))
      clear old dep ho hsz hb
      go_simp
    | 2, ho =>
      obtain rfl := Option.some.inj ho
      have o3 : a.tmps.getD 3 undef = _ := old 3 (by kernel_rfl)
      rw [if_pos (wanted_none rfl)]
      have hbx := HBX.out.below hb
      have q0 := hbx.cell 0 _ rfl
      have q1 := hbx.cell 1 _ rfl
      have q2 := hbx.cell 2 _ rfl
      have q3 := hbx.cell 3 _ rfl
      have q4 := hbx.cell 4 _ rfl
      have q5 := hbx.cell 5 _ rfl
      have q6 := hbx.cell 6 _ rfl
      have q7 := hbx.cell 7 _ rfl
      refine grow_same (v := .agg #[.int .i64 (r.k : Int), .int .i64 (r.t : Int), .int .i64 (r.p : Int), .int .i64 (r.s : Int), .string r.b, .string r.a, .string r.i, .slice A2 r.ds.length c2]) ?_ rfl
      clear old dep ho hsz hb
      go_simp
    | 3, ho =>
      obtain rfl := Option.some.inj ho
      have d2 : a.tmps.getD 12 undef = .agg #[.int .i64 (r.k : Int), .int .i64 (r.t : Int), .int .i64 (r.p : Int), .int .i64 (r.s : Int), .string r.b, .string r.a, .string r.i, .slice A2 r.ds.length c2] := dep 2 _ _ (by kernel_rfl) rfl rfl
      have e2 : a.tmps[12]?.getD undef = _ := (Array.getD_eq_getD_getElem? ..).symm.trans d2
      rw [if_pos (wanted_none rfl)]
      refine grow_yields (v := .slice (some ⟨w2.heap.size, 0, none⟩) 1 1) (w' := w2.alloc (.cells #[.int .i64 (r.k : Int), .int .i64 (r.t : Int), .int .i64 (r.p : Int), .int .i64 (r.s : Int), .string r.b, .string r.a, .string r.i, .slice A2 r.ds.length c2] 44)) ?_ (rec1_new (HR2.out.below hb)) ((Below.refl _ _).alloc (Nat.le_refl _) _)
      have hrun := fun w => run_slice_one (P := Try.prog) w 120 44 #[.int .i64 (r.k : Int), .int .i64 (r.t : Int), .int .i64 (r.p : Int), .int .i64 (r.s : Int), .string r.b, .string r.a, .string r.i, .slice A2 r.ds.length c2] #[.int .i64 0, .int .i64 0, .int .i64 0, .int .i64 0, .string ⟨#[]⟩, .string ⟨#[]⟩, .string ⟨#[]⟩, .slice none 0 0] 8 104 Try.underlying120 infoRec3 rfl (by omega) (by omega)
      clear old dep ho hsz hb
      go_simp
    | 4, ho =>
      obtain rfl := Option.some.inj ho
      have d1 : a.tmps.getD 11 undef = .int .i64 ((14336 - l.len : Nat) : Int) := dep 1 _ _ (by kernel_rfl) rfl rfl
      have e1 : a.tmps[11]?.getD undef = _ := (Array.getD_eq_getD_getElem? ..).symm.trans d1
      have s3 : (Say.rec1 r).p w2 (a.tmps.getD 13 undef) := dep 3 _ _ (by kernel_rfl) rfl rfl
      rw [if_pos (wanted_none rfl)]
      obtain ⟨A3, c3, e13, h13⟩ := s3
      have e3 : a.tmps[13]?.getD undef = _ := (Array.getD_eq_getD_getElem? ..).symm.trans e13
      refine grow_enters (f := 34) (args := #[.int .i64 ((14336 - l.len : Nat) : Int), .slice A3 1 c3]) ?_ (frames_one (14336 - l.len) (by omega) h13 HU.out HC0.out hb (by simp))
      clear h13 e13
      clear old dep ho hsz hb
      go_simp
    | 5, ho =>
      obtain rfl := Option.some.inj ho
      have s4 : (Say.frs c0 w.heap.size r.frame).p w2 (a.tmps.getD 14 undef) := dep 4 _ _ (by kernel_rfl) rfl rfl
      rw [if_pos (wanted_none rfl)]
      refine grow_same (v := a.tmps.getD 14 undef) ?_ s4
      clear old dep ho hsz hb
      go_simp
    | 6, ho =>
      obtain rfl := Option.some.inj ho
      have s5 : (Say.frs c0 w.heap.size r.frame).p w2 (a.tmps.getD 9 undef) := dep 5 _ _ (by kernel_rfl) rfl rfl
      rw [if_pos (wanted_none rfl)]
      obtain ⟨A5, n5, k5, e9, h9⟩ := s5
      have e5 : a.tmps[9]?.getD undef = _ := (Array.getD_eq_getD_getElem? ..).symm.trans e9
      refine grow_same (v := .slice A5 n5 k5) ?_ ⟨A5, n5, k5, rfl, h9⟩
      clear h9 e9
      clear old dep ho hsz hb
      go_simp
    | 7, ho =>
      obtain rfl := Option.some.inj ho
      have s5 : (Say.frs c0 w.heap.size r.frame).p w2 (a.tmps.getD 9 undef) := dep 5 _ _ (by kernel_rfl) rfl rfl
      rw [if_pos (wanted_none rfl)]
      obtain ⟨A5, n5, k5, e9, h9⟩ := s5
      have e5 : a.tmps[9]?.getD undef = _ := (Array.getD_eq_getD_getElem? ..).symm.trans e9
      clear h9 e9
      refine grow_same (v := .int .i64 c0) ?_ rfl
      clear old dep ho hsz hb
      go_simp
    | 8, ho =>
      obtain rfl := Option.some.inj ho
      have s6 : (Say.frb c0 w.heap.size r.frame).p w2 (a.tmps.getD 15 undef) := dep 6 _ _ (by kernel_rfl) rfl rfl
      rw [if_pos (wanted_none rfl)]
      refine grow_same (v := a.tmps.getD 15 undef) ?_ s6
      clear old dep ho hsz hb
      go_simp
    | 9, ho =>
      obtain rfl := Option.some.inj ho
      have d7 : a.tmps.getD 16 undef = .int .i64 c0 := dep 7 _ _ (by kernel_rfl) rfl rfl
      have e7 : a.tmps[16]?.getD undef = _ := (Array.getD_eq_getD_getElem? ..).symm.trans d7
      rw [if_pos (wanted_none rfl)]
      refine grow_same (v := .int .i64 c0) ?_ rfl
      clear old dep ho hsz hb
      go_simp
    | i + 10, ho => exact absurd ho (by simp)
  · intro a w2 hb hsz hdf fin keep
    obtain ⟨tm, df⟩ := a
    have hx := frame_of [10, 11, 12, 13, 14, 9, 15, 16, 6, 7] (by kernel_rfl) hsz keep
    dsimp only at hdf hx
    simp only [List.foldl_cons, List.foldl_nil] at hx
    subst hdf
    clear hsz keep
    have kn : tm.getD 10 undef = .pointer (some ⟨g, 0, none⟩) := fin 0 _ _ rfl rfl
    rw [kn] at hx
    clear kn
    have kn : tm.getD 11 undef = .int .i64 ((14336 - l.len : Nat) : Int) := fin 1 _ _ rfl rfl
    rw [kn] at hx
    clear kn
    have kn : tm.getD 12 undef = .agg #[.int .i64 (r.k : Int), .int .i64 (r.t : Int), .int .i64 (r.p : Int), .int .i64 (r.s : Int), .string r.b, .string r.a, .string r.i, .slice A2 r.ds.length c2] := fin 2 _ _ rfl rfl
    rw [kn] at hx
    clear kn
    generalize tm.getD 13 undef = y13 at hx
    generalize tm.getD 14 undef = y14 at hx
    generalize tm.getD 9 undef = y9 at hx
    generalize tm.getD 15 undef = y15 at hx
    have kn : tm.getD 16 undef = .int .i64 c0 := fin 7 _ _ rfl rfl
    rw [kn] at hx
    clear kn
    have S6 : (Say.frb c0 w.heap.size r.frame).p w2 (tm.getD 6 undef) := fin 8 _ _ rfl rfl
    generalize tm.getD 6 undef = y6 at hx S6
    have kn : tm.getD 7 undef = .int .i64 c0 := fin 9 _ _ rfl rfl
    rw [kn] at hx
    clear kn
    clear fin
    simp only [List.setIfInBounds_toArray, List.set_cons_succ, List.set_cons_zero] at hx
    subst hx
    have H1 := hide (H0.out.below hb)
    have O1 := hide (HB0.out.trans (hb.mono HB0.out.size))
    obtain ⟨A6, n6, c6, e6, h6⟩ := S6
    subst e6
    clear hb
    by_cases hc : c0 = 0
    · subst hc
      obtain ⟨rfl, hm6⟩ := h6 rfl
      have HM6 := hide hm6
      have hln2 := len_ln H1.out HF.out.len
      have hpl := HF.out.gen
      have hll := HF.out.len
      unfold ptr at hln2
      clear h6 hm6
      go_upto_region 5 with (first
        | (go_at_call 37; ((with_reducible refine hln2.mono ?_); rintro e w3 ⟨rfl, hb3⟩; have H3 := hide (H1.out.below hb3); have O3 := hide (O1.out.trans (hb3.mono O1.out.size)); have M3 := hide (HM6.out.below hb3); have hplc := place_ln H3.out hpl l.len (by omega); unfold ptr at hplc; clear hb3))
        | (go_at_call 36; ((with_reducible refine hplc.mono ?_); rintro e w4 ⟨rfl, rfl⟩)))
      obtain ⟨d0, d1, d2, d3, d4, d5, d6, d7⟩ := H3.out.cell
      have z5 := H3.out.frozen 5
      have HKL := hide (show l.kept.length + r.frame.length ≤ 100000 by
        have := HC0.out
        unfold frCode at this
        split at this
        · split at this
          · rename_i h1 h2
            rw [frsR_one] at h2
            unfold Ln.len at hll
            omega
          · exact absurd this (by decide)
        · exact absurd this (by decide))
      have HFP := hide (show 0 < r.frame.length by have := r.frame_pos; omega)
      have hne5 := hide (show w3.heap.size > g from H3.out.lt)
      clear hln2 hplc
      go_wp2_with (at_builtin; (refine wpList_append_kp (kv := kv) (x := .slice A6 r.frame.length c6) (l := l.kept) (b := r.frame) rfl (.tmp 28) (.tmp 29) rfl rfl H3.out.kept rfl M3.out.rd HFP.out HKL.out ?_; intro v5 w5 hk5 hkept5 hnew5; have A5 := hide (H3.out.appended hkept5 hk5 hnew5); obtain ⟨A7, c7, e7, _⟩ := id hk5; subst e7; have q5 : w5.cell? ⟨g, 5, none⟩ = some kv := (hkept5.blk H3.out.blk (fun e => (H3.out.xk g e).2 rfl)).cell 5 _ rfl; have z5 := (hkept5.blk H3.out.blk (fun e => (H3.out.xk g e).2 rfl)).frozen 5; clear hk5 hkept5 hnew5))
      go_ret2
      have A9 := A5.out
      rw [List.length_append] at A9
      exact ⟨rfl, ⟨_, A9.1⟩, (Out.of_below O3.out).trans A9.2⟩
    · have hc2 : ((c0 : Int) != 0) = true := by simpa using hc
      go_wp2
      go_ret2
      first | exact ⟨fun _ => ⟨rfl, O1.out⟩, fun e => absurd e hc⟩ | exact ⟨rfl, O1.out⟩
end
section
/- Two lanes over one disk, the second one for a while; what Anew does. -/
open Go.RowKit
set_option maxRecDepth 20000
set_option linter.unusedSimpArgs false
set_option linter.unusedVariables false

section
variable {w w' : World} {X Y : Nat → Prop} {dg : Nat} {d d' : Ds} {g g2 : Nat} {l n n' : Ln} {kv kvn kvn' : Value} {gr : Rg} {k : Nat}
/-- More blocks are none of its own. -/
theorem LnAt.more (h : LnAt w X dg d g l kv) (hb : Below w.heap.size w w') (hY : ∀ k, Y k → X k ∨ (w.heap.size ≤ k ∧ k < w'.heap.size)) : LnAt w' Y dg d g l kv := by
  have hlt : ∀ k, LX X g kv k → k < w.heap.size := h.many.1
  refine ⟨h.many.more hb (fun k hk => ?_), fun hy => ?_, fun k hk => ⟨fun hy => ?_, (h.xk k hk).2⟩, h.blk.below hb, h.kept.below hb⟩
  · rcases hk with h1 | h1 | h1
    · rcases hY k h1 with h2 | h2
      · exact .inl (.inl h2)
      · exact .inr h2
    · exact .inl (.inr (.inl h1))
    · exact .inl (.inr (.inr h1))
  · rcases hY g hy with h2 | h2
    · exact h.xg h2
    · have := h.lt; omega
  · rcases hY k hy with h2 | h2
    · exact (h.xk k hk).1 h2
    · have := hlt k (.inr (.inr hk)); omega
theorem LnAt.sub (h : LnAt w X dg d g l kv) (hY : ∀ k, Y k → X k) : LnAt w Y dg d g l kv := h.more (Below.refl _ _) (fun k hk => .inl (hY k hk))
/-- Blocks that are none of its own have turned. -/
theorem LnAt.foreign {S : Nat → Prop} (h : LnAt w X dg d g l kv) (hk : Kept S w w') (hS : ∀ k, S k → X k) : LnAt w' X dg d g l kv :=
  ⟨h.many.foreign hk (fun k e => .inl (.inl (hS k e))), h.xg, h.xk, hk.blk h.blk (fun e => h.xg (hS g e)),
    h.kept.out (X := fun k => ¬ S k) (hk.mono (fun i hi => .inl (fun hn => hn hi))) (fun k e hs => (h.xk k e).1 (hS k hs))⟩
/-- A second lane, of other blocks. -/
structure Both (w : World) (X : Nat → Prop) (dg : Nat) (d : Ds) (g : Nat) (l : Ln) (kv : Value) (g2 : Nat) (n : Ln) (kvn : Value) : Prop where
  snd : LnAt w (LX X g kv) dg d g2 n kvn
  fst : LnAt w X dg d g l kv
theorem LnAt.back (h : LnAt w (LX X g kv) dg d g2 n kvn) (hb : Blk w g 86 (l.cells dg kv)) (hk : Kp w kv l.kept) (hg : ¬ X g) (hx : ∀ k, blkOf kv = some k → ¬ X k ∧ k ≠ g) : LnAt w X dg d g l kv :=
  ⟨h.many.more (Below.refl _ _) (fun k hk => .inl (.inl hk)), hg, hx, hb, hk⟩
theorem Both.step (h : Both w X dg d g l kv g2 n kvn) (hn : LnAt w' (LX X g kv) dg d' g2 n' kvn') (ho : Out (LX X g kv) w w') : Both w' X dg d' g l kv g2 n' kvn' :=
  ⟨hn, hn.back (Out.blk ho h.fst.blk (.inr (.inl rfl))) (h.fst.kept.out ho (fun k hk => .inr (.inr hk))) h.fst.xg h.fst.xk⟩
theorem Both.below (h : Both w X dg d g l kv g2 n kvn) (hb : Below w.heap.size w w') : Both w' X dg d g l kv g2 n kvn := ⟨h.snd.below hb, h.fst.below hb⟩
theorem Both.astray (h : Both w X dg d g l kv g2 n kvn) (b : Bool) : Both (w.setCell ⟨g, 7, none⟩ (.bool b)) X dg d g (l.setAstray b) kv g2 n kvn :=
  ⟨h.snd.foreign (kept_set w g 7 _) (fun k e => .inr (.inl e)), h.fst.setAstray b⟩
/-- The second one is laid in a new block. -/
theorem both_new {kb : Value} (h : LnAt w (fun k => X k ∨ blkOf kb = some k) dg d g l kv) (hb : Below w.heap.size w w') (hg2 : w.heap.size ≤ g2) (hbl : Blk w' g2 86 (n.cells dg kb)) (hkp : Kp w' kb n.kept) (hnb : ∀ k, blkOf kb = some k → ¬ X k) : Both w' X dg d g l kv g2 n kb := by
  have hlt : ∀ k, LX (fun k => X k ∨ blkOf kb = some k) g kv k → k < w.heap.size := h.many.1
  refine ⟨⟨h.many.more hb (fun k hk => ?_), fun hx => ?_, fun k hk => ⟨fun hx => ?_, ?_⟩, hbl, hkp⟩, (h.sub (fun k hk => .inl hk)).below hb⟩
  · rcases hk with (h1 | h1 | h1) | h1 | h1
    · exact .inl (.inl (.inl h1))
    · exact .inl (.inr (.inl h1))
    · exact .inl (.inr (.inr h1))
    · subst h1; exact .inr ⟨hg2, hbl.lt⟩
    · exact .inl (.inl (.inr h1))
  · have := hlt g2 (by rcases hx with h1 | h1 | h1; exact .inl (.inl h1); exact .inr (.inl h1); exact .inr (.inr h1))
    omega
  · rcases hx with h1 | h1 | h1
    · exact hnb k hk h1
    · exact h.xg (.inr (by rw [← h1]; exact hk))
    · exact (h.xk k h1).1 (.inr hk)
  · have := hlt k (.inl (.inr hk)); omega
end
/-- A struct stored over a block that is known whole. -/
theorem store_whole {ops : Array Oper} {rest : List Oper} {op : Oper} {a : Act} {w : World} {Q : Exit → Act → World → Prop} (ty : TypeId) (x y : Operand) (g n : Nat) (cs cells : Array Value) (hgd : op.guard = none) (ho : op.op = .store ty x y) (hb : Blk w g ty cs) (hz : cs.size = n) (hc : cells.size = n)
    (hx : a.eval x = .pointer (some ⟨g, 0, none⟩)) (hy : a.eval y = .agg cells) (hi : (Try.prog.info? ty).map (·.size) = some n) (h1 : cells.all (·.oneCell') = true)
    (h : ∀ W, Kept (fun k => k = g) w W → Blk W g ty cells → wpList Try.prog ops Q rest (a.put op.dst undef) W) : wpList Try.prog ops Q (op :: rest) a w := by
  refine wpList_store_mid hgd ty x y ho g 0 cells hx hy (hb.there (by omega)) (by rw [hi, hc]) h1 ?_
  refine h _ (Kept.setCells _ _ _ _) ?_
  have := Blk.setCells cells.toList 0 _ _ hb (by simp; omega)
  have e : (cs.toList.take 0 ++ (cells.toList ++ cs.toList.drop (0 + cells.toList.length))).toArray = cells := by
    have : cs.toList.drop (0 + cells.toList.length) = [] := List.drop_eq_nil_of_le (by simp; omega)
    rw [this]
    simp
  rw [e] at this
  exact this
theorem cells_one (l : Ln) (dg : Nat) (A : Option Addr) (n c : Nat) : ((l.cells dg (.slice A n c)).all fun x => x.oneCell') = true := by
  simp [Ln.cells, ptr, Value.oneCell']
theorem infoLane : (Try.prog.info? 86).map (·.size) = some 8 := by kernel_rfl
/-- What stands over the first lane. -/
theorem Both.over {w w' : World} {X : Nat → Prop} {dg : Nat} {d : Ds} {g g2 : Nat} {l n : Ln} {kv kvn : Value} (h : Both w X dg d g l kv g2 n kvn) (hk : Kept (fun k => k = g) w w') (hb : Blk w' g 86 (n.cells dg kvn)) : LnAt w' X dg d g n kvn ∧ Out X w w' := by
  have hne : ∀ k, blkOf kvn = some k → ¬ X k ∧ k ≠ g := fun k hk => ⟨fun hx => (h.snd.xk k hk).1 (.inl hx), fun e => (h.snd.xk k hk).1 (.inr (.inl e))⟩
  refine ⟨⟨?_, h.fst.xg, hne, hb, h.snd.kept.out (X := fun k => k ≠ g) (hk.mono (fun i hi => .inl (fun hn => hn hi))) (fun k e => (hne k e).2)⟩, hk.mono (fun k e => .inl (by rw [e]; exact h.fst.xg))⟩
  have hm := h.snd.many.foreign hk (fun k e => .inl (.inl (.inr (.inl e))))
  refine hm.more (Below.refl _ _) (fun k hk => .inl ?_)
  rcases hk with h1 | h1 | h1
  · exact .inl (.inl h1)
  · exact .inl (.inr (.inl h1))
  · exact .inr (.inr h1)
/-- The lane that Anew lays. -/
def Ln.next (l : Ln) (F : List UInt8) : Ln := ⟨l.r, 1 - l.bank, l.gen + 1, 0, F, 0, false⟩
end
section
/- Contract: a lane's Anew. -/
open Go.RowKit
set_option maxRecDepth 20000
set_option linter.unusedSimpArgs false
set_option linter.unusedVariables false

/-- What Anew does: S are the sectors that it finds. -/
def anewT (l : Ln) (F : List UInt8) (S : List Sec) : List Do := cleanD (l.next F) S ((l.next F).first + (l.next F).nsec) ++ (hardD (l.next F) ++ ([headD (l.next F).hard] ++ [.bar]))
def anewR (l : Ln) (F : List UInt8) (gr : Rg) : Rg × Bool := if (gr.run (recallD l)).2 then (gr.run (recallD l)).1.run (anewT l F (gr.run (recallD l)).1.secs) else gr.run (recallD l)
/-- The lane behind it. -/
structure AnewPost (w w' : World) (X : Nat → Prop) (dg : Nat) (d : Ds) (g : Nat) (l : Ln) (F : List UInt8) (gr : Rg) (k : Nat) : Prop where
  ex : ∃ d' kv' l', Next d l.r (anewR l F gr).1 k d' ∧ LnAt w' X dg d' g l' kv' ∧ Out X w w' ∧ ((anewR l F gr).2 = true → l' = (l.next F).hard) ∧ ((anewR l F gr).2 = false → ∃ b, l' = l.setAstray b)
theorem anew_no {l : Ln} {F : List UInt8} {gr g1 : Rg} (h : gr.run (recallD l) = (g1, false)) : anewR l F gr = (g1, false) := by unfold anewR; rw [h]; rfl
theorem anew_yes {l : Ln} {F : List UInt8} {gr g1 : Rg} (h : gr.run (recallD l) = (g1, true)) : anewR l F gr = g1.run (anewT l F g1.secs) := by unfold anewR; rw [h]; rfl
theorem Next.to_fit {l : Ln} (h : l.Fit) {F : List UInt8} (hF : F.length ≤ 14336) (hg : l.gen + 1 ≤ 1000000) : (l.next F).Fit := ⟨h.r, by show 1 - l.bank ≤ 1; omega, hg, by show 0 * 56 + F.length ≤ 14336; omega⟩
theorem Ln.Fit.hard {l : Ln} (h : l.Fit) : l.hard.Fit := by
  refine ⟨h.r, h.bank, h.gen, ?_⟩
  have := h.len
  unfold Ln.len Ln.hard Ln.full at *
  show (l.first + l.kept.length / 56) * 56 + (l.kept.drop (l.kept.length / 56 * 56)).length ≤ 14336
  rw [List.length_drop]
  omega
theorem fr_len {rs : List Rc} {room : Nat} (h : frCode rs room = 0) : (frsR rs).length ≤ room := by
  unfold frCode at h
  split at h
  · split at h
    · assumption
    · exact absurd h (by decide)
  · exact absurd h (by decide)
theorem fr_ok {rs : List Rc} {room : Nat} (h : frCode rs room = 0) : ∀ r ∈ rs, r.okB = true := by
  unfold frCode at h
  split at h
  · assumption
  · exact absurd h (by decide)

set_option maxHeartbeats 16000000 in
theorem anew_ln {w : World} {X : Nat → Prop} {dg : Nat} {d : Ds} {g : Nat} {l : Ln} {kv : Value} {gr : Rg} {k : Nat} {v : Value} {rs : List Rc} {Z : Nat → Prop} (h : LnAt w X dg d g l kv) (hf : l.Fit) (hgen : l.gen + 1 ≤ 1000000) (hd : DIs d l.r gr k) (hk : k ≤ 500000) (hn : rs.length ≤ 1000)
    (hv : RecsAt w Z v rs) (hu : ∀ r ∈ rs, ∀ x ∈ r.ds, x < 18446744073709551616) (hc0 : frCode rs 14336 = 0) :
    Calls Try.prog 30 #[ptr g, v] w fun e w' => ∃ v, e = .returned v ∧ v = .int .i64 (cd (anewR l (frsR rs) gr).2) ∧ AnewPost w w' X dg d g l (frsR rs) gr (k + 700) := by
  have H0 := hide h
  have HF := hide hf
  have HD := hide hd
  have HLF := fr_len hc0
  have HNF := hide (Next.to_fit hf HLF hgen)
  have hfr : Calls Try.prog 34 #[.int .i64 14336, v] w fun e w' => ∃ A n c, e = .returned (.tuple #[.slice A n c, .int .i64 0]) ∧ (n = (frsR rs).length ∧ Mine w' w.heap.size (.slice A n c) (frsR rs)) ∧ Below w.heap.size w w' := by
    refine (frames_ln 14336 (by omega) hn hv hu).mono ?_
    rintro e w' ⟨A, n, c, he, hm, hb⟩
    rw [hc0] at he
    exact ⟨A, n, c, he, hm hc0, hb⟩
  clear h hf hd hv hu hc0
  unfold ptr
  go_enter Try.func30, Try.ntmps30
  go_upto_if 19 with (go_at_call 34; ((with_reducible refine hfr.mono ?_); rintro e w1 ⟨A6, n6, c6, rfl, ⟨rfl, hm6⟩, hb1⟩))
  have hnb : ∀ k, blkOf (.slice A6 (frsR rs).length c6) = some k → w.heap.size ≤ k ∧ k < w1.heap.size := fun k hk => by rw [← own_blk] at hk; exact World.ownsRow.lt hm6 k hk
  have HNB := hide (show ∀ k, blkOf (.slice A6 (frsR rs).length c6) = some k → ¬ X k from fun k hk hx => by have := H0.out.many.1 k (.inl hx); have := (hnb k hk).1; omega)
  have H1 := hide (H0.out.more (Y := fun k => X k ∨ blkOf (.slice A6 (frsR rs).length c6) = some k) hb1 (fun k hk => by
    rcases hk with h1 | h1
    · exact .inl h1
    · exact .inr (hnb k h1)))
  have K1 := hide (Kp.of_mine hm6)
  have O1 := hide (Out.of_below (X := X) hb1)
  have hrec := recall_ln H1.out HF.out HD.out (by omega)
  unfold ptr at hrec
  clear hfr hnb hm6 hb1
  rcases hr1 : gr.run (recallD l) with ⟨g1, b1⟩
  rw [hr1] at hrec
  cases b1
  · have HA := hide (anew_no (F := frsR rs) hr1)
    clear hr1
    go_wp2_with (go_at_call 56; ((with_reducible refine hrec.mono ?_); rintro e wa ⟨v, rfl, rfl, d2, kv2, hnx, hln, hout⟩; try simp only [cd, Bool.false_eq_true, if_false]))
    go_ret
    rw [HA.out]
    refine ⟨_, rfl, rfl, ⟨d2, kv2, _, by rw [HA.out]; exact hnx.more (by omega), hln.sub (fun k hk => .inl hk), O1.out.trans (hout.less (fun k hk => .inl hk)), fun h => ?_, fun _ => ⟨l.astray, rfl⟩⟩⟩
    rw [HA.out] at h
    cases h
  · have HA := hide (anew_yes (F := frsR rs) hr1)
    clear hr1
    go_upto_region 7 with (go_at_call 56; ((with_reducible refine hrec.mono ?_); rintro e wa ⟨v, rfl, rfl, d2, kv2, hnx, hln, hout⟩; try simp only [cd, if_true]))
    have H2 : Hid (LnAt wa _ dg d2 g (l.setAstray false) kv2) := hide hln
    have N2 : Hid (Next d l.r g1 (k + 1) d2) := hide hnx
    have K2 := hide (K1.out.out hout (fun k hk => .inr hk))
    have O2 := hide (O1.out.trans (hout.less (fun k hk => .inl hk)))
    clear hrec hln hnx hout H1 O1 K1 H0 HD
    refine region_grows [Say.is (.pointer (some ⟨g, 0, none⟩)), Say.is (.pointer (some ⟨g, 0, none⟩)), Say.is (.pointer (some ⟨g, 0, none⟩)), Say.is (.pointer (some ⟨dg, 0, none⟩)), Say.is (.pointer (some ⟨g, 0, none⟩)), Say.is (.pointer (some ⟨g, 0, none⟩)), Say.is (.pointer (some ⟨g, 1, none⟩)), Say.is (.int .i64 (l.r : Int)), Say.is (.pointer (some ⟨g, 0, none⟩)), Say.is (.pointer (some ⟨g, 0, none⟩)), Say.is (.pointer (some ⟨g, 2, none⟩)), Say.is (.int .i64 (l.bank : Int)), Say.is (.int .i64 ((1 - l.bank : Nat) : Int)), Say.is (.pointer (some ⟨g, 0, none⟩)), Say.is (.pointer (some ⟨g, 0, none⟩)), Say.is (.pointer (some ⟨g, 3, none⟩)), Say.is (.int .u64 (l.gen : Int)), Say.is (.int .u64 ((l.gen + 1 : Nat) : Int)), Say.is (.slice A6 (frsR rs).length c6), Say.is (.agg #[.pointer (some ⟨dg, 0, none⟩), .int .i64 (l.r : Int), .int .i64 ((1 - l.bank : Nat) : Int), .int .u64 ((l.gen + 1 : Nat) : Int), .int .i64 0, .slice A6 (frsR rs).length c6, .int .i64 0, .bool false]), Say.blk wa.heap.size 86 #[.pointer (some ⟨dg, 0, none⟩), .int .i64 (l.r : Int), .int .i64 ((1 - l.bank : Nat) : Int), .int .u64 ((l.gen + 1 : Nat) : Int), .int .i64 0, .slice A6 (frsR rs).length c6, .int .i64 0, .bool false], Say.blk wa.heap.size 86 #[.pointer (some ⟨dg, 0, none⟩), .int .i64 (l.r : Int), .int .i64 ((1 - l.bank : Nat) : Int), .int .u64 ((l.gen + 1 : Nat) : Int), .int .i64 0, .slice A6 (frsR rs).length c6, .int .i64 0, .bool false]] (by kernel_rfl) (by kernel_rfl) (by kernel_rfl) (by kernel_rfl) ?_ ?_
    · intro i o ho a w2 hb hsz old dep
      match i, ho with
      | 0, ho =>
        obtain rfl := Option.some.inj ho
        have o0 : a.tmps.getD 0 undef = _ := old 0 (by kernel_rfl)
        rw [if_pos (wanted_none rfl)]
        refine grow_same (v := .pointer (some ⟨g, 0, none⟩)) ?_ rfl
        clear old dep ho hsz hb
        go_simp
      | 1, ho =>
        obtain rfl := Option.some.inj ho
        have d0 : a.tmps.getD 26 undef = .pointer (some ⟨g, 0, none⟩) := dep 0 _ _ (by kernel_rfl) rfl rfl
        have e0 : a.tmps[26]?.getD undef = _ := (Array.getD_eq_getD_getElem? ..).symm.trans d0
        rw [if_pos (wanted_none rfl)]
        refine grow_same (v := .pointer (some ⟨g, 0, none⟩)) ?_ rfl
        clear old dep ho hsz hb
        go_simp
      | 2, ho =>
        obtain rfl := Option.some.inj ho
        have d1 : a.tmps.getD 27 undef = .pointer (some ⟨g, 0, none⟩) := dep 1 _ _ (by kernel_rfl) rfl rfl
        have e1 : a.tmps[27]?.getD undef = _ := (Array.getD_eq_getD_getElem? ..).symm.trans d1
        rw [if_pos (wanted_none rfl)]
        refine grow_same (v := .pointer (some ⟨g, 0, none⟩)) ?_ rfl
        clear old dep ho hsz hb
        go_simp
      | 3, ho =>
        obtain rfl := Option.some.inj ho
        have d2 : a.tmps.getD 28 undef = .pointer (some ⟨g, 0, none⟩) := dep 2 _ _ (by kernel_rfl) rfl rfl
        have e2 : a.tmps[28]?.getD undef = _ := (Array.getD_eq_getD_getElem? ..).symm.trans d2
        rw [if_pos (wanted_none rfl)]
        have hcx := (H2.out.below hb).blk
        have hc0 := hcx.cell 0 (.pointer (some ⟨dg, 0, none⟩)) rfl
        have hc1 := hcx.cell 1 (.int .i64 (l.r : Int)) rfl
        have hc2 := hcx.cell 2 (.int .i64 (l.bank : Int)) rfl
        have hc3 := hcx.cell 3 (.int .u64 (l.gen : Int)) rfl
        have hc4 := hcx.cell 4 (.int .i64 (l.first : Int)) rfl
        have hc5 := hcx.cell 5 (kv2) rfl
        have hc6 := hcx.cell 6 (.int .i64 (l.sure : Int)) rfl
        have hc7 := hcx.cell 7 (.bool false) rfl
        clear hcx
        refine grow_same (v := .pointer (some ⟨dg, 0, none⟩)) ?_ rfl
        clear old dep ho hsz hb
        go_simp
      | 4, ho =>
        obtain rfl := Option.some.inj ho
        have o0 : a.tmps.getD 0 undef = _ := old 0 (by kernel_rfl)
        rw [if_pos (wanted_none rfl)]
        refine grow_same (v := .pointer (some ⟨g, 0, none⟩)) ?_ rfl
        clear old dep ho hsz hb
        go_simp
      | 5, ho =>
        obtain rfl := Option.some.inj ho
        have d4 : a.tmps.getD 30 undef = .pointer (some ⟨g, 0, none⟩) := dep 4 _ _ (by kernel_rfl) rfl rfl
        have e4 : a.tmps[30]?.getD undef = _ := (Array.getD_eq_getD_getElem? ..).symm.trans d4
        rw [if_pos (wanted_none rfl)]
        refine grow_same (v := .pointer (some ⟨g, 0, none⟩)) ?_ rfl
        clear old dep ho hsz hb
        go_simp
      | 6, ho =>
        obtain rfl := Option.some.inj ho
        have d5 : a.tmps.getD 31 undef = .pointer (some ⟨g, 0, none⟩) := dep 5 _ _ (by kernel_rfl) rfl rfl
        have e5 : a.tmps[31]?.getD undef = _ := (Array.getD_eq_getD_getElem? ..).symm.trans d5
        rw [if_pos (wanted_none rfl)]
        refine grow_same (v := .pointer (some ⟨g, 1, none⟩)) ?_ rfl
        clear old dep ho hsz hb
        go_simp
      | 7, ho =>
        obtain rfl := Option.some.inj ho
        have d6 : a.tmps.getD 32 undef = .pointer (some ⟨g, 1, none⟩) := dep 6 _ _ (by kernel_rfl) rfl rfl
        have e6 : a.tmps[32]?.getD undef = _ := (Array.getD_eq_getD_getElem? ..).symm.trans d6
        rw [if_pos (wanted_none rfl)]
        have hcx := (H2.out.below hb).blk
        have hc0 := hcx.cell 0 (.pointer (some ⟨dg, 0, none⟩)) rfl
        have hc1 := hcx.cell 1 (.int .i64 (l.r : Int)) rfl
        have hc2 := hcx.cell 2 (.int .i64 (l.bank : Int)) rfl
        have hc3 := hcx.cell 3 (.int .u64 (l.gen : Int)) rfl
        have hc4 := hcx.cell 4 (.int .i64 (l.first : Int)) rfl
        have hc5 := hcx.cell 5 (kv2) rfl
        have hc6 := hcx.cell 6 (.int .i64 (l.sure : Int)) rfl
        have hc7 := hcx.cell 7 (.bool false) rfl
        clear hcx
        refine grow_same (v := .int .i64 (l.r : Int)) ?_ rfl
        clear old dep ho hsz hb
        go_simp
      | 8, ho =>
        obtain rfl := Option.some.inj ho
        have o0 : a.tmps.getD 0 undef = _ := old 0 (by kernel_rfl)
        rw [if_pos (wanted_none rfl)]
        refine grow_same (v := .pointer (some ⟨g, 0, none⟩)) ?_ rfl
        clear old dep ho hsz hb
        go_simp
      | 9, ho =>
        obtain rfl := Option.some.inj ho
        have d8 : a.tmps.getD 34 undef = .pointer (some ⟨g, 0, none⟩) := dep 8 _ _ (by kernel_rfl) rfl rfl
        have e8 : a.tmps[34]?.getD undef = _ := (Array.getD_eq_getD_getElem? ..).symm.trans d8
        rw [if_pos (wanted_none rfl)]
        refine grow_same (v := .pointer (some ⟨g, 0, none⟩)) ?_ rfl
        clear old dep ho hsz hb
        go_simp
      | 10, ho =>
        obtain rfl := Option.some.inj ho
        have d9 : a.tmps.getD 35 undef = .pointer (some ⟨g, 0, none⟩) := dep 9 _ _ (by kernel_rfl) rfl rfl
        have e9 : a.tmps[35]?.getD undef = _ := (Array.getD_eq_getD_getElem? ..).symm.trans d9
        rw [if_pos (wanted_none rfl)]
        refine grow_same (v := .pointer (some ⟨g, 2, none⟩)) ?_ rfl
        clear old dep ho hsz hb
        go_simp
      | 11, ho =>
        obtain rfl := Option.some.inj ho
        have d10 : a.tmps.getD 36 undef = .pointer (some ⟨g, 2, none⟩) := dep 10 _ _ (by kernel_rfl) rfl rfl
        have e10 : a.tmps[36]?.getD undef = _ := (Array.getD_eq_getD_getElem? ..).symm.trans d10
        rw [if_pos (wanted_none rfl)]
        have hcx := (H2.out.below hb).blk
        have hc0 := hcx.cell 0 (.pointer (some ⟨dg, 0, none⟩)) rfl
        have hc1 := hcx.cell 1 (.int .i64 (l.r : Int)) rfl
        have hc2 := hcx.cell 2 (.int .i64 (l.bank : Int)) rfl
        have hc3 := hcx.cell 3 (.int .u64 (l.gen : Int)) rfl
        have hc4 := hcx.cell 4 (.int .i64 (l.first : Int)) rfl
        have hc5 := hcx.cell 5 (kv2) rfl
        have hc6 := hcx.cell 6 (.int .i64 (l.sure : Int)) rfl
        have hc7 := hcx.cell 7 (.bool false) rfl
        clear hcx
        refine grow_same (v := .int .i64 (l.bank : Int)) ?_ rfl
        clear old dep ho hsz hb
        go_simp
      | 12, ho =>
        obtain rfl := Option.some.inj ho
        have d11 : a.tmps.getD 37 undef = .int .i64 (l.bank : Int) := dep 11 _ _ (by kernel_rfl) rfl rfl
        have e11 : a.tmps[37]?.getD undef = _ := (Array.getD_eq_getD_getElem? ..).symm.trans d11
        rw [if_pos (wanted_none rfl)]
        have hbk := HF.out.bank
        refine grow_same (v := .int .i64 ((1 - l.bank : Nat) : Int)) ?_ rfl
        clear old dep ho hsz hb
        go_simp
        first | omega | (rw [IntKind.wrap_i64]; omega)
      | 13, ho =>
        obtain rfl := Option.some.inj ho
        have o0 : a.tmps.getD 0 undef = _ := old 0 (by kernel_rfl)
        rw [if_pos (wanted_none rfl)]
        refine grow_same (v := .pointer (some ⟨g, 0, none⟩)) ?_ rfl
        clear old dep ho hsz hb
        go_simp
      | 14, ho =>
        obtain rfl := Option.some.inj ho
        have d13 : a.tmps.getD 39 undef = .pointer (some ⟨g, 0, none⟩) := dep 13 _ _ (by kernel_rfl) rfl rfl
        have e13 : a.tmps[39]?.getD undef = _ := (Array.getD_eq_getD_getElem? ..).symm.trans d13
        rw [if_pos (wanted_none rfl)]
        refine grow_same (v := .pointer (some ⟨g, 0, none⟩)) ?_ rfl
        clear old dep ho hsz hb
        go_simp
      | 15, ho =>
        obtain rfl := Option.some.inj ho
        have d14 : a.tmps.getD 40 undef = .pointer (some ⟨g, 0, none⟩) := dep 14 _ _ (by kernel_rfl) rfl rfl
        have e14 : a.tmps[40]?.getD undef = _ := (Array.getD_eq_getD_getElem? ..).symm.trans d14
        rw [if_pos (wanted_none rfl)]
        refine grow_same (v := .pointer (some ⟨g, 3, none⟩)) ?_ rfl
        clear old dep ho hsz hb
        go_simp
      | 16, ho =>
        obtain rfl := Option.some.inj ho
        have d15 : a.tmps.getD 41 undef = .pointer (some ⟨g, 3, none⟩) := dep 15 _ _ (by kernel_rfl) rfl rfl
        have e15 : a.tmps[41]?.getD undef = _ := (Array.getD_eq_getD_getElem? ..).symm.trans d15
        rw [if_pos (wanted_none rfl)]
        have hcx := (H2.out.below hb).blk
        have hc0 := hcx.cell 0 (.pointer (some ⟨dg, 0, none⟩)) rfl
        have hc1 := hcx.cell 1 (.int .i64 (l.r : Int)) rfl
        have hc2 := hcx.cell 2 (.int .i64 (l.bank : Int)) rfl
        have hc3 := hcx.cell 3 (.int .u64 (l.gen : Int)) rfl
        have hc4 := hcx.cell 4 (.int .i64 (l.first : Int)) rfl
        have hc5 := hcx.cell 5 (kv2) rfl
        have hc6 := hcx.cell 6 (.int .i64 (l.sure : Int)) rfl
        have hc7 := hcx.cell 7 (.bool false) rfl
        clear hcx
        refine grow_same (v := .int .u64 (l.gen : Int)) ?_ rfl
        clear old dep ho hsz hb
        go_simp
      | 17, ho =>
        obtain rfl := Option.some.inj ho
        have d16 : a.tmps.getD 42 undef = .int .u64 (l.gen : Int) := dep 16 _ _ (by kernel_rfl) rfl rfl
        have e16 : a.tmps[42]?.getD undef = _ := (Array.getD_eq_getD_getElem? ..).symm.trans d16
        rw [if_pos (wanted_none rfl)]
        have hgk := HF.out.gen
        refine grow_same (v := .int .u64 ((l.gen + 1 : Nat) : Int)) ?_ rfl
        clear old dep ho hsz hb
        go_simp
        first | omega | (rw [IntKind.wrap_u64]; omega)
      | 18, ho =>
        obtain rfl := Option.some.inj ho
        have o5 : a.tmps.getD 5 undef = _ := old 5 (by kernel_rfl)
        rw [if_pos (wanted_none rfl)]
        refine grow_same (v := .slice A6 (frsR rs).length c6) ?_ rfl
        clear old dep ho hsz hb
        go_simp
      | 19, ho =>
        obtain rfl := Option.some.inj ho
        have d3 : a.tmps.getD 29 undef = .pointer (some ⟨dg, 0, none⟩) := dep 3 _ _ (by kernel_rfl) rfl rfl
        have e3 : a.tmps[29]?.getD undef = _ := (Array.getD_eq_getD_getElem? ..).symm.trans d3
        have d7 : a.tmps.getD 33 undef = .int .i64 (l.r : Int) := dep 7 _ _ (by kernel_rfl) rfl rfl
        have e7 : a.tmps[33]?.getD undef = _ := (Array.getD_eq_getD_getElem? ..).symm.trans d7
        have d12 : a.tmps.getD 38 undef = .int .i64 ((1 - l.bank : Nat) : Int) := dep 12 _ _ (by kernel_rfl) rfl rfl
        have e12 : a.tmps[38]?.getD undef = _ := (Array.getD_eq_getD_getElem? ..).symm.trans d12
        have d17 : a.tmps.getD 43 undef = .int .u64 ((l.gen + 1 : Nat) : Int) := dep 17 _ _ (by kernel_rfl) rfl rfl
        have e17 : a.tmps[43]?.getD undef = _ := (Array.getD_eq_getD_getElem? ..).symm.trans d17
        have d18 : a.tmps.getD 44 undef = .slice A6 (frsR rs).length c6 := dep 18 _ _ (by kernel_rfl) rfl rfl
        have e18 : a.tmps[44]?.getD undef = _ := (Array.getD_eq_getD_getElem? ..).symm.trans d18
        rw [if_pos (wanted_none rfl)]
        refine grow_same (v := .agg #[.pointer (some ⟨dg, 0, none⟩), .int .i64 (l.r : Int), .int .i64 ((1 - l.bank : Nat) : Int), .int .u64 ((l.gen + 1 : Nat) : Int), .int .i64 0, .slice A6 (frsR rs).length c6, .int .i64 0, .bool false]) ?_ rfl
        clear old dep ho hsz hb
        go_simp
      | 20, ho =>
        obtain rfl := Option.some.inj ho
        have d19 : a.tmps.getD 45 undef = .agg #[.pointer (some ⟨dg, 0, none⟩), .int .i64 (l.r : Int), .int .i64 ((1 - l.bank : Nat) : Int), .int .u64 ((l.gen + 1 : Nat) : Int), .int .i64 0, .slice A6 (frsR rs).length c6, .int .i64 0, .bool false] := dep 19 _ _ (by kernel_rfl) rfl rfl
        have e19 : a.tmps[45]?.getD undef = _ := (Array.getD_eq_getD_getElem? ..).symm.trans d19
        rw [if_pos (wanted_none rfl)]
        refine grow_yields (v := .pointer (some ⟨w2.heap.size, 0, none⟩)) (w' := w2.alloc (.cells #[.pointer (some ⟨dg, 0, none⟩), .int .i64 (l.r : Int), .int .i64 ((1 - l.bank : Nat) : Int), .int .u64 ((l.gen + 1 : Nat) : Int), .int .i64 0, .slice A6 (frsR rs).length c6, .int .i64 0, .bool false] 86)) ?_ ⟨_, rfl, hb.size, heap_new w2 _⟩ ((Below.refl _ _).alloc (Nat.le_refl _) _)
        clear old dep ho hsz hb
        go_simp
      | 21, ho =>
        obtain rfl := Option.some.inj ho
        have s20 : (Say.blk wa.heap.size 86 #[.pointer (some ⟨dg, 0, none⟩), .int .i64 (l.r : Int), .int .i64 ((1 - l.bank : Nat) : Int), .int .u64 ((l.gen + 1 : Nat) : Int), .int .i64 0, .slice A6 (frsR rs).length c6, .int .i64 0, .bool false]).p w2 (a.tmps.getD 46 undef) := dep 20 _ _ (by kernel_rfl) rfl rfl
        rw [if_pos (wanted_none rfl)]
        refine grow_same (v := a.tmps.getD 46 undef) ?_ s20
        clear old dep ho hsz hb
        go_simp
      | i + 22, ho => exact absurd ho (by simp)
    · intro a w3 hb hsz hdf fin keep
      obtain ⟨tm, df⟩ := a
      have hx := frame_of [26, 27, 28, 29, 30, 31, 32, 33, 34, 35, 36, 37, 38, 39, 40, 41, 42, 43, 44, 45, 46, 8] (by kernel_rfl) hsz keep
      dsimp only at hdf hx
      simp only [List.foldl_cons, List.foldl_nil] at hx
      subst hdf
      clear hsz keep
      have kn : tm.getD 26 undef = .pointer (some ⟨g, 0, none⟩) := fin 0 _ _ rfl rfl
      rw [kn] at hx
      clear kn
      have kn : tm.getD 27 undef = .pointer (some ⟨g, 0, none⟩) := fin 1 _ _ rfl rfl
      rw [kn] at hx
      clear kn
      have kn : tm.getD 28 undef = .pointer (some ⟨g, 0, none⟩) := fin 2 _ _ rfl rfl
      rw [kn] at hx
      clear kn
      have kn : tm.getD 29 undef = .pointer (some ⟨dg, 0, none⟩) := fin 3 _ _ rfl rfl
      rw [kn] at hx
      clear kn
      have kn : tm.getD 30 undef = .pointer (some ⟨g, 0, none⟩) := fin 4 _ _ rfl rfl
      rw [kn] at hx
      clear kn
      have kn : tm.getD 31 undef = .pointer (some ⟨g, 0, none⟩) := fin 5 _ _ rfl rfl
      rw [kn] at hx
      clear kn
      have kn : tm.getD 32 undef = .pointer (some ⟨g, 1, none⟩) := fin 6 _ _ rfl rfl
      rw [kn] at hx
      clear kn
      have kn : tm.getD 33 undef = .int .i64 (l.r : Int) := fin 7 _ _ rfl rfl
      rw [kn] at hx
      clear kn
      have kn : tm.getD 34 undef = .pointer (some ⟨g, 0, none⟩) := fin 8 _ _ rfl rfl
      rw [kn] at hx
      clear kn
      have kn : tm.getD 35 undef = .pointer (some ⟨g, 0, none⟩) := fin 9 _ _ rfl rfl
      rw [kn] at hx
      clear kn
      have kn : tm.getD 36 undef = .pointer (some ⟨g, 2, none⟩) := fin 10 _ _ rfl rfl
      rw [kn] at hx
      clear kn
      have kn : tm.getD 37 undef = .int .i64 (l.bank : Int) := fin 11 _ _ rfl rfl
      rw [kn] at hx
      clear kn
      have kn : tm.getD 38 undef = .int .i64 ((1 - l.bank : Nat) : Int) := fin 12 _ _ rfl rfl
      rw [kn] at hx
      clear kn
      have kn : tm.getD 39 undef = .pointer (some ⟨g, 0, none⟩) := fin 13 _ _ rfl rfl
      rw [kn] at hx
      clear kn
      have kn : tm.getD 40 undef = .pointer (some ⟨g, 0, none⟩) := fin 14 _ _ rfl rfl
      rw [kn] at hx
      clear kn
      have kn : tm.getD 41 undef = .pointer (some ⟨g, 3, none⟩) := fin 15 _ _ rfl rfl
      rw [kn] at hx
      clear kn
      have kn : tm.getD 42 undef = .int .u64 (l.gen : Int) := fin 16 _ _ rfl rfl
      rw [kn] at hx
      clear kn
      have kn : tm.getD 43 undef = .int .u64 ((l.gen + 1 : Nat) : Int) := fin 17 _ _ rfl rfl
      rw [kn] at hx
      clear kn
      have kn : tm.getD 44 undef = .slice A6 (frsR rs).length c6 := fin 18 _ _ rfl rfl
      rw [kn] at hx
      clear kn
      have kn : tm.getD 45 undef = .agg #[.pointer (some ⟨dg, 0, none⟩), .int .i64 (l.r : Int), .int .i64 ((1 - l.bank : Nat) : Int), .int .u64 ((l.gen + 1 : Nat) : Int), .int .i64 0, .slice A6 (frsR rs).length c6, .int .i64 0, .bool false] := fin 19 _ _ rfl rfl
      rw [kn] at hx
      clear kn
      generalize tm.getD 46 undef = y46 at hx
      have S8 : (Say.blk wa.heap.size 86 #[.pointer (some ⟨dg, 0, none⟩), .int .i64 (l.r : Int), .int .i64 ((1 - l.bank : Nat) : Int), .int .u64 ((l.gen + 1 : Nat) : Int), .int .i64 0, .slice A6 (frsR rs).length c6, .int .i64 0, .bool false]).p w3 (tm.getD 8 undef) := fin 21 _ _ rfl rfl
      generalize tm.getD 8 undef = y8 at hx S8
      clear fin
      simp only [List.setIfInBounds_toArray, List.set_cons_succ, List.set_cons_zero] at hx
      subst hx
      obtain ⟨g2, e46, hg2, hbl⟩ := S8
      subst e46
      have B3 := hide (both_new (n := l.next (frsR rs)) H2.out hb hg2 hbl (K2.out.below hb) HNB.out)
      have O3 := hide (O2.out.trans (Out.of_below hb))
      clear hb hbl H2 K2 O2
      have N3 := N2
      have hcon := clean_ln B3.out.snd HNF.out N3.out.is (by omega)
      unfold ptr at hcon
      rcases hr : g1.run (cleanD (l.next (frsR rs)) g1.secs ((l.next (frsR rs)).first + (l.next (frsR rs)).nsec)) with ⟨g4, b⟩
      rw [hr] at hcon
      cases b
      · have HX4 : Hid (g1.run (anewT l (frsR rs) g1.secs) = (g4, false)) := hide (by exact run_no hr _)
        clear hr
        go_wp2_with (go_at_call 57; ((with_reducible refine hcon.mono ?_); rintro e w4 ⟨v, rfl, rfl, d4, kn4, hnx, hln, hout⟩; try simp only [cd, Bool.false_eq_true, if_false]; have B4 := hide (B3.out.step hln hout); have N4 := hide (N3.out.trans hnx); have O4 := hide (O3.out.trans (hout.less (fun k hk => .inl hk))); clear hln hnx hout))
        go_ret
        rw [HA.out, HX4.out]
        exact ⟨_, rfl, rfl, ⟨d4, kv2, _, by rw [HA.out, HX4.out]; exact N4.out.more (by omega), B4.out.fst, O4.out, (fun h => by rw [HA.out, HX4.out] at h; cases h), fun _ => ⟨false, rfl⟩⟩⟩
      · have HY4 : Hid (g1.run (anewT l (frsR rs) g1.secs) = g4.run (hardD (l.next (frsR rs)) ++ ([headD (l.next (frsR rs)).hard] ++ [.bar]))) := hide (by exact run_yes hr _)
        clear hr
        go_upto_if 50 with (go_at_call 57; ((with_reducible refine hcon.mono ?_); rintro e w4 ⟨v, rfl, rfl, d4, kn4, hnx, hln, hout⟩; try simp only [cd, if_true]; have B4 := hide (B3.out.step hln hout); have N4 := hide (N3.out.trans hnx); have O4 := hide (O3.out.trans (hout.less (fun k hk => .inl hk))); clear hln hnx hout))
        have hcon := harden_ln B4.out.snd HNF.out N4.out.is (by omega)
        unfold ptr at hcon
        rcases hr : g4.run (hardD (l.next (frsR rs))) with ⟨g5, b⟩
        rw [hr] at hcon
        cases b
        · have HX5 : Hid (g1.run (anewT l (frsR rs) g1.secs) = (g5, false)) := hide (by rw [HY4.out]; exact run_no hr _)
          clear hr
          go_wp2_with (go_at_call 58; ((with_reducible refine hcon.mono ?_); rintro e w5 ⟨v, rfl, rfl, d5, kn5, hnx, hln, hout⟩; try simp only [cd, Bool.false_eq_true, if_false]; have B5 := hide (B4.out.step hln hout); have N5 := hide (N4.out.trans hnx); have O5 := hide (O4.out.trans (hout.less (fun k hk => .inl hk))); clear hln hnx hout))
          go_ret
          rw [HA.out, HX5.out]
          exact ⟨_, rfl, rfl, ⟨d5, kv2, _, by rw [HA.out, HX5.out]; exact N5.out.more (by omega), B5.out.fst, O5.out, (fun h => by rw [HA.out, HX5.out] at h; cases h), fun _ => ⟨false, rfl⟩⟩⟩
        · have HY5 : Hid (g1.run (anewT l (frsR rs) g1.secs) = g5.run ([headD (l.next (frsR rs)).hard] ++ [.bar])) := hide (by rw [HY4.out]; exact run_yes hr _)
          clear hr
          go_upto_if 55 with (go_at_call 58; ((with_reducible refine hcon.mono ?_); rintro e w5 ⟨v, rfl, rfl, d5, kn5, hnx, hln, hout⟩; try simp only [cd, if_true]; have B5 : Hid (Both w5 X dg d5 g _ kv2 g2 (l.next (frsR rs)).hard kn5) := hide (B4.out.step hln hout); have N5 := hide (N4.out.trans hnx); have O5 := hide (O4.out.trans (hout.less (fun k hk => .inl hk))); clear hln hnx hout))
          have hcon := head_ln B5.out.snd HNF.out.hard N5.out.is (by omega)
          unfold ptr at hcon
          rcases hr : g5.run [headD (l.next (frsR rs)).hard] with ⟨g6, b⟩
          rw [hr] at hcon
          cases b
          · have HX6 : Hid (g1.run (anewT l (frsR rs) g1.secs) = (g6, false)) := hide (by rw [HY5.out]; exact run_no hr _)
            clear hr
            go_wp2_with (go_at_call 59; ((with_reducible refine hcon.mono ?_); rintro e w6 ⟨v, rfl, rfl, d6, kn6, hnx, hln, hout⟩; try simp only [cd, Bool.false_eq_true, if_false]; have B6 := hide (B5.out.step hln hout); have N6 := hide (N5.out.trans hnx); have O6 := hide (O5.out.trans (hout.less (fun k hk => .inl hk))); clear hln hnx hout))
            go_ret
            rw [HA.out, HX6.out]
            exact ⟨_, rfl, rfl, ⟨d6, kv2, _, by rw [HA.out, HX6.out]; exact N6.out.more (by omega), B6.out.fst, O6.out, (fun h => by rw [HA.out, HX6.out] at h; cases h), fun _ => ⟨false, rfl⟩⟩⟩
          · have HY6 : Hid (g1.run (anewT l (frsR rs) g1.secs) = g6.run [.bar]) := hide (by rw [HY5.out]; exact run_yes hr _)
            clear hr
            go_upto_region 18 with (go_at_call 59; ((with_reducible refine hcon.mono ?_); rintro e w6 ⟨v, rfl, rfl, d6, kn6, hnx, hln, hout⟩; try simp only [cd, if_true]; have B6 := hide (B5.out.step hln hout); have N6 := hide (N5.out.trans hnx); have O6 := hide (O5.out.trans (hout.less (fun k hk => .inl hk))); obtain ⟨x0, x1, x2, x3, x4, x5, x6, x7⟩ := B6.out.fst.cell; have z7 := B6.out.fst.frozen 7; clear hln hnx hout))
            have B7 := hide (B6.out.astray true)
            have O7 := hide (O6.out.trans (out_set B6.out.fst 7 (.bool true)))
            clear x0 x1 x2 x3 x4 x5 x6 x7 z7
            generalize w6.setCell ⟨g, 7, none⟩ (.bool true) = w7 at *
            refine region_last 8 73 [Say.is (.pointer (some ⟨g, 0, none⟩)), Say.is (.pointer (some ⟨g, 0, none⟩)), Say.is (.pointer (some ⟨g, 0, none⟩)), Say.is (.pointer (some ⟨dg, 0, none⟩)), Say.is (.pointer (some ⟨g, 0, none⟩)), Say.is (.pointer (some ⟨g, 0, none⟩)), Say.is (.pointer (some ⟨g, 1, none⟩)), Say.is (.int .i64 (l.r : Int))] (fun v w' => v = .int .i64 (cd (g6.run [.bar]).2) ∧ Went w7 w' (LX X g kv2) dg d6 g2 (l.next (frsR rs)).hard (g6.run [.bar]).1 (k + 1 + 300 + 300 + 1)) rfl rfl rfl (by kernel_rfl) (by kernel_rfl) (by kernel_rfl) (by kernel_rfl) (by kernel_rfl) ?_ ?_ ?_ ?_
            · intro i o hik ho a w2 hb hsz old dep
              match i, ho with
              | 0, ho =>
                obtain rfl := Option.some.inj ho
                have o0 : a.tmps.getD 0 undef = _ := old 0 (by kernel_rfl)
                rw [if_pos (wanted_none rfl)]
                refine grow_same (v := .pointer (some ⟨g, 0, none⟩)) ?_ rfl
                clear old dep ho hsz hb
                go_simp
              | 1, ho =>
                obtain rfl := Option.some.inj ho
                have d0 : a.tmps.getD 65 undef = .pointer (some ⟨g, 0, none⟩) := dep 0 _ _ (by kernel_rfl) rfl rfl
                have e0 : a.tmps[65]?.getD undef = _ := (Array.getD_eq_getD_getElem? ..).symm.trans d0
                rw [if_pos (wanted_none rfl)]
                refine grow_same (v := .pointer (some ⟨g, 0, none⟩)) ?_ rfl
                clear old dep ho hsz hb
                go_simp
              | 2, ho =>
                obtain rfl := Option.some.inj ho
                have d1 : a.tmps.getD 66 undef = .pointer (some ⟨g, 0, none⟩) := dep 1 _ _ (by kernel_rfl) rfl rfl
                have e1 : a.tmps[66]?.getD undef = _ := (Array.getD_eq_getD_getElem? ..).symm.trans d1
                rw [if_pos (wanted_none rfl)]
                refine grow_same (v := .pointer (some ⟨g, 0, none⟩)) ?_ rfl
                clear old dep ho hsz hb
                go_simp
              | 3, ho =>
                obtain rfl := Option.some.inj ho
                have d2 : a.tmps.getD 67 undef = .pointer (some ⟨g, 0, none⟩) := dep 2 _ _ (by kernel_rfl) rfl rfl
                have e2 : a.tmps[67]?.getD undef = _ := (Array.getD_eq_getD_getElem? ..).symm.trans d2
                rw [if_pos (wanted_none rfl)]
                have hcx := (B7.out.below hb).fst.blk
                have hc0 := hcx.cell 0 (.pointer (some ⟨dg, 0, none⟩)) rfl
                have hc1 := hcx.cell 1 (.int .i64 (l.r : Int)) rfl
                have hc2 := hcx.cell 2 (.int .i64 (l.bank : Int)) rfl
                have hc3 := hcx.cell 3 (.int .u64 (l.gen : Int)) rfl
                have hc4 := hcx.cell 4 (.int .i64 (l.first : Int)) rfl
                have hc5 := hcx.cell 5 (kv2) rfl
                have hc6 := hcx.cell 6 (.int .i64 (l.sure : Int)) rfl
                have hc7 := hcx.cell 7 (.bool true) rfl
                clear hcx
                refine grow_same (v := .pointer (some ⟨dg, 0, none⟩)) ?_ rfl
                clear old dep ho hsz hb
                go_simp
              | 4, ho =>
                obtain rfl := Option.some.inj ho
                have o0 : a.tmps.getD 0 undef = _ := old 0 (by kernel_rfl)
                rw [if_pos (wanted_none rfl)]
                refine grow_same (v := .pointer (some ⟨g, 0, none⟩)) ?_ rfl
                clear old dep ho hsz hb
                go_simp
              | 5, ho =>
                obtain rfl := Option.some.inj ho
                have d4 : a.tmps.getD 69 undef = .pointer (some ⟨g, 0, none⟩) := dep 4 _ _ (by kernel_rfl) rfl rfl
                have e4 : a.tmps[69]?.getD undef = _ := (Array.getD_eq_getD_getElem? ..).symm.trans d4
                rw [if_pos (wanted_none rfl)]
                refine grow_same (v := .pointer (some ⟨g, 0, none⟩)) ?_ rfl
                clear old dep ho hsz hb
                go_simp
              | 6, ho =>
                obtain rfl := Option.some.inj ho
                have d5 : a.tmps.getD 70 undef = .pointer (some ⟨g, 0, none⟩) := dep 5 _ _ (by kernel_rfl) rfl rfl
                have e5 : a.tmps[70]?.getD undef = _ := (Array.getD_eq_getD_getElem? ..).symm.trans d5
                rw [if_pos (wanted_none rfl)]
                refine grow_same (v := .pointer (some ⟨g, 1, none⟩)) ?_ rfl
                clear old dep ho hsz hb
                go_simp
              | 7, ho =>
                obtain rfl := Option.some.inj ho
                have d6 : a.tmps.getD 71 undef = .pointer (some ⟨g, 1, none⟩) := dep 6 _ _ (by kernel_rfl) rfl rfl
                have e6 : a.tmps[71]?.getD undef = _ := (Array.getD_eq_getD_getElem? ..).symm.trans d6
                rw [if_pos (wanted_none rfl)]
                have hcx := (B7.out.below hb).fst.blk
                have hc0 := hcx.cell 0 (.pointer (some ⟨dg, 0, none⟩)) rfl
                have hc1 := hcx.cell 1 (.int .i64 (l.r : Int)) rfl
                have hc2 := hcx.cell 2 (.int .i64 (l.bank : Int)) rfl
                have hc3 := hcx.cell 3 (.int .u64 (l.gen : Int)) rfl
                have hc4 := hcx.cell 4 (.int .i64 (l.first : Int)) rfl
                have hc5 := hcx.cell 5 (kv2) rfl
                have hc6 := hcx.cell 6 (.int .i64 (l.sure : Int)) rfl
                have hc7 := hcx.cell 7 (.bool true) rfl
                clear hcx
                refine grow_same (v := .int .i64 (l.r : Int)) ?_ rfl
                clear old dep ho hsz hb
                go_simp
              | i + 8, ho => exact absurd hik (by omega)
            · intro a w2 hb hsz old dep
              have d3 : a.tmps.getD 68 undef = .pointer (some ⟨dg, 0, none⟩) := dep 3 _ _ (by kernel_rfl) rfl rfl
              have e3 : a.tmps[68]?.getD undef = _ := (Array.getD_eq_getD_getElem? ..).symm.trans d3
              have d7 : a.tmps.getD 72 undef = .int .i64 (l.r : Int) := dep 7 _ _ (by kernel_rfl) rfl rfl
              have e7 : a.tmps[72]?.getD undef = _ := (Array.getD_eq_getD_getElem? ..).symm.trans d7
              refine last_enters (f := 60) (args := #[.pointer (some ⟨dg, 0, none⟩), .int .i64 (l.r : Int)]) ?_ (barred_ln (B7.out.below hb).snd N6.out.is hb)
              clear old dep hsz hb
              go_simp
            · intro i o hki ho
              have hin : i < 10 := (Array.getElem?_eq_some_iff.1 ho).1
              obtain rfl : i = 9 := by omega
              obtain rfl := Option.some.inj ho
              refine ⟨rfl, fun a w => ?_⟩
              rw [Array.getD_eq_getD_getElem?]
              clear hki ho hin
              go_simp
            · intro a w2 v hR hsz hdf hk fin keep
              obtain ⟨tm, df⟩ := a
              have hx := frame_of [65, 66, 67, 68, 69, 70, 71, 72, 73, 12] (by kernel_rfl) hsz keep
              dsimp only at hdf hx hk
              simp only [List.foldl_cons, List.foldl_nil] at hx
              subst hdf
              clear hsz keep
              rw [hk] at hx
              clear hk
              generalize tm.getD 65 undef = y65 at hx
              generalize tm.getD 66 undef = y66 at hx
              generalize tm.getD 67 undef = y67 at hx
              generalize tm.getD 68 undef = y68 at hx
              generalize tm.getD 69 undef = y69 at hx
              generalize tm.getD 70 undef = y70 at hx
              generalize tm.getD 71 undef = y71 at hx
              generalize tm.getD 72 undef = y72 at hx
              have kn : tm.getD 12 undef = v := fin 9 _ _ (by decide) rfl rfl
              rw [kn] at hx
              clear kn
              clear fin
              simp only [List.setIfInBounds_toArray, List.set_cons_succ, List.set_cons_zero] at hx
              subst hx
              obtain ⟨rfl, d8, kn8, hnx, hln, hout⟩ := hR
              have B8 := hide (B7.out.step hln hout)
              have N8 := hide (N6.out.trans hnx)
              have O8 := hide (O7.out.trans (hout.less (fun k hk => .inl hk)))
              clear hln hnx hout
              rcases hr : g6.run [.bar] with ⟨g8, b⟩
              rw [hr] at N8
              cases b
              · have HX8 : Hid (g1.run (anewT l (frsR rs) g1.secs) = (g8, false)) := hide (by rw [HY6.out]; exact hr)
                clear hr
                simp only [cd, Bool.false_eq_true, if_false]
                go_wp2
                go_ret
                rw [HA.out, HX8.out]
                exact ⟨_, rfl, rfl, ⟨d8, kv2, _, by rw [HA.out, HX8.out]; exact N8.out.more (by omega), B8.out.fst, O8.out, (fun h => by rw [HA.out, HX8.out] at h; cases h), fun _ => ⟨true, rfl⟩⟩⟩
              · have HX8 : Hid (g1.run (anewT l (frsR rs) g1.secs) = (g8, true)) := hide (by rw [HY6.out]; exact hr)
                clear hr
                simp only [cd, if_true]
                have y := B8.out.snd.blk
                obtain ⟨KA, kc, rfl, _⟩ := id B8.out.snd.kept
                have y0 := y.cell 0 (.pointer (some ⟨dg, 0, none⟩)) rfl
                have y1 := y.cell 1 _ rfl
                have y2 := y.cell 2 _ rfl
                have y3 := y.cell 3 _ rfl
                have y4 := y.cell 4 _ rfl
                have y5 := y.cell 5 _ rfl
                have y6 := y.cell 6 _ rfl
                have y7 := y.cell 7 _ rfl
                clear y
                have IL := hide infoLane
                go_wp2_with ((refine store_whole 86 (.tmp 81) (.tmp 80) g 8 ((l.setAstray true).cells dg kv2) ((l.next (frsR rs)).hard.cells dg (.slice KA (l.next (frsR rs)).hard.kept.length kc)) rfl rfl B8.out.fst.blk rfl rfl ?_ ?_ IL.out (cells_one _ _ _ _ _) ?_; rfl; rfl; intro W9 hk9 hb9; have K9 := hide hk9; have L9 := hide hb9; clear hk9 hb9))
                go_ret
                rw [HA.out, HX8.out]
                have hfin := B8.out.over K9.out L9.out
                exact ⟨_, rfl, rfl, ⟨d8, _, _, by rw [HA.out, HX8.out]; exact N8.out.more (by omega), hfin.1, O8.out.trans hfin.2, fun _ => rfl, (fun h => by rw [HA.out, HX8.out] at h; cases h)⟩⟩
end
section
/- Contracts: what Anew refuses; New; find. -/
open Go.RowKit
set_option maxRecDepth 20000
set_option linter.unusedSimpArgs false
set_option linter.unusedVariables false

set_option maxHeartbeats 4000000 in
theorem anew_bad {w : World} {X : Nat → Prop} {dg : Nat} {d : Ds} {g : Nat} {l : Ln} {kv : Value} {v : Value} {rs : List Rc} {Z : Nat → Prop} {c0 : Int} (hn : rs.length ≤ 1000)
    (hv : RecsAt w Z v rs) (hu : ∀ r ∈ rs, ∀ x ∈ r.ds, x < 18446744073709551616) (hc0 : frCode rs 14336 = c0) (hc : c0 ≠ 0) :
    Calls Try.prog 30 #[ptr g, v] w fun e w' => e = .returned (.int .i64 c0) ∧ Below w.heap.size w w' := by
  have hfr : Calls Try.prog 34 #[.int .i64 14336, v] w fun e w' => ∃ A n c, e = .returned (.tuple #[.slice A n c, .int .i64 c0]) ∧ Below w.heap.size w w' := by
    refine (frames_ln 14336 (by omega) hn hv hu).mono ?_
    rintro e w' ⟨A, n, c, he, hm, hb⟩
    rw [hc0] at he
    exact ⟨A, n, c, he, hb⟩
  have hc2 : ((c0 : Int) != 0) = true := by simpa using hc
  clear hv hu hc0
  unfold ptr
  go_enter Try.func30, Try.ntmps30
  go_wp2_with (go_at_call 34; ((with_reducible refine hfr.mono ?_); rintro e w1 ⟨A6, n6, c6, rfl, hb1⟩))
  go_ret
  exact ⟨rfl, hb1⟩
/-- A lane laid in a new block. -/
theorem LnAt.new_ {w w' : World} {X : Nat → Prop} {dg : Nat} {d : Ds} {g : Nat} {l : Ln} (h : Many w X [(dg, d)]) (hb : Below w.heap.size w w') (hg : w.heap.size ≤ g) (hbl : Blk w' g 86 (l.cells dg (.slice none 0 0))) (hk : l.kept = []) : LnAt w' X dg d g l (.slice none 0 0) := by
  refine ⟨h.more hb (fun k hk => ?_), fun hx => ?_, fun k hk => by simp [blkOf] at hk, hbl, ?_⟩
  · rcases hk with h1 | h1 | h1
    · exact .inl h1
    · subst h1; exact .inr ⟨hg, hbl.lt⟩
    · simp [blkOf] at h1
  · have := h.1 g hx; omega
  · rw [hk]
    exact ⟨none, 0, rfl, Rd.nil_ _ _ _, .inl rfl⟩
def checkR : Rc := ⟨1, 0, 0, 0, ⟨#[]⟩, ⟨#[]⟩, ⟨#[]⟩, []⟩
theorem checkR_ok : checkR.Ok := (Rc.right_iff _).1 (by decide)
theorem checkR_frame : checkR.frame.length = 11 := by rw [Rc.frame_length]; rfl
theorem fr_code {rs : List Rc} {room : Nat} (h : ∀ r ∈ rs, r.Ok) (hl : (frsR rs).length ≤ room) : frCode rs room = 0 := by
  unfold frCode
  rw [if_pos (fun r hr => (h r hr).okB), if_pos hl]
theorem fr_quota {rs : List Rc} {room : Nat} (h : ∀ r ∈ rs, r.Ok) (hl : room < (frsR rs).length) : frCode rs room = 7 := by
  unfold frCode
  rw [if_pos (fun r hr => (h r hr).okB), if_neg (by omega)]
theorem fr_bad {rs : List Rc} {room : Nat} {r : Rc} (h : r ∈ rs) (hb : r.okB = false) : frCode rs room = 1 := by
  unfold frCode
  rw [if_neg]
  intro hc
  have := hc r h
  rw [hb] at this
  cases this
/-- The lane that New begins with. -/
def ln0 (r : Nat) : Ln := ⟨r, 1, 0, 0, [], 0, false⟩
theorem ln0_fit {r : Nat} (h : r < 64) : (ln0 r).Fit := ⟨h, Nat.le_refl _, Nat.zero_le _, Nat.zero_le _⟩
theorem recs_one {w : World} {r : Rc} {D : Value} {cs : Array Value} (hc : cs.toList = rcv r D) (hD : RIn (w.alloc (.cells cs 44)) (fun _ => True) D (u64s r.ds)) : RecsAt (w.alloc (.cells cs 44)) (fun _ => True) (.slice (some ⟨w.heap.size, 0, none⟩) 1 1) [r] := by
  refine ⟨_, _, rfl, Nat.le_refl _, fun _ => ⟨_, _, rfl, by simp, trivial, fun j q hj => ?_⟩⟩
  cases j with
  | succ j => simp at hj
  | zero =>
    obtain rfl : r = q := by simpa using hj
    refine ⟨D, ?_, hD⟩
    rw [Nat.zero_add, Nat.zero_mul, ← hc]
    exact rangeAt_new w _ _
theorem rin_nil (w : World) (X : Nat → Prop) (c : Nat) (A : Option Addr) : RIn w X (.slice A 0 c) (u64s []) := ⟨A, c, rfl, Nat.zero_le _, fun h => absurd h (by simp [u64s])⟩
def CK : Array Value := #[.int .i64 1, .int .i64 0, .int .i64 0, .int .i64 0, .string ⟨#[]⟩, .string ⟨#[]⟩, .string ⟨#[]⟩, .slice none 0 0]
set_option maxHeartbeats 8000000 in
theorem new_ln {w : World} {X : Nat → Prop} {dg : Nat} {d : Ds} {r : Nat} {gr : Rg} {k : Nat} (h : Many w X [(dg, d)]) (hr : r < 64) (hd : DIs d r gr k) (hk : k ≤ 500000) (hok : (anewR (ln0 r) (frsR [checkR]) gr).2 = true) :
    Calls Try.prog 10 #[ptr dg, .int .i64 (r : Int)] w fun e w' => ∃ g d' kv', e = .returned (.tuple #[ptr g, .int .i64 0]) ∧ Next d r (anewR (ln0 r) (frsR [checkR]) gr).1 (k + 700) d' ∧ LnAt w' X dg d' g ((ln0 r).next (frsR [checkR])).hard kv' ∧ Out X w w' := by
  have HM := hide h
  have HD := hide hd
  have HOK := hide hok
  have B1 := hide ((Below.refl _ w).alloc (Nat.le_refl _) (.cells #[.pointer (some ⟨dg, 0, none⟩), .int .i64 (r : Int), .int .i64 1, .int .u64 0, .int .i64 0, .slice none 0 0, .int .i64 0, .bool false] 86))
  have L1 : Hid (LnAt (w.alloc (.cells #[.pointer (some ⟨dg, 0, none⟩), .int .i64 (r : Int), .int .i64 1, .int .u64 0, .int .i64 0, .slice none 0 0, .int .i64 0, .bool false] 86)) X dg d w.heap.size (ln0 r) (.slice none 0 0)) := hide (LnAt.new_ h B1.out (Nat.le_refl _) (heap_new w _) rfl)
  have hsl := fun W => run_slice_one (P := Try.prog) W 120 44 #[.int .i64 1, .int .i64 0, .int .i64 0, .int .i64 0, .string ⟨#[]⟩, .string ⟨#[]⟩, .string ⟨#[]⟩, .slice none 0 0] #[.int .i64 0, .int .i64 0, .int .i64 0, .int .i64 0, .string ⟨#[]⟩, .string ⟨#[]⟩, .string ⟨#[]⟩, .slice none 0 0] 8 104 Try.underlying120 infoRec3 rfl (by omega) (by omega)
  clear h hd hok
  unfold ptr
  go_enter Try.func10, Try.ntmps10
  generalize hW1 : w.alloc (.cells #[.pointer (some ⟨dg, 0, none⟩), .int .i64 (r : Int), .int .i64 1, .int .u64 0, .int .i64 0, .slice none 0 0, .int .i64 0, .bool false] 86) = w1 at *
  have hb2 := (Below.refl _ w1).alloc (Nat.le_refl _) (.cells CK 44)
  have hrec : RecsAt (w1.alloc (.cells CK 44)) (fun _ => True) (.slice (some ⟨w1.heap.size, 0, none⟩) 1 1) [checkR] := recs_one rfl (rin_nil _ _ _ _)
  have hanew := anew_ln (L1.out.below hb2) (ln0_fit hr) (by show 0 + 1 ≤ 1000000; omega) HD.out hk (by simp) hrec (fun q hq => by rw [List.mem_singleton] at hq; subst hq; intro x hx; cases hx) (fr_code (fun q hq => by rw [List.mem_singleton] at hq; subst hq; exact checkR_ok) (by rw [frsR_one, checkR_frame]; omega))
  rw [HOK.out] at hanew
  unfold ptr CK at hanew
  have HS : w1.heap.size = w.heap.size + 1 := by rw [← hW1]; simp
  subst hW1
  rw [HS] at hanew
  have B2 := hide (B1.out.trans (hb2.mono B1.out.size))
  clear hrec
  go_wp2_with (go_at_call 30; ((with_reducible refine hanew.mono ?_); rintro e w3 ⟨v, rfl, rfl, ⟨d3, kv3, l3, hnx, hln, hout, hyes, _⟩⟩; (try simp only [cd, if_true]); have HX := hide hnx; have HL := hide hln; have HO := hide hout; have HY := hide (hyes HOK.out); clear hnx hln hout hyes))
  go_ret2
  rw [HY.out] at HL
  exact ⟨_, d3, kv3, rfl, HX.out, HL.out, (Out.of_below B2.out).trans HO.out⟩

theorem num4_sec (b : Sec) (h : b.length = 64) : (⟨b, false⟩ : St).num 4 = gn b := (num_sec b h).1
set_option maxHeartbeats 8000000 in
/-- find, where there is a lane. -/
theorem find_ln {w : World} {X : Nat → Prop} {dg : Nat} {d : Ds} {r : Nat} {gr : Rg} {k : Nat} {b : Sec} (h : Many w X [(dg, d)]) (hd : DIs d r gr k) (hb2 : d.rd? (r : Int) 1 = some b) (hb64 : b.length = 64) :
    Calls Try.prog 40 #[ptr dg, .int .i64 (r : Int)] w fun e w' => (gn b = 0 → e = .returned (.tuple #[.pointer none, .int .i64 5]) ∧ Below w.heap.size w w') ∧ (gn b ≠ 0 → sN b ≤ 1 → ∃ g, e = .returned (.tuple #[ptr g, .int .i64 0]) ∧ LnAt w' X dg d g ⟨r, sN b, gn b, 0, [], 0, false⟩ (.slice none 0 0) ∧ w.heap.size ≤ g ∧ Below w.heap.size w w') := by
  have HM := hide h
  have HN := hide (num_sec b hb64)
  have HN1 := hide (num_sec1 b hb64)
  have HL64 := hide hb64
  have hread : Calls Try.prog 44 #[ptr dg, .int .i64 (r : Int), .int .i64 1] w fun e w' => ∃ v, e = .returned v ∧ (Say.two b).p w' v ∧ Below w.heap.size w w' := read_two h hb2
  have hlt := sN_lt b
  have hgl := gn_lt b
  clear h hd hb2
  unfold ptr at *
  go_enter Try.func40, Try.ntmps40
  go_upto_region 6 with (first
    | (go_at_call 44; ((with_reducible refine hread.mono ?_); rintro e w1 ⟨v, rfl, ⟨A1, c1, rfl, hr1⟩, hb1⟩; have hnew := new_any (.slice A1 64 c1) b w1 (by rw [HL64.out]; omega) hr1; unfold ptr at hnew))
    | (go_at_call 67; ((with_reducible refine hnew.mono ?_); rintro e w2 ⟨g2, rfl, hr2, hb2⟩; have B2 := hide (hb1.trans (hb2.mono hb1.size)); have HR2 := hide hr2; have hn4 := num_any 4 hr2 (by rw [HL64.out]; omega); rw [HN.out.1, HN.out.2] at hn4; unfold ptr at hn4; clear hr2 hb2))
    | (go_at_call 68; ((with_reducible refine hn4.mono ?_); rintro e w3 ⟨rfl, hr3, hg3⟩; have B3 := hide (B2.out.grown hg3 B2.out.size (fun k hk => by injection hk with hk; have := hr3.lo_le; have := hb1.size; omega)); have hn1 := num_any 1 hr3 (by simp; omega); rw [HN1.out.1, HN1.out.2] at hn1; unfold ptr at hn1; clear hg3))
    | (go_at_call 68; ((with_reducible refine hn1.mono ?_); rintro e w4 ⟨rfl, hr4, hg4⟩; have B4 := hide (B3.out.grown hg4 B3.out.size (fun k hk => by injection hk with hk; have := hr4.lo_le; have := hb1.size; omega)); clear hg4)))
  have HLB := hide (LnAt.new_ (l := ⟨r, sN b, gn b, 0, [], 0, false⟩) HM.out (B4.out.alloc B4.out.size (.cells #[.pointer (some ⟨dg, 0, none⟩), .int .i64 (r : Int), .int .i64 (sN b : Int), .int .u64 (gn b : Int), .int .i64 0, .slice none 0 0, .int .i64 0, .bool false] 86)) B4.out.size (heap_new w4 _) rfl)
  have B5 := hide (B4.out.alloc B4.out.size (.cells #[.pointer (some ⟨dg, 0, none⟩), .int .i64 (r : Int), .int .i64 (sN b : Int), .int .u64 (gn b : Int), .int .i64 0, .slice none 0 0, .int .i64 0, .bool false] 86))
  have hsz := B4.out.size
  clear hread hnew hr1 hb1 hr3 hn4 hn1 hr4
  by_cases h0 : gn b = 0
  · have hg0 : (gn b : Int) = 0 := by omega
    have hg1 : ((gn b : Int) == 0) = true := by simpa using hg0
    go_wp2
    go_ret2
    have B6 := B5.out
    rw [hg0] at B6
    first | exact ⟨rfl, B6⟩ | exact ⟨fun _ => ⟨rfl, B6⟩, fun h => absurd h0 h⟩
  · have hg1 : ((gn b : Int) == 0) = false := by rw [beq_eq_false_iff_ne]; omega
    by_cases h1 : sN b ≤ 1
    · have hb1 : ¬ (2 : Int) ≤ (sN b : Int) := by omega
      have hb2 : decide ((2 : Int) ≤ (sN b : Int)) = false := by simpa using hb1
      go_wp2
      go_ret2
      first | exact ⟨_, rfl, HLB.out, hsz, B5.out⟩ | exact ⟨fun h => absurd h h0, fun _ _ => ⟨_, rfl, HLB.out, hsz, B5.out⟩⟩
    · have hb1 : (2 : Int) ≤ (sN b : Int) := by omega
      have hb2 : decide ((2 : Int) ≤ (sN b : Int)) = true := by simpa using hb1
      go_wp2
      go_ret2
      first | exact fun h => absurd h (by omega) | exact ⟨fun h => absurd h h0, fun _ h => absurd h h1⟩
end
section
/- Contract: a lane's entries. -/
open Go.RowKit
set_option maxRecDepth 20000
set_option linter.unusedSimpArgs false
set_option linter.unusedVariables false

theorem infoEnt3 : (Try.prog.info? 137).map (fun i => (i.zero, i.size, i.bytes)) = some (some (.agg #[.int .i64 0, .int .i64 0, .int .i64 0, .int .i64 0, .string ⟨#[]⟩, .string ⟨#[]⟩, .string ⟨#[]⟩, .slice none 0 0, .int .u64 0]), 9, 112) := by kernel_rfl
theorem decB_yes {l : List UInt8} (h : decB l = true) : ∃ z : Rc, readR (l.take 395) = z ∧ z.Ok ∧ z.frame <+: l := by
  unfold decB at h
  rw [Bool.and_eq_true, decide_eq_true_eq] at h
  exact ⟨_, rfl, (Rc.right_iff _).1 h.1, h.2⟩
/-- It is a slice of one element, in a block of its own. -/
def Say.one (B : Nat) (t : TypeId) (cs : Array Value) : Say := ⟨fun w v => ∃ g, v = .slice (some ⟨g, 0, none⟩) 1 1 ∧ B ≤ g ∧ Blk w g t cs, fun _ _ _ ⟨g, e, hg, h⟩ hb => ⟨g, e, hg, h.below hb⟩⟩
/-- An entry's cells: the record, its numbers where they lie, its place. -/
abbrev En := Rc × Value × Nat
def ecell (e : En) : List Value := rcv e.1 e.2.1 ++ [.int .u64 (e.2.2 : Int)]
theorem ecell_length (e : En) : (ecell e).length = 9 := rfl
theorem ecell_one (r : Rc) (A : Option Addr) (n c p : Nat) : ∀ u ∈ ecell (r, .slice A n c, p), u.oneCell' = true := by
  intro u hu
  simp [ecell, rcv] at hu
  rcases hu with rfl | rfl | rfl | rfl | rfl | rfl | rfl | rfl | rfl <;> rfl
theorem own_shape {w : World} {B : Nat} {e : TypeId} {s : Nat} {v : Value} {n : Nat} {xs : List Value} (h : w.ownsRow B e s v n xs) : ∃ A c, v = .slice A n c := by
  rcases h.2 with ⟨rfl, h0⟩ | ⟨g', cap, cur, rfl, _⟩
  · exact ⟨none, 0, by rw [h0]⟩
  · exact ⟨_, _, rfl⟩
/-- Entries, told: their records, their places, their numbers in blocks of X. -/
structure Ents (w : World) (X : Nat → Prop) (gen : Nat) (es : List En) : Prop where
  ok : ∀ e ∈ es, e.1.Ok
  place : ∀ j e, es[j]? = some e → e.2.2 = gen * 1048576 + (frsR ((es.map (·.1)).take j)).length + 1
  nums : ∀ e ∈ es, RIn w X e.2.1 (u64s e.1.ds)
theorem Ents.loose {w : World} {B gen : Nat} {o : Option Nat} {es : List En} (h : Ents w (fun k => B ≤ k ∧ o ≠ some k) gen es) : Ents w (fun k => B ≤ k) gen es := ⟨h.ok, h.place, fun e he => (h.nums e he).keep (fun _ _ _ => rfl) (Nat.le_refl _) (fun _ _ h => h.1)⟩
/-- One more, the row perhaps laid anew. -/
theorem Ents.more {w w2 w' : World} {B gen lo hi at_ : Nat} {u v D : Value} {r : Rc} {es : List En} (h : ∀ e ∈ es, RIn w (fun k => B ≤ k ∧ u.ownBlock ≠ some k) e.2.1 (u64s e.1.ds)) (hok : ∀ e ∈ es, e.1.Ok) (hpl : ∀ j e, es[j]? = some e → e.2.2 = gen * 1048576 + (frsR ((es.map (·.1)).take j)).length + 1)
    (hD : RIn w (fun k => lo ≤ k ∧ k < hi) D (u64s r.ds)) (hr : r.Ok) (hB : B ≤ lo) (hlo : ∀ k, u.ownBlock = some k → k < lo) (hhi : hi ≤ w.heap.size) (hat : (frsR (es.map (·.1))).length = at_) (hb : Below w.heap.size w w2) (hg : w2.grownBy w' u.ownBlock) (hv : v.ownBlock = u.ownBlock ∨ v.ownBlock = some w2.heap.size) :
    Ents w' (fun k => B ≤ k ∧ v.ownBlock ≠ some k) gen (es ++ [(r, D, gen * 1048576 + at_ + 1)]) := by
  have hcell : ∀ p : Addr, p.block < w.heap.size → u.ownBlock ≠ some p.block → w'.cell? p = w.cell? p := fun p hp hne =>
    (World.cell?_of_block (hg.block p.block (Nat.lt_of_lt_of_le hp hb.size) (fun e => hne e.symm))).trans (hb.cell hp)
  have hs : w.heap.size ≤ w'.heap.size := Nat.le_trans hb.size hg.size
  have hne : ∀ k, k < w.heap.size → u.ownBlock ≠ some k → v.ownBlock ≠ some k := by
    intro k hk hn
    rcases hv with e | e
    · rwa [e]
    · rw [e]; intro e2; injection e2 with e2; have := hb.size; omega
  refine ⟨fun e he => ?_, fun j e hj => ?_, fun e he => ?_⟩
  · rcases List.mem_append.1 he with h1 | h1
    · exact hok e h1
    · obtain rfl := List.mem_singleton.1 h1; exact hr
  · rw [List.map_append]
    rcases Nat.lt_or_ge j es.length with h1 | h1
    · rw [List.getElem?_append_left h1] at hj
      rw [List.take_append_of_le_length (by rw [List.length_map]; omega)]
      exact hpl j e hj
    · have hj' := (List.getElem?_eq_some_iff.1 hj).1
      rw [List.length_append, List.length_singleton] at hj'
      obtain rfl : j = es.length := by omega
      rw [List.getElem?_append_right (Nat.le_refl _), Nat.sub_self] at hj
      obtain rfl : (r, D, gen * 1048576 + at_ + 1) = e := by simpa using hj
      rw [List.take_left' (by rw [List.length_map]), hat]
  · rcases List.mem_append.1 he with h1 | h1
    · exact (h e h1).keep (fun p hp hx => hcell p hp hx.2) hs (fun k hk hx => ⟨hx.1, hne k hk hx.2⟩)
    · obtain rfl := List.mem_singleton.1 h1
      have hu : ∀ k, lo ≤ k → u.ownBlock ≠ some k := fun k hk e => by have := hlo k e; omega
      exact hD.keep (fun p hp hx => hcell p hp (hu _ hx.1)) hs (fun k hk hx => ⟨by omega, hne k hk (hu k hx.1)⟩)
theorem flat_at (es : List En) : ∀ (j : Nat) (e : En) (i : Nat), es[j]? = some e → i < 9 → (es.flatMap ecell)[j * 9 + i]? = (ecell e)[i]? := by
  induction es with
  | nil => intro j e i h; simp at h
  | cons x es ih =>
    intro j e i h hi
    rw [List.flatMap_cons]
    cases j with
    | zero =>
      obtain rfl : x = e := by simpa using h
      rw [List.getElem?_append_left (by rw [ecell_length]; omega), Nat.zero_mul, Nat.zero_add]
    | succ j =>
      rw [List.getElem?_append_right (by rw [ecell_length]; omega), ecell_length, show (j + 1) * 9 + i - 9 = j * 9 + i by omega]
      exact ih j e i (by simpa using h) hi
/-- v is a slice of entries, in blocks of X. -/
def EntsAt (w : World) (X : Nat → Prop) (v : Value) (gen : Nat) (rs : List Rc) : Prop :=
  RecsN 9 w X v rs ∧ ∀ b o n c, v = .slice (some ⟨b, o, none⟩) n c → ∀ j, j < rs.length → w.cell? ⟨b, o + j * 9 + 8, none⟩ = some (.int .u64 ((gen * 1048576 + (frsR (rs.take j)).length + 1 : Nat) : Int))
theorem EntsAt.keep {w w' : World} {X Y : Nat → Prop} {v : Value} {gen : Nat} {rs : List Rc} (h : EntsAt w X v gen rs) (hk : ∀ p : Addr, p.block < w.heap.size → X p.block → w'.cell? p = w.cell? p) (hs : w.heap.size ≤ w'.heap.size) (hY : ∀ k, k < w.heap.size → X k → Y k) : EntsAt w' Y v gen rs := by
  refine ⟨h.1.keep hk hs hY, fun b o n c e j hj => ?_⟩
  obtain ⟨A, c', e', _, hr⟩ := h.1
  obtain ⟨b', o', e2, hb, hx, _⟩ := hr (by omega)
  have hb' : b = b' := by rw [e, e2] at e'; injection e' with e'; injection e' with e'; injection e'
  subst hb'
  exact (hk ⟨b, o + j * 9 + 8, none⟩ hb hx).trans (h.2 b o n c e j hj)
theorem EntsAt.out {w w' : World} {X : Nat → Prop} {v : Value} {gen : Nat} {rs : List Rc} (h : EntsAt w X v gen rs) (ho : Out X w w') : EntsAt w' X v gen rs := h.keep (fun p hp hx => Kept.cell ho hp (fun hn => hn hx)) ho.size (fun _ _ h => h)
theorem EntsAt.sub {w : World} {X Y : Nat → Prop} {v : Value} {gen : Nat} {rs : List Rc} (h : EntsAt w X v gen rs) (hY : ∀ k, k < w.heap.size → X k → Y k) : EntsAt w Y v gen rs := h.keep (fun _ _ _ => rfl) (Nat.le_refl _) hY
theorem EntsAt.below {w w' : World} {X : Nat → Prop} {v : Value} {gen : Nat} {rs : List Rc} (h : EntsAt w X v gen rs) (hb : Below w.heap.size w w') : EntsAt w' X v gen rs := h.keep (fun p hp _ => hb.cell hp) hb.size (fun _ _ h => h)
theorem own_ents {w : World} {B : Nat} {v : Value} {gen : Nat} {es : List En} (ho : w.ownsRow B 137 9 v es.length (es.flatMap ecell)) (he : Ents w (fun k => B ≤ k) gen es) : EntsAt w (fun k => B ≤ k) v gen (es.map (·.1)) := by
  rcases ho.2 with ⟨rfl, h0⟩ | ⟨g, cap, cur, rfl, hg, hh, hn, hcap, hsz, htake⟩
  · obtain rfl : es = [] := List.eq_nil_of_length_eq_zero h0
    exact ⟨RecsN.nil_ _ _, fun b o n c e => by cases e⟩
  · have hcell : ∀ j e i u, es[j]? = some e → (ecell e)[i]? = some u → w.cell? ⟨g, j * 9 + i, none⟩ = some u := by
      intro j e i u hj hu
      have hi : i < 9 := by have := (List.getElem?_eq_some_iff.1 hu).1; rwa [ecell_length] at this
      have hf := flat_at es j e i hj hi
      rw [hu] at hf
      unfold World.cell?
      simp only [hh]
      have hjl := (List.getElem?_eq_some_iff.1 hj).1
      rw [← htake, List.getElem?_take] at hf
      split at hf
      · simpa using hf
      · cases hf
    refine ⟨⟨_, cap, by rw [List.length_map], by rw [List.length_map]; exact hn, fun _ => ⟨g, 0, rfl, Blk.lt hh, hg, fun j r hj => ?_⟩⟩, fun b o n c e j hj => ?_⟩
    · rw [List.getElem?_map] at hj
      cases hq : es[j]? with
      | none => rw [hq] at hj; cases hj
      | some e =>
        rw [hq] at hj
        obtain rfl : e.1 = r := by simpa using hj
        refine ⟨e.2.1, fun i u hu => ?_, he.nums e (List.mem_of_getElem? hq)⟩
        rw [Nat.zero_add]
        refine hcell j e i u hq ?_
        have hi : i < (rcv e.1 e.2.1).length := (List.getElem?_eq_some_iff.1 hu).1
        unfold ecell
        rw [List.getElem?_append_left hi]
        exact hu
    · injection e with e1
      injection e1 with e1
      injection e1 with e1 e2
      subst e1 e2
      rw [List.length_map] at hj
      have hq : es[j]? = some es[j] := List.getElem?_eq_getElem hj
      rw [Nat.zero_add, ← he.place j _ hq]
      exact hcell j _ 8 _ hq rfl

set_option maxHeartbeats 8000000 in
theorem entries_ln {w : World} {X : Nat → Prop} {dg : Nat} {d : Ds} {g : Nat} {l : Ln} {kv : Value} {A : Option Addr} {c : Nat} {st : List UInt8} {n : Nat} (h : LnAt w X dg d g l kv) (hf : l.Fit) (hv : Rd w (.slice A n c) (u8s st)) (hn : st.length = n) (hst : n ≤ 14336) :
    Calls Try.prog 42 #[ptr g, .slice A n c] w fun e w' => ∃ v rs rest, e = .returned (.tuple #[v, .int .i64 ((frsR rs).length : Int)]) ∧ (∀ r ∈ rs, r.Ok) ∧ st = frsR rs ++ rest ∧ (∀ r : Rc, r.Ok → ¬ r.frame <+: rest) ∧ EntsAt w' (fun k => w.heap.size ≤ k) v l.gen rs ∧ Below w.heap.size w w' := by
  have H0 := hide h
  have HF := hide hf
  have HV := hide hv
  have HN := hide hn
  clear h hf hv
  unfold ptr
  go_enter Try.func42, Try.ntmps42
  go_wp2
  go_loopw [6, 7] (fun u i wr => ∃ (es : List En) (rest : List UInt8), i = .int .i64 ((frsR (es.map (·.1))).length : Int) ∧ st = frsR (es.map (·.1)) ++ rest ∧ Ents wr (fun k => w.heap.size ≤ k ∧ u.ownBlock ≠ some k) l.gen es ∧ wr.ownsRow w.heap.size 137 9 u es.length (es.flatMap ecell) ∧ Below w.heap.size w wr) (fun _ i _ => st.length + 1 - (intOf i).toNat)
  case atStart => exact ⟨[], st, rfl, rfl, ⟨by simp, by simp, by simp⟩, ⟨rfl, .inl ⟨rfl, rfl⟩⟩, Below.refl _ _⟩
  case round =>
    obtain ⟨es, rest, rfl, hsplit, hes, hown, hb⟩ := hrel
    obtain ⟨at_, hat⟩ : ∃ at_, (frsR (es.map (·.1))).length = at_ := ⟨_, rfl⟩
    have hdrop : st.drop at_ = rest := by rw [hsplit, ← hat]; exact List.drop_left
    have hatl : at_ ≤ n := by rw [← hn, hsplit, List.length_append, hat]; omega
    have hrl : rest.length = n - at_ := by rw [← hdrop, List.length_drop, hn]
    rw [hat]
    obtain ⟨Au, cu, hu⟩ := own_shape hown
    subst hu
    have hhigh := fun W => run_high (P := Try.prog) slice8 size8 A n c at_ hatl W
    have hrd := Rd.high (HV.out.below hb) hatl
    rw [hdrop] at hrd
    have HRD := hide hrd
    have HRL := hide hrl
    have HES := hide hes
    have HOWN := hide hown
    have HB := hide hb
    have HSP := hide hsplit
    have HAT0 := hide hat
    have HAT := hide (show at_ ≤ 20000 by omega)
    clear hdrop hrd hes hown hb hsplit
    cases hdb : decB rest
    · have HNO := hide (decB_no hdb)
      have hdec := decode_no (v := .slice (hiA A c at_) (n - at_) (c - at_)) (l := rest) (w := wr) (by omega) (HRD.out) hdb
      go_wp2_with (go_at_call 71; ((with_reducible refine hdec.mono ?_); rintro e wD ⟨rfl, hbD⟩; have BD := hide (HB.out.trans (hbD.mono HB.out.size)); have ED := hide hbD; clear hbD))
      go_ret2
      refine ⟨_, es.map (·.1), rest, by rw [HAT0.out]; rfl, ?_, HSP.out, HNO.out, ?_, BD.out.alloc BD.out.size _⟩
      · intro r hr
        obtain ⟨e, he, rfl⟩ := List.mem_map.1 hr
        exact HES.out.ok e he
      · exact ((own_ents HOWN.out HES.out.loose).below ED.out).below ((Below.refl _ _).alloc (Nat.le_refl _) _)
    · obtain ⟨r, hrr, hro, hrp⟩ := decB_yes hdb
      have hdec := decode_in (v := .slice (hiA A c at_) (n - at_) (c - at_)) (l := rest) (w := wr) (by omega) HRD.out hrr hro hrp
      have HRO := hide hro
      have HRP := hide hrp
      have hel : es.length ≤ 2000 := by
        have h1 := frsR_ge (es.map (·.1))
        rw [List.length_map, HAT0.out] at h1
        omega
      have HEL := hide hel
      clear hrr hro hrp
      go_upto_if 20 with (go_at_call 71; ((with_reducible refine hdec.mono ?_); rintro e w1 ⟨A2, c2, rfl, hD, hbD⟩))
      have hrl2 : r.frame.length ≤ n - at_ := by have := HRP.out.length_le; rw [HRL.out] at this; exact this
      have hfp := r.frame_pos
      go_upto_region 6 with fail
      have HB1 := hide (HB.out.trans (hbD.mono HB.out.size))
      have HB2 := hide (HB1.out.alloc HB1.out.size (.cells #[.int .i64 (r.k : Int), .int .i64 (r.t : Int), .int .i64 (r.p : Int), .int .i64 (r.s : Int), .string r.b, .string r.a, .string r.i, .slice A2 r.ds.length c2] 44))
      have hbA := hbD.alloc hbD.size (.cells #[.int .i64 (r.k : Int), .int .i64 (r.t : Int), .int .i64 (r.p : Int), .int .i64 (r.s : Int), .string r.b, .string r.a, .string r.i, .slice A2 r.ds.length c2] 44)
      have HBX : Hid (Blk (w1.alloc (.cells #[.int .i64 (r.k : Int), .int .i64 (r.t : Int), .int .i64 (r.p : Int), .int .i64 (r.s : Int), .string r.b, .string r.a, .string r.i, .slice A2 r.ds.length c2] 44)) w1.heap.size 44 #[.int .i64 (r.k : Int), .int .i64 (r.t : Int), .int .i64 (r.p : Int), .int .i64 (r.s : Int), .string r.b, .string r.a, .string r.i, .slice A2 r.ds.length c2]) := hide (heap_new w1 _)
      have H2 := hide ((H0.out.below HB1.out).below ((Below.refl _ w1).alloc (Nat.le_refl _) (.cells #[.int .i64 (r.k : Int), .int .i64 (r.t : Int), .int .i64 (r.p : Int), .int .i64 (r.s : Int), .string r.b, .string r.a, .string r.i, .slice A2 r.ds.length c2] 44)))
      have HOWN0 := hide HOWN.out
      have hown2 : (w1.alloc (.cells #[.int .i64 (r.k : Int), .int .i64 (r.t : Int), .int .i64 (r.p : Int), .int .i64 (r.s : Int), .string r.b, .string r.a, .string r.i, .slice A2 r.ds.length c2] 44)).ownsRow w.heap.size 137 9 (.slice Au es.length cu) es.length (es.flatMap ecell) := World.ownsRow.kept (row := none) HOWN0.out ⟨hbA.os, hbA.tape, hbA.output, hbA.size, fun k hk _ => hbA.block k hk⟩ (by cases Au <;> simp [Value.ownBlock])
      have hunew : ∀ k, (Value.slice Au es.length cu).ownBlock = some k → k < wr.heap.size := fun k hk => (World.ownsRow.lt HOWN0.out k hk).2
      have HUN := hide hunew
      clear HOWN
      have HOWN := hide hown2
      have hD2 : RIn (w1.alloc (.cells #[.int .i64 (r.k : Int), .int .i64 (r.t : Int), .int .i64 (r.p : Int), .int .i64 (r.s : Int), .string r.b, .string r.a, .string r.i, .slice A2 r.ds.length c2] 44)) (fun k => wr.heap.size ≤ k ∧ k < w1.heap.size) (.slice A2 r.ds.length c2) (u64s r.ds) := (RIn.of_btw hD (Nat.le_refl _)).keep (fun p hp _ => World.cell?_alloc_lt w1 _ p hp) (by simp) (fun _ _ h => h)
      have HD2 := hide hD2
      have HES2 := hide (show ∀ e ∈ es, RIn (w1.alloc (.cells #[.int .i64 (r.k : Int), .int .i64 (r.t : Int), .int .i64 (r.p : Int), .int .i64 (r.s : Int), .string r.b, .string r.a, .string r.i, .slice A2 r.ds.length c2] 44)) (fun k => w.heap.size ≤ k ∧ (Value.slice Au es.length cu).ownBlock ≠ some k) e.2.1 (u64s e.1.ds) from fun e he => (HES.out.nums e he).keep (fun p hp _ => hbA.cell hp) hbA.size (fun _ _ h => h))
      have hwsz : (w1.alloc (.cells #[.int .i64 (r.k : Int), .int .i64 (r.t : Int), .int .i64 (r.p : Int), .int .i64 (r.s : Int), .string r.b, .string r.a, .string r.i, .slice A2 r.ds.length c2] 44)).heap.size = w1.heap.size + 1 := by simp
      clear hD hD2 hown2 hunew hbA HB1 hbD
      generalize w1.alloc (.cells #[.int .i64 (r.k : Int), .int .i64 (r.t : Int), .int .i64 (r.p : Int), .int .i64 (r.s : Int), .string r.b, .string r.a, .string r.i, .slice A2 r.ds.length c2] 44) = wD at *
      generalize w1.heap.size = bx at *
      refine region_last 7 30 [Say.is (.slice Au es.length cu), Say.is (.agg #[.int .i64 (r.k : Int), .int .i64 (r.t : Int), .int .i64 (r.p : Int), .int .i64 (r.s : Int), .string r.b, .string r.a, .string r.i, .slice A2 r.ds.length c2]), Say.is (.pointer (some ⟨g, 0, none⟩)), Say.is (.int .i64 (at_ : Int)), Say.is (.int .u64 ((l.gen * 1048576 + at_ + 1 : Nat) : Int)), Say.is (.agg #[.int .i64 (r.k : Int), .int .i64 (r.t : Int), .int .i64 (r.p : Int), .int .i64 (r.s : Int), .string r.b, .string r.a, .string r.i, .slice A2 r.ds.length c2, .int .u64 ((l.gen * 1048576 + at_ + 1 : Nat) : Int)]), Say.one wD.heap.size 137 #[.int .i64 (r.k : Int), .int .i64 (r.t : Int), .int .i64 (r.p : Int), .int .i64 (r.s : Int), .string r.b, .string r.a, .string r.i, .slice A2 r.ds.length c2, .int .u64 ((l.gen * 1048576 + at_ + 1 : Nat) : Int)]] (fun v w' => w'.ownsRow w.heap.size 137 9 v (es.length + 1) (es.flatMap ecell ++ ecell (r, .slice A2 r.ds.length c2, l.gen * 1048576 + at_ + 1)) ∧ Below w.heap.size w w' ∧ ∃ w2, Below wD.heap.size wD w2 ∧ w2.grownBy w' (Value.slice Au es.length cu).ownBlock ∧ (v.ownBlock = (Value.slice Au es.length cu).ownBlock ∨ v.ownBlock = some w2.heap.size)) rfl rfl rfl (by kernel_rfl) (by kernel_rfl) (by kernel_rfl) (by kernel_rfl) (by kernel_rfl) ?_ ?_ ?_ ?_
      · intro i o hik ho a w2 hb hsz old dep
        match i, ho with
        | 0, ho =>
          obtain rfl := Option.some.inj ho
          have o6 : a.tmps.getD 6 undef = _ := old 6 (by kernel_rfl)
          rw [if_pos (wanted_none rfl)]
          refine grow_same (v := .slice Au es.length cu) ?_ rfl
          clear old dep ho hsz hb
          go_simp
        | 1, ho =>
          obtain rfl := Option.some.inj ho
          have o8 : a.tmps.getD 8 undef = _ := old 8 (by kernel_rfl)
          rw [if_pos (wanted_none rfl)]
          have hbx := HBX.out.below hb
          have q0 := hbx.cell 0 _ rfl
          have q1 := hbx.cell 1 _ rfl
          have q2 := hbx.cell 2 _ rfl
          have q3 := hbx.cell 3 _ rfl
          have q4 := hbx.cell 4 _ rfl
          have q5 := hbx.cell 5 _ rfl
          have q6 := hbx.cell 6 _ rfl
          have q7 := hbx.cell 7 _ rfl
          refine grow_same (v := .agg #[.int .i64 (r.k : Int), .int .i64 (r.t : Int), .int .i64 (r.p : Int), .int .i64 (r.s : Int), .string r.b, .string r.a, .string r.i, .slice A2 r.ds.length c2]) ?_ rfl
          clear old dep ho hsz hb
          go_simp
        | 2, ho =>
          obtain rfl := Option.some.inj ho
          have o0 : a.tmps.getD 0 undef = _ := old 0 (by kernel_rfl)
          rw [if_pos (wanted_none rfl)]
          refine grow_same (v := .pointer (some ⟨g, 0, none⟩)) ?_ rfl
          clear old dep ho hsz hb
          go_simp
        | 3, ho =>
          obtain rfl := Option.some.inj ho
          have o7 : a.tmps.getD 7 undef = _ := old 7 (by kernel_rfl)
          rw [if_pos (wanted_none rfl)]
          refine grow_same (v := .int .i64 (at_ : Int)) ?_ rfl
          clear old dep ho hsz hb
          go_simp
        | 4, ho =>
          obtain rfl := Option.some.inj ho
          have d2 : a.tmps.getD 25 undef = .pointer (some ⟨g, 0, none⟩) := dep 2 _ _ (by kernel_rfl) rfl rfl
          have e2 : a.tmps[25]?.getD undef = _ := (Array.getD_eq_getD_getElem? ..).symm.trans d2
          have d3 : a.tmps.getD 26 undef = .int .i64 (at_ : Int) := dep 3 _ _ (by kernel_rfl) rfl rfl
          have e3 : a.tmps[26]?.getD undef = _ := (Array.getD_eq_getD_getElem? ..).symm.trans d3
          rw [if_pos (wanted_none rfl)]
          refine grow_enters (f := 36) (args := #[.pointer (some ⟨g, 0, none⟩), .int .i64 (at_ : Int)]) ?_ ((place_ln (H2.out.below hb) HF.out.gen at_ HAT.out).mono (by rintro e w' ⟨rfl, rfl⟩; exact ⟨_, rfl, rfl, Below.refl _ _⟩))
          clear old dep ho hsz hb
          go_simp
        | 5, ho =>
          obtain rfl := Option.some.inj ho
          have d1 : a.tmps.getD 24 undef = .agg #[.int .i64 (r.k : Int), .int .i64 (r.t : Int), .int .i64 (r.p : Int), .int .i64 (r.s : Int), .string r.b, .string r.a, .string r.i, .slice A2 r.ds.length c2] := dep 1 _ _ (by kernel_rfl) rfl rfl
          have e1 : a.tmps[24]?.getD undef = _ := (Array.getD_eq_getD_getElem? ..).symm.trans d1
          have d4 : a.tmps.getD 27 undef = .int .u64 ((l.gen * 1048576 + at_ + 1 : Nat) : Int) := dep 4 _ _ (by kernel_rfl) rfl rfl
          have e4 : a.tmps[27]?.getD undef = _ := (Array.getD_eq_getD_getElem? ..).symm.trans d4
          rw [if_pos (wanted_none rfl)]
          refine grow_same (v := .agg #[.int .i64 (r.k : Int), .int .i64 (r.t : Int), .int .i64 (r.p : Int), .int .i64 (r.s : Int), .string r.b, .string r.a, .string r.i, .slice A2 r.ds.length c2, .int .u64 ((l.gen * 1048576 + at_ + 1 : Nat) : Int)]) ?_ rfl
          clear old dep ho hsz hb
          go_simp
        | 6, ho =>
          obtain rfl := Option.some.inj ho
          have d5 : a.tmps.getD 28 undef = .agg #[.int .i64 (r.k : Int), .int .i64 (r.t : Int), .int .i64 (r.p : Int), .int .i64 (r.s : Int), .string r.b, .string r.a, .string r.i, .slice A2 r.ds.length c2, .int .u64 ((l.gen * 1048576 + at_ + 1 : Nat) : Int)] := dep 5 _ _ (by kernel_rfl) rfl rfl
          have e5 : a.tmps[28]?.getD undef = _ := (Array.getD_eq_getD_getElem? ..).symm.trans d5
          rw [if_pos (wanted_none rfl)]
          refine grow_yields (v := .slice (some ⟨w2.heap.size, 0, none⟩) 1 1) (w' := w2.alloc (.cells #[.int .i64 (r.k : Int), .int .i64 (r.t : Int), .int .i64 (r.p : Int), .int .i64 (r.s : Int), .string r.b, .string r.a, .string r.i, .slice A2 r.ds.length c2, .int .u64 ((l.gen * 1048576 + at_ + 1 : Nat) : Int)] 137)) ?_ ⟨_, rfl, hb.size, heap_new w2 _⟩ ((Below.refl _ _).alloc (Nat.le_refl _) _)
          have hrun := fun w => run_slice_one (P := Try.prog) w 48 137 #[.int .i64 (r.k : Int), .int .i64 (r.t : Int), .int .i64 (r.p : Int), .int .i64 (r.s : Int), .string r.b, .string r.a, .string r.i, .slice A2 r.ds.length c2, .int .u64 ((l.gen * 1048576 + at_ + 1 : Nat) : Int)] #[.int .i64 0, .int .i64 0, .int .i64 0, .int .i64 0, .string ⟨#[]⟩, .string ⟨#[]⟩, .string ⟨#[]⟩, .slice none 0 0, .int .u64 0] 9 112 Try.underlying48 infoEnt3 rfl (by omega) (by omega)
          clear old dep ho hsz hb
          go_simp
        | i + 7, ho => exact absurd hik (by omega)
      · intro a w2 hb hsz old dep
        have d0 : a.tmps.getD 23 undef = .slice Au es.length cu := dep 0 _ _ (by kernel_rfl) rfl rfl
        have e0 : a.tmps[23]?.getD undef = _ := (Array.getD_eq_getD_getElem? ..).symm.trans d0
        have s6 : (Say.one wD.heap.size 137 #[.int .i64 (r.k : Int), .int .i64 (r.t : Int), .int .i64 (r.p : Int), .int .i64 (r.s : Int), .string r.b, .string r.a, .string r.i, .slice A2 r.ds.length c2, .int .u64 ((l.gen * 1048576 + at_ + 1 : Nat) : Int)]).p w2 (a.tmps.getD 29 undef) := dep 6 _ _ (by kernel_rfl) rfl rfl
        obtain ⟨gs, e29, hgs, hbs⟩ := s6
        have hown2 : w2.ownsRow w.heap.size 137 9 (.slice Au es.length cu) es.length (es.flatMap ecell) := World.ownsRow.kept (row := none) HOWN.out ⟨hb.os, hb.tape, hb.output, hb.size, fun k hk _ => hb.block k hk⟩ (by cases Au <;> simp [Value.ownBlock])
        refine wp_append_rows (P := Try.prog) (.tmp 23) (.tmp 29) 48 rfl (base := w.heap.size) 137 (.agg #[.int .i64 0, .int .i64 0, .int .i64 0, .int .i64 0, .string ⟨#[]⟩, .string ⟨#[]⟩, .string ⟨#[]⟩, .slice none 0 0, .int .u64 0]) 9 112 Try.underlying48 infoEnt3 rfl (by omega) _ es.length (es.flatMap ecell) d0 hown2 gs 1 1 (ecell (r, .slice A2 r.ds.length c2, l.gen * 1048576 + at_ + 1)) e29 rfl (fun j u hu => hbs.cell j u (by rw [← Array.getElem?_toList]; exact hu)) (ecell_one _ _ _ _ _) (by have := HEL.out; unfold maxLen; omega) (by have := HEL.out; omega) (Nat.le_trans HB2.out.size hb.size) ?_
        intro v' w' h1 h2 h3
        exact ⟨v', rfl, h1, (HB2.out.trans (hb.mono HB2.out.size)).grown h2 (Nat.le_trans HB2.out.size hb.size) (fun k hk => (World.ownsRow.lt hown2 k hk).1), w2, hb, h2, h3⟩
      · intro i o hki ho
        have hin : i < 9 := (Array.getElem?_eq_some_iff.1 ho).1
        obtain rfl : i = 8 := by omega
        obtain rfl := Option.some.inj ho
        refine ⟨rfl, fun a w => ?_⟩
        rw [Array.getD_eq_getD_getElem?]
        clear hki ho hin
        go_simp
      · intro a w2 v hR hsz hdf hk fin keep
        obtain ⟨tm, df⟩ := a
        have hx := frame_of [23, 24, 25, 26, 27, 28, 29, 30, 6] (by kernel_rfl) hsz keep
        dsimp only at hdf hx hk
        simp only [List.foldl_cons, List.foldl_nil] at hx
        subst hdf
        clear hsz keep
        rw [hk] at hx
        clear hk
        generalize tm.getD 23 undef = y23 at hx
        generalize tm.getD 24 undef = y24 at hx
        generalize tm.getD 25 undef = y25 at hx
        generalize tm.getD 26 undef = y26 at hx
        generalize tm.getD 27 undef = y27 at hx
        generalize tm.getD 28 undef = y28 at hx
        generalize tm.getD 29 undef = y29 at hx
        have kn : tm.getD 6 undef = v := fin 8 _ _ (by decide) rfl rfl
        rw [kn] at hx
        clear kn
        clear fin
        simp only [List.setIfInBounds_toArray, List.set_cons_succ, List.set_cons_zero] at hx
        subst hx
        obtain ⟨hown3, hb3, w2a, hb2a, hgr, hv3⟩ := hR
        have HOWN3 := hide hown3
        have HB3 := hide hb3
        obtain ⟨Av, cv, hv9⟩ := own_shape hown3
        subst hv9
        have HFIN := hide (Ents.more HES2.out HES.out.ok HES.out.place HD2.out HRO.out HB.out.size HUN.out (by omega) HAT0.out hb2a hgr hv3)
        clear hown3 hb3 hb2a hgr hv3
        go_wp2
        go_roundw
        case rel =>
          obtain ⟨t, ht⟩ := HRP.out
          refine ⟨es ++ [(r, .slice A2 r.ds.length c2, l.gen * 1048576 + at_ + 1)], t, ?_, ?_, HFIN.out, ?_, HB3.out⟩
          · rw [List.map_append, frsR_append, List.length_append, HAT0.out]
            show Value.int .i64 _ = Value.int .i64 _
            rw [show frsR (List.map (·.1) [(r, Value.slice A2 r.ds.length c2, l.gen * 1048576 + at_ + 1)]) = r.frame from frsR_one r]
            first | rfl | go_num | (congr 1; omega)
          · rw [List.map_append, frsR_append, List.append_assoc, show frsR (List.map (·.1) [(r, Value.slice A2 r.ds.length c2, l.gen * 1048576 + at_ + 1)]) = r.frame from frsR_one r, ht]
            exact HSP.out
          · rw [List.flatMap_append, List.length_append]
            exact HOWN3.out
        case measure => simp [intOf]; omega
end
section
/- Contracts: a lane's mend; Open. -/
open Go.RowKit
set_option maxRecDepth 20000
set_option linter.unusedSimpArgs false
set_option linter.unusedVariables false

def mendP (l : Ln) (cut : Bool) : List Do := if cut then keptD l else []
def mendR (l : Ln) (cut : Bool) (gr : Rg) : Rg × Bool := if (gr.run (mendP l cut)).2 then (gr.run (mendP l cut)).1.run (cleanD l (gr.run (mendP l cut)).1.secs (l.first + l.nsec) ++ [.bar]) else gr.run (mendP l cut)
theorem mend_no {l : Ln} {cut : Bool} {gr g1 : Rg} (h : gr.run (mendP l cut) = (g1, false)) : mendR l cut gr = (g1, false) := by unfold mendR; rw [h]; rfl
theorem mend_yes {l : Ln} {cut : Bool} {gr g1 : Rg} (h : gr.run (mendP l cut) = (g1, true)) : mendR l cut gr = g1.run (cleanD l g1.secs (l.first + l.nsec) ++ [.bar]) := by unfold mendR; rw [h]; rfl
theorem sure_r (l : Ln) (n : Nat) (b : Bool) : (sel b (l.setSure n) l).r = l.r := by cases b <;> rfl

set_option maxHeartbeats 8000000 in
theorem mend_ln {w : World} {X : Nat → Prop} {dg : Nat} {d : Ds} {g : Nat} {l : Ln} {kv : Value} {gr : Rg} {k : Nat} (cut : Bool) (h : LnAt w X dg d g l kv) (hf : l.Fit) (hd : DIs d l.r gr k) (hk : k ≤ 500000) :
    Calls Try.prog 43 #[ptr g, .bool cut] w fun e w' => ∃ v, e = .returned v ∧ v = .int .i64 (cd (mendR l cut gr).2) ∧ Went w w' X dg d g (sel (mendR l cut gr).2 (l.setSure l.kept.length) l) (mendR l cut gr).1 (k + 700) := by
  have HF := hide hf
  unfold ptr
  cases cut
  · have HE := hide (mend_yes (l := l) (cut := false) (gr := gr) (g1 := gr) rfl)
    have H2 := hide h
    have N2 := hide hd.next
    have O2 := hide (Out.of_below (X := X) (Below.refl w.heap.size w))
    clear h hd hf
    obtain ⟨g2, hg2⟩ : ∃ g2, gr = g2 := ⟨_, rfl⟩
    rw [hg2] at N2
    have HE : Hid (mendR l false gr = g2.run (cleanD l g2.secs (l.first + l.nsec) ++ [.bar])) := hide (by rw [← hg2]; exact HE.out)
    clear hg2
    go_enter Try.func43, Try.ntmps43
    have hcl := clean_ln H2.out HF.out N2.out.is (by omega)
    unfold ptr at hcl
    rcases hr3 : g2.run (cleanD l g2.secs (l.first + l.nsec)) with ⟨g3, b3⟩
    rw [hr3] at hcl
    cases b3
    · have HX := hide (run_no hr3 [.bar])
      clear hr3
      go_wp2_with (go_at_call 57; ((with_reducible refine hcl.mono ?_); rintro e w3 ⟨v, rfl, rfl, d3, kv3, hnx, hln, hout⟩; (try simp only [cd, Bool.false_eq_true, if_false]); have N3 := hide (N2.out.trans hnx); have O3 := hide (O2.out.trans hout); have H3 := hide hln; clear hnx hln hout))
      go_ret
      rw [HE.out, HX.out]
      exact ⟨_, rfl, rfl, d3, kv3, N3.out.more (by omega), H3.out, O3.out⟩
    · have HX := hide (run_yes hr3 [.bar])
      clear hr3
      go_upto_region 8 with (go_at_call 57; ((with_reducible refine hcl.mono ?_); rintro e w3 ⟨v, rfl, rfl, d3, kv3, hnx, hln, hout⟩; (try simp only [cd, if_true]); have N3 := hide (N2.out.trans hnx); have O3 := hide (O2.out.trans hout); have H3 := hide hln; clear hnx hln hout))
      refine region_last 8 27 [Say.is (.pointer (some ⟨g, 0, none⟩)), Say.is (.pointer (some ⟨g, 0, none⟩)), Say.is (.pointer (some ⟨g, 0, none⟩)), Say.is (.pointer (some ⟨dg, 0, none⟩)), Say.is (.pointer (some ⟨g, 0, none⟩)), Say.is (.pointer (some ⟨g, 0, none⟩)), Say.is (.pointer (some ⟨g, 1, none⟩)), Say.is (.int .i64 (l.r : Int))] (fun v w' => v = .int .i64 (cd (g3.run [.bar]).2) ∧ Went w3 w' X dg d3 g l (g3.run [.bar]).1 (k + 300)) rfl rfl rfl (by kernel_rfl) (by kernel_rfl) (by kernel_rfl) (by kernel_rfl) (by kernel_rfl) ?_ ?_ ?_ ?_
      · intro i o hik ho a w2 hb hsz old dep
        match i, ho with
        | 0, ho =>
          obtain rfl := Option.some.inj ho
          have o0 : a.tmps.getD 0 undef = _ := old 0 (by kernel_rfl)
          rw [if_pos (wanted_none rfl)]
          refine grow_same (v := .pointer (some ⟨g, 0, none⟩)) ?_ rfl
          clear old dep ho hsz hb
          go_simp
        | 1, ho =>
          obtain rfl := Option.some.inj ho
          have d0 : a.tmps.getD 19 undef = .pointer (some ⟨g, 0, none⟩) := dep 0 _ _ (by kernel_rfl) rfl rfl
          have e0 : a.tmps[19]?.getD undef = _ := (Array.getD_eq_getD_getElem? ..).symm.trans d0
          rw [if_pos (wanted_none rfl)]
          refine grow_same (v := .pointer (some ⟨g, 0, none⟩)) ?_ rfl
          clear old dep ho hsz hb
          go_simp
        | 2, ho =>
          obtain rfl := Option.some.inj ho
          have d1 : a.tmps.getD 20 undef = .pointer (some ⟨g, 0, none⟩) := dep 1 _ _ (by kernel_rfl) rfl rfl
          have e1 : a.tmps[20]?.getD undef = _ := (Array.getD_eq_getD_getElem? ..).symm.trans d1
          rw [if_pos (wanted_none rfl)]
          refine grow_same (v := .pointer (some ⟨g, 0, none⟩)) ?_ rfl
          clear old dep ho hsz hb
          go_simp
        | 3, ho =>
          obtain rfl := Option.some.inj ho
          have d2 : a.tmps.getD 21 undef = .pointer (some ⟨g, 0, none⟩) := dep 2 _ _ (by kernel_rfl) rfl rfl
          have e2 : a.tmps[21]?.getD undef = _ := (Array.getD_eq_getD_getElem? ..).symm.trans d2
          rw [if_pos (wanted_none rfl)]
          have hcx := (H3.out.below hb).blk
          have hc0 := hcx.cell 0 (.pointer (some ⟨dg, 0, none⟩)) rfl
          have hc1 := hcx.cell 1 (.int .i64 (l.r : Int)) rfl
          have hc2 := hcx.cell 2 (.int .i64 (l.bank : Int)) rfl
          have hc3 := hcx.cell 3 (.int .u64 (l.gen : Int)) rfl
          have hc4 := hcx.cell 4 (.int .i64 (l.first : Int)) rfl
          have hc5 := hcx.cell 5 (kv3) rfl
          have hc6 := hcx.cell 6 (.int .i64 (l.sure : Int)) rfl
          have hc7 := hcx.cell 7 (.bool l.astray) rfl
          clear hcx
          refine grow_same (v := .pointer (some ⟨dg, 0, none⟩)) ?_ rfl
          clear old dep ho hsz hb
          go_simp
        | 4, ho =>
          obtain rfl := Option.some.inj ho
          have o0 : a.tmps.getD 0 undef = _ := old 0 (by kernel_rfl)
          rw [if_pos (wanted_none rfl)]
          refine grow_same (v := .pointer (some ⟨g, 0, none⟩)) ?_ rfl
          clear old dep ho hsz hb
          go_simp
        | 5, ho =>
          obtain rfl := Option.some.inj ho
          have d4 : a.tmps.getD 23 undef = .pointer (some ⟨g, 0, none⟩) := dep 4 _ _ (by kernel_rfl) rfl rfl
          have e4 : a.tmps[23]?.getD undef = _ := (Array.getD_eq_getD_getElem? ..).symm.trans d4
          rw [if_pos (wanted_none rfl)]
          refine grow_same (v := .pointer (some ⟨g, 0, none⟩)) ?_ rfl
          clear old dep ho hsz hb
          go_simp
        | 6, ho =>
          obtain rfl := Option.some.inj ho
          have d5 : a.tmps.getD 24 undef = .pointer (some ⟨g, 0, none⟩) := dep 5 _ _ (by kernel_rfl) rfl rfl
          have e5 : a.tmps[24]?.getD undef = _ := (Array.getD_eq_getD_getElem? ..).symm.trans d5
          rw [if_pos (wanted_none rfl)]
          refine grow_same (v := .pointer (some ⟨g, 1, none⟩)) ?_ rfl
          clear old dep ho hsz hb
          go_simp
        | 7, ho =>
          obtain rfl := Option.some.inj ho
          have d6 : a.tmps.getD 25 undef = .pointer (some ⟨g, 1, none⟩) := dep 6 _ _ (by kernel_rfl) rfl rfl
          have e6 : a.tmps[25]?.getD undef = _ := (Array.getD_eq_getD_getElem? ..).symm.trans d6
          rw [if_pos (wanted_none rfl)]
          have hcx := (H3.out.below hb).blk
          have hc0 := hcx.cell 0 (.pointer (some ⟨dg, 0, none⟩)) rfl
          have hc1 := hcx.cell 1 (.int .i64 (l.r : Int)) rfl
          have hc2 := hcx.cell 2 (.int .i64 (l.bank : Int)) rfl
          have hc3 := hcx.cell 3 (.int .u64 (l.gen : Int)) rfl
          have hc4 := hcx.cell 4 (.int .i64 (l.first : Int)) rfl
          have hc5 := hcx.cell 5 (kv3) rfl
          have hc6 := hcx.cell 6 (.int .i64 (l.sure : Int)) rfl
          have hc7 := hcx.cell 7 (.bool l.astray) rfl
          clear hcx
          refine grow_same (v := .int .i64 (l.r : Int)) ?_ rfl
          clear old dep ho hsz hb
          go_simp
        | i + 8, ho => exact absurd hik (by omega)
      · intro a w2 hb hsz old dep
        have d3 : a.tmps.getD 22 undef = .pointer (some ⟨dg, 0, none⟩) := dep 3 _ _ (by kernel_rfl) rfl rfl
        have e3 : a.tmps[22]?.getD undef = _ := (Array.getD_eq_getD_getElem? ..).symm.trans d3
        have d7 : a.tmps.getD 26 undef = .int .i64 (l.r : Int) := dep 7 _ _ (by kernel_rfl) rfl rfl
        have e7 : a.tmps[26]?.getD undef = _ := (Array.getD_eq_getD_getElem? ..).symm.trans d7
        refine last_enters (f := 60) (args := #[.pointer (some ⟨dg, 0, none⟩), .int .i64 (l.r : Int)]) ?_ (barred_ln (H3.out.below hb) N3.out.is hb)
        clear old dep hsz hb
        go_simp
      · intro i o hki ho
        have hin : i < 10 := (Array.getElem?_eq_some_iff.1 ho).1
        obtain rfl : i = 9 := by omega
        obtain rfl := Option.some.inj ho
        refine ⟨rfl, fun a w => ?_⟩
        rw [Array.getD_eq_getD_getElem?]
        clear hki ho hin
        go_simp
      · intro a w2 v hR hsz hdf hk fin keep
        obtain ⟨tm, df⟩ := a
        have hx := frame_of [19, 20, 21, 22, 23, 24, 25, 26, 27, 7] (by kernel_rfl) hsz keep
        dsimp only at hdf hx hk
        simp only [List.foldl_cons, List.foldl_nil] at hx
        subst hdf
        clear hsz keep
        rw [hk] at hx
        clear hk
        generalize tm.getD 19 undef = y19 at hx
        generalize tm.getD 20 undef = y20 at hx
        generalize tm.getD 21 undef = y21 at hx
        generalize tm.getD 22 undef = y22 at hx
        generalize tm.getD 23 undef = y23 at hx
        generalize tm.getD 24 undef = y24 at hx
        generalize tm.getD 25 undef = y25 at hx
        generalize tm.getD 26 undef = y26 at hx
        have kn : tm.getD 7 undef = v := fin 9 _ _ (by decide) rfl rfl
        rw [kn] at hx
        clear kn
        clear fin
        simp only [List.setIfInBounds_toArray, List.set_cons_succ, List.set_cons_zero] at hx
        subst hx
        obtain ⟨rfl, d4, kv4, hnx, hln, hout⟩ := hR
        have N4 := hide (N3.out.trans hnx)
        have O4 := hide (O3.out.trans hout)
        have H4 := hide hln
        clear hnx hout
        obtain ⟨A4, c4, rfl, _⟩ := id H4.out.kept
        obtain ⟨x0, x1, x2, x3, x4, x5, x6, x7⟩ := hln.cell
        have z6 := hln.frozen 6
        clear hln
        cases hb : (g3.run [.bar]).2
        · simp only [cd, Bool.false_eq_true, if_false]
          go_wp2
          go_ret
          rw [HE.out, HX.out, hb]
          exact ⟨_, rfl, rfl, d4, _, N4.out.more (by omega), H4.out, O4.out⟩
        · simp only [cd, if_true]
          go_wp2
          go_ret
          rw [HE.out, HX.out, hb]
          exact ⟨_, rfl, rfl, d4, _, N4.out.more (by omega), H4.out.setSure _, O4.out.trans (out_set H4.out 6 (.int .i64 (l.kept.length : Int)))⟩

  · have hkp := kept_ln h hf hd (by omega)
    unfold ptr at hkp
    rcases hr1 : gr.run (keptD l) with ⟨g2, b1⟩
    rw [hr1] at hkp
    clear h hd hf
    cases b1
    · have HE := hide (mend_no (l := l) (cut := true) (gr := gr) (g1 := g2) hr1)
      clear hr1
      go_enter Try.func43, Try.ntmps43
      go_wp2_with (go_at_call 72; ((with_reducible refine hkp.mono ?_); rintro e w2 ⟨v, rfl, rfl, d2, kv2, hnx, hln, hout⟩; (try simp only [cd, Bool.false_eq_true, if_false])))
      go_ret
      rw [HE.out]
      exact ⟨_, rfl, rfl, d2, kv2, hnx.more (by omega), hln, hout⟩
    · have HE := hide (mend_yes (l := l) (cut := true) (gr := gr) (g1 := g2) hr1)
      clear hr1
      go_enter Try.func43, Try.ntmps43
      go_upto_if 12 with (go_at_call 72; ((with_reducible refine hkp.mono ?_); rintro e w2 ⟨v, rfl, rfl, d2, kv2, hnx, hln, hout⟩; (try simp only [cd, if_true])))
      have H2 := hide hln
      have N2 := hide hnx
      have O2 := hide hout
      clear hkp hln hnx hout
      have hcl := clean_ln H2.out HF.out N2.out.is (by omega)
      unfold ptr at hcl
      rcases hr3 : g2.run (cleanD l g2.secs (l.first + l.nsec)) with ⟨g3, b3⟩
      rw [hr3] at hcl
      cases b3
      · have HX := hide (run_no hr3 [.bar])
        clear hr3
        go_wp2_with (go_at_call 57; ((with_reducible refine hcl.mono ?_); rintro e w3 ⟨v, rfl, rfl, d3, kv3, hnx, hln, hout⟩; (try simp only [cd, Bool.false_eq_true, if_false]); have N3 := hide (N2.out.trans hnx); have O3 := hide (O2.out.trans hout); have H3 := hide hln; clear hnx hln hout))
        go_ret
        rw [HE.out, HX.out]
        exact ⟨_, rfl, rfl, d3, kv3, N3.out.more (by omega), H3.out, O3.out⟩
      · have HX := hide (run_yes hr3 [.bar])
        clear hr3
        go_upto_region 8 with (go_at_call 57; ((with_reducible refine hcl.mono ?_); rintro e w3 ⟨v, rfl, rfl, d3, kv3, hnx, hln, hout⟩; (try simp only [cd, if_true]); have N3 := hide (N2.out.trans hnx); have O3 := hide (O2.out.trans hout); have H3 := hide hln; clear hnx hln hout))
        refine region_last 8 27 [Say.is (.pointer (some ⟨g, 0, none⟩)), Say.is (.pointer (some ⟨g, 0, none⟩)), Say.is (.pointer (some ⟨g, 0, none⟩)), Say.is (.pointer (some ⟨dg, 0, none⟩)), Say.is (.pointer (some ⟨g, 0, none⟩)), Say.is (.pointer (some ⟨g, 0, none⟩)), Say.is (.pointer (some ⟨g, 1, none⟩)), Say.is (.int .i64 (l.r : Int))] (fun v w' => v = .int .i64 (cd (g3.run [.bar]).2) ∧ Went w3 w' X dg d3 g l (g3.run [.bar]).1 (k + 300 + 300)) rfl rfl rfl (by kernel_rfl) (by kernel_rfl) (by kernel_rfl) (by kernel_rfl) (by kernel_rfl) ?_ ?_ ?_ ?_
        · intro i o hik ho a w2 hb hsz old dep
          match i, ho with
          | 0, ho =>
            obtain rfl := Option.some.inj ho
            have o0 : a.tmps.getD 0 undef = _ := old 0 (by kernel_rfl)
            rw [if_pos (wanted_none rfl)]
            refine grow_same (v := .pointer (some ⟨g, 0, none⟩)) ?_ rfl
            clear old dep ho hsz hb
            go_simp
          | 1, ho =>
            obtain rfl := Option.some.inj ho
            have d0 : a.tmps.getD 19 undef = .pointer (some ⟨g, 0, none⟩) := dep 0 _ _ (by kernel_rfl) rfl rfl
            have e0 : a.tmps[19]?.getD undef = _ := (Array.getD_eq_getD_getElem? ..).symm.trans d0
            rw [if_pos (wanted_none rfl)]
            refine grow_same (v := .pointer (some ⟨g, 0, none⟩)) ?_ rfl
            clear old dep ho hsz hb
            go_simp
          | 2, ho =>
            obtain rfl := Option.some.inj ho
            have d1 : a.tmps.getD 20 undef = .pointer (some ⟨g, 0, none⟩) := dep 1 _ _ (by kernel_rfl) rfl rfl
            have e1 : a.tmps[20]?.getD undef = _ := (Array.getD_eq_getD_getElem? ..).symm.trans d1
            rw [if_pos (wanted_none rfl)]
            refine grow_same (v := .pointer (some ⟨g, 0, none⟩)) ?_ rfl
            clear old dep ho hsz hb
            go_simp
          | 3, ho =>
            obtain rfl := Option.some.inj ho
            have d2 : a.tmps.getD 21 undef = .pointer (some ⟨g, 0, none⟩) := dep 2 _ _ (by kernel_rfl) rfl rfl
            have e2 : a.tmps[21]?.getD undef = _ := (Array.getD_eq_getD_getElem? ..).symm.trans d2
            rw [if_pos (wanted_none rfl)]
            have hcx := (H3.out.below hb).blk
            have hc0 := hcx.cell 0 (.pointer (some ⟨dg, 0, none⟩)) rfl
            have hc1 := hcx.cell 1 (.int .i64 (l.r : Int)) rfl
            have hc2 := hcx.cell 2 (.int .i64 (l.bank : Int)) rfl
            have hc3 := hcx.cell 3 (.int .u64 (l.gen : Int)) rfl
            have hc4 := hcx.cell 4 (.int .i64 (l.first : Int)) rfl
            have hc5 := hcx.cell 5 (kv3) rfl
            have hc6 := hcx.cell 6 (.int .i64 (l.sure : Int)) rfl
            have hc7 := hcx.cell 7 (.bool l.astray) rfl
            clear hcx
            refine grow_same (v := .pointer (some ⟨dg, 0, none⟩)) ?_ rfl
            clear old dep ho hsz hb
            go_simp
          | 4, ho =>
            obtain rfl := Option.some.inj ho
            have o0 : a.tmps.getD 0 undef = _ := old 0 (by kernel_rfl)
            rw [if_pos (wanted_none rfl)]
            refine grow_same (v := .pointer (some ⟨g, 0, none⟩)) ?_ rfl
            clear old dep ho hsz hb
            go_simp
          | 5, ho =>
            obtain rfl := Option.some.inj ho
            have d4 : a.tmps.getD 23 undef = .pointer (some ⟨g, 0, none⟩) := dep 4 _ _ (by kernel_rfl) rfl rfl
            have e4 : a.tmps[23]?.getD undef = _ := (Array.getD_eq_getD_getElem? ..).symm.trans d4
            rw [if_pos (wanted_none rfl)]
            refine grow_same (v := .pointer (some ⟨g, 0, none⟩)) ?_ rfl
            clear old dep ho hsz hb
            go_simp
          | 6, ho =>
            obtain rfl := Option.some.inj ho
            have d5 : a.tmps.getD 24 undef = .pointer (some ⟨g, 0, none⟩) := dep 5 _ _ (by kernel_rfl) rfl rfl
            have e5 : a.tmps[24]?.getD undef = _ := (Array.getD_eq_getD_getElem? ..).symm.trans d5
            rw [if_pos (wanted_none rfl)]
            refine grow_same (v := .pointer (some ⟨g, 1, none⟩)) ?_ rfl
            clear old dep ho hsz hb
            go_simp
          | 7, ho =>
            obtain rfl := Option.some.inj ho
            have d6 : a.tmps.getD 25 undef = .pointer (some ⟨g, 1, none⟩) := dep 6 _ _ (by kernel_rfl) rfl rfl
            have e6 : a.tmps[25]?.getD undef = _ := (Array.getD_eq_getD_getElem? ..).symm.trans d6
            rw [if_pos (wanted_none rfl)]
            have hcx := (H3.out.below hb).blk
            have hc0 := hcx.cell 0 (.pointer (some ⟨dg, 0, none⟩)) rfl
            have hc1 := hcx.cell 1 (.int .i64 (l.r : Int)) rfl
            have hc2 := hcx.cell 2 (.int .i64 (l.bank : Int)) rfl
            have hc3 := hcx.cell 3 (.int .u64 (l.gen : Int)) rfl
            have hc4 := hcx.cell 4 (.int .i64 (l.first : Int)) rfl
            have hc5 := hcx.cell 5 (kv3) rfl
            have hc6 := hcx.cell 6 (.int .i64 (l.sure : Int)) rfl
            have hc7 := hcx.cell 7 (.bool l.astray) rfl
            clear hcx
            refine grow_same (v := .int .i64 (l.r : Int)) ?_ rfl
            clear old dep ho hsz hb
            go_simp
          | i + 8, ho => exact absurd hik (by omega)
        · intro a w2 hb hsz old dep
          have d3 : a.tmps.getD 22 undef = .pointer (some ⟨dg, 0, none⟩) := dep 3 _ _ (by kernel_rfl) rfl rfl
          have e3 : a.tmps[22]?.getD undef = _ := (Array.getD_eq_getD_getElem? ..).symm.trans d3
          have d7 : a.tmps.getD 26 undef = .int .i64 (l.r : Int) := dep 7 _ _ (by kernel_rfl) rfl rfl
          have e7 : a.tmps[26]?.getD undef = _ := (Array.getD_eq_getD_getElem? ..).symm.trans d7
          refine last_enters (f := 60) (args := #[.pointer (some ⟨dg, 0, none⟩), .int .i64 (l.r : Int)]) ?_ (barred_ln (H3.out.below hb) N3.out.is hb)
          clear old dep hsz hb
          go_simp
        · intro i o hki ho
          have hin : i < 10 := (Array.getElem?_eq_some_iff.1 ho).1
          obtain rfl : i = 9 := by omega
          obtain rfl := Option.some.inj ho
          refine ⟨rfl, fun a w => ?_⟩
          rw [Array.getD_eq_getD_getElem?]
          clear hki ho hin
          go_simp
        · intro a w2 v hR hsz hdf hk fin keep
          obtain ⟨tm, df⟩ := a
          have hx := frame_of [19, 20, 21, 22, 23, 24, 25, 26, 27, 7] (by kernel_rfl) hsz keep
          dsimp only at hdf hx hk
          simp only [List.foldl_cons, List.foldl_nil] at hx
          subst hdf
          clear hsz keep
          rw [hk] at hx
          clear hk
          generalize tm.getD 19 undef = y19 at hx
          generalize tm.getD 20 undef = y20 at hx
          generalize tm.getD 21 undef = y21 at hx
          generalize tm.getD 22 undef = y22 at hx
          generalize tm.getD 23 undef = y23 at hx
          generalize tm.getD 24 undef = y24 at hx
          generalize tm.getD 25 undef = y25 at hx
          generalize tm.getD 26 undef = y26 at hx
          have kn : tm.getD 7 undef = v := fin 9 _ _ (by decide) rfl rfl
          rw [kn] at hx
          clear kn
          clear fin
          simp only [List.setIfInBounds_toArray, List.set_cons_succ, List.set_cons_zero] at hx
          subst hx
          obtain ⟨rfl, d4, kv4, hnx, hln, hout⟩ := hR
          have N4 := hide (N3.out.trans hnx)
          have O4 := hide (O3.out.trans hout)
          have H4 := hide hln
          clear hnx hout
          obtain ⟨A4, c4, rfl, _⟩ := id H4.out.kept
          obtain ⟨x0, x1, x2, x3, x4, x5, x6, x7⟩ := hln.cell
          have z6 := hln.frozen 6
          clear hln
          cases hb : (g3.run [.bar]).2
          · simp only [cd, Bool.false_eq_true, if_false]
            go_wp2
            go_ret
            rw [HE.out, HX.out, hb]
            exact ⟨_, rfl, rfl, d4, _, N4.out.more (by omega), H4.out, O4.out⟩
          · simp only [cd, if_true]
            go_wp2
            go_ret
            rw [HE.out, HX.out, hb]
            exact ⟨_, rfl, rfl, d4, _, N4.out.more (by omega), H4.out.setSure _, O4.out.trans (out_set H4.out 6 (.int .i64 (l.kept.length : Int)))⟩
end
section
/- Contract: Open. -/
open Go.RowKit
set_option maxRecDepth 20000
set_option linter.unusedSimpArgs false
set_option linter.unusedVariables false

/-- The lane that is found, of a stream of which the first e bytes are records. -/
def openL (r : Nat) (b : Sec) (st : List UInt8) (e : Nat) : Ln := ⟨r, sN b, gn b, e / 56, (st.drop (e / 56 * 56)).take (e - e / 56 * 56), 0, false⟩
def openB (r : Nat) (b : Sec) (st : List UInt8) (e : Nat) (gr : Rg) : Rg × Bool := mendR (openL r b st e) (decide (e < st.length)) gr
theorem openL_len (r : Nat) (b : Sec) (st : List UInt8) (e : Nat) (h : e ≤ st.length) : (openL r b st e).kept.length = e - e / 56 * 56 := by
  show ((st.drop (e / 56 * 56)).take (e - e / 56 * 56)).length = _
  rw [List.length_take, List.length_drop]
  omega
theorem openL_fit {r : Nat} {b : Sec} {st : List UInt8} {e : Nat} (hr : r < 64) (h1 : sN b ≤ 1) (h2 : gn b ≤ 1000000) (he : e ≤ st.length) (hs : st.length ≤ 14336) : (openL r b st e).Fit := by
  refine ⟨hr, h1, h2, ?_⟩
  unfold Ln.len
  rw [openL_len r b st e he]
  show e / 56 * 56 + _ ≤ _
  omega
/-- What Open leaves where all goes well. -/
def OpenYes (w : World) (X : Nat → Prop) (dg : Nat) (d : Ds) (r : Nat) (b : Sec) (st : List UInt8) (rs : List Rc) (gr : Rg) (k : Nat) (e : Ending) (w' : World) : Prop :=
  ∃ (g : Nat) (d' : Ds) (kv' v : Value) (E : Nat → Prop), e = .returned (.tuple #[ptr g, v, .int .i64 0]) ∧ (∀ k, E k → w.heap.size ≤ k) ∧ Next d r (openB r b st (frsR rs).length gr).1 k d' ∧
    LnAt w' (fun k => X k ∨ E k) dg d' g ((openL r b st (frsR rs).length).setSure ((frsR rs).length - (frsR rs).length / 56 * 56)) kv' ∧ EntsAt w' E v (gn b) rs ∧ Out X w w'
/-- And where the region has gone down. -/
def OpenNo (w : World) (X : Nat → Prop) (dg : Nat) (d : Ds) (r : Nat) (b : Sec) (st : List UInt8) (rs : List Rc) (gr : Rg) (k : Nat) (e : Ending) (w' : World) : Prop :=
  ∃ (d' : Ds), e = .returned (.tuple #[.pointer none, .slice none 0 0, .int .i64 10]) ∧ Next d r (openB r b st (frsR rs).length gr).1 k d' ∧ Many w' X [(dg, d')] ∧ Out X w w'
def OpenOut (ok : Bool) (p q : Prop) : Prop := cond ok p q
def OpenPost (w : World) (X : Nat → Prop) (dg : Nat) (d : Ds) (r : Nat) (b : Sec) (gr : Rg) (k : Nat) (e : Ending) (w' : World) : Prop := ∃ rs rest, (∀ r ∈ rs, r.Ok) ∧ strm (gn b) (bankOf gr.secs (sN b)) = frsR rs ++ rest ∧ (∀ r : Rc, r.Ok → ¬ r.frame <+: rest) ∧
      OpenOut (openB r b (strm (gn b) (bankOf gr.secs (sN b))) (frsR rs).length gr).2 (OpenYes w X dg d r b (strm (gn b) (bankOf gr.secs (sN b))) rs gr (k + 700) e w') (OpenNo w X dg d r b (strm (gn b) (bankOf gr.secs (sN b))) rs gr (k + 700) e w')
/-- What is kept is laid in a lane without any. -/
theorem LnAt.laid {w1 w3 : World} {X E : Nat → Prop} {dg : Nat} {d : Ds} {g : Nat} {l : Ln} {v' : Value} {b : List UInt8} {f m : Nat} (h : LnAt w1 X dg d g l (.slice none 0 0)) (hb : Below w1.heap.size w1 w3) (hkp : Kp w3 v' b)
    (hnew : ∀ k, blkOf v' = some k → w1.heap.size ≤ k ∧ k < m) (hm : m ≤ w3.heap.size) (hE : ∀ k, E k → m ≤ k ∧ w1.heap.size ≤ k ∧ k < w3.heap.size) :
    LnAt ((w3.setCell ⟨g, 4, none⟩ (.int .i64 (f : Int))).setCell ⟨g, 5, none⟩ v') (fun k => X k ∨ E k) dg d g ((l.setFirst f).setKept b) v' ∧ Out X w1 ((w3.setCell ⟨g, 4, none⟩ (.int .i64 (f : Int))).setCell ⟨g, 5, none⟩ v') ∧ Out E w3 ((w3.setCell ⟨g, 4, none⟩ (.int .i64 (f : Int))).setCell ⟨g, 5, none⟩ v') := by
  have hglt := h.lt
  have hm3 : Many w3 (LX (fun k => X k ∨ E k) g v') [(dg, d)] := h.many.more hb (fun k hk => by
    rcases hk with (h1 | h1) | h1 | h1
    · exact .inl (.inl h1)
    · exact .inr (hE k h1).2
    · exact .inl (.inr (.inl h1))
    · have := hnew k h1; exact .inr ⟨this.1, by omega⟩)
  have hne : ∀ k, blkOf v' = some k → ¬ (X k ∨ E k) ∧ k ≠ g := by
    intro k hk
    have h1 := hnew k hk
    refine ⟨fun hx => ?_, by omega⟩
    rcases hx with hx | hx
    · have := h.many.1 k (.inl hx : LX X g _ k); omega
    · have := hE k hx; omega
  have hxg : ¬ (X g ∨ E g) := by
    rintro (hx | hx)
    · exact h.xg hx
    · have := hE g hx; omega
  have hk2 : Kept (fun k => k = g) w3 ((w3.setCell ⟨g, 4, none⟩ (.int .i64 (f : Int))).setCell ⟨g, 5, none⟩ v') := (kept_set w3 g 4 _).trans_same (kept_set _ g 5 v')
  refine ⟨⟨hm3.foreign hk2 (fun k e => .inl (.inr (.inl e))), hxg, hne, ((h.blk.below hb).set_ 4 _).set_ 5 _, hkp.out (X := fun k => k ≠ g) (hk2.mono (fun i hi => .inl (fun hn => hn hi))) (fun k e => (hne k e).2)⟩, ?_, ?_⟩
  · exact Out.trans (X := X) (Out.of_below hb) (hk2.mono (fun k e => .inl (by rw [e]; exact h.xg)))
  · exact hk2.mono (fun k e => .inl (by rw [e]; exact fun hx => hxg (.inr hx)))
set_option maxHeartbeats 8000000 in
theorem open_ln {w : World} {X : Nat → Prop} {dg : Nat} {d : Ds} {r : Nat} {gr : Rg} {k : Nat} {b : Sec} (h : Many w X [(dg, d)]) (hr : r < 64) (hd : DIs d r gr k) (hk : k ≤ 400000) (hb1 : gr.secs[1]? = some b) (hg : gn b ≠ 0) (hgl : gn b ≤ 1000000) (hs : sN b ≤ 1) :
    Calls Try.prog 17 #[ptr dg, .int .i64 (r : Int)] w fun e w' => OpenPost w X dg d r b gr k e w' := by
  have HM := hide h
  have HD := hide hd
  have hsz := hd.size
  obtain ⟨b', hb2, hb3, hb64⟩ := hd.rd (s := 1) (by omega)
  obtain rfl : b = b' := by rw [hb1] at hb3; exact Option.some.inj hb3
  have hstl : (strm (gn b) (bankOf gr.secs (sN b))).length ≤ 14336 := by
    have h1 := strm_le (gn b) (bankOf gr.secs (sN b))
    rw [bankOf_length gr.secs (sN b) hs (by rw [hd.fit.secs_length]; exact hsz)] at h1
    omega
  have HL := hide (show (⟨r, sN b, gn b, 0, [], 0, false⟩ : Ln).Fit from ⟨hr, hs, hgl, Nat.zero_le _⟩)
  have hfind : Calls Try.prog 40 #[ptr dg, .int .i64 (r : Int)] w fun e w' => ∃ g, e = .returned (.tuple #[ptr g, .int .i64 0]) ∧ LnAt w' X dg d g ⟨r, sN b, gn b, 0, [], 0, false⟩ (.slice none 0 0) ∧ w.heap.size ≤ g ∧ Below w.heap.size w w' :=
    (find_ln h hd hb2 hb64).mono (fun e w' hp => hp.2 hg hs)
  have HR := hide hr
  have HG := hide hgl
  have HS := hide hs
  generalize hst : strm (gn b) (bankOf gr.secs (sN b)) = st at *
  have HST := hide hst
  clear h hd hb1 hb2 hb3 hst hr hgl hs
  unfold ptr at hfind ⊢
  go_enter Try.func17, Try.ntmps17
  go_upto_region 8 with (first
    | (go_at_call 40; ((with_reducible refine hfind.mono ?_); rintro e w1 ⟨g, rfl, hl1, hg1, hbl1⟩; have H1 := hide hl1; have B1 := hide hbl1; have hstm := stream_ln hl1 HL.out HD.out; dsimp only at hstm; rw [HST.out] at hstm; unfold ptr at hstm; clear hl1 hbl1))
    | (go_at_call 41; ((with_reducible refine hstm.mono ?_); rintro e w2 ⟨A, n, c, rfl, hn, hm2, hbl2⟩; have HN := hide hn; have M2 := hide hm2; have B2 := hide hbl2; have hent := entries_ln (H1.out.below hbl2) HL.out hm2.rd hn.symm (by rw [hn]; exact hstl); unfold ptr at hent; clear hn hm2 hbl2))
    | (go_at_call 42; ((with_reducible refine hent.mono ?_); rintro e w3 ⟨v, rs, rest, rfl, hok, hsp, hno, hes, hbl3⟩; have HOK := hide hok; have HSP := hide hsp; have HNO := hide hno; have HES := hide hes; have B3 := hide hbl3; clear hok hsp hno hes hbl3)))
  obtain ⟨e, he⟩ : ∃ e, (frsR rs).length = e := ⟨_, rfl⟩
  have HE := hide he
  rw [he]
  have hel : e ≤ st.length := by rw [HSP.out, List.length_append, he]; omega
  have hnl : n = st.length := HN.out
  clear HN
  subst hnl
  obtain ⟨f, hf⟩ : ∃ f, e / 56 = f := ⟨_, rfl⟩
  have HFQ := hide hf
  have hfe : f * 56 ≤ e := by omega
  have hq : (e : Int).tdiv 56 = (f : Int) := by rw [Int.tdiv_eq_ediv_of_nonneg (by omega)]; omega
  have hf300 : (f : Int) ≤ 300 := by omega
  have hcap := rd_cap M2.out.rd
  have hcut : ∀ W, (Instr.slice 58 (.slice A st.length c) (some (.int .i64 ((f : Int) * 56))) (some (.int .i64 (e : Int))) (some (.int .i64 (e : Int)))).run Try.prog W = .ok (.slice (hiA A e (f * 56)) (e - f * 56) (e - f * 56)) W := fun W => by
    have := run_cut A st.length c (f * 56) e e hfe (Nat.le_refl _) (by omega) W
    rwa [Int.natCast_mul] at this
  have hm2 := M2.out
  have hkp3 : Kp w3 (.slice (hiA A e (f * 56)) (e - f * 56) (e - f * 56)) ((st.drop (f * 56)).take (e - f * 56)) := by
    have hr3 := (Rd.cut hm2.rd hfe (Nat.le_refl e) (by omega) (by omega)).below B3.out
    have hl : ((st.drop (f * 56)).take (e - f * 56)).length = e - f * 56 := by rw [List.length_take, List.length_drop]; omega
    exact ⟨_, _, by rw [hl], by rw [← hl] at hr3 ⊢; exact hr3, .inl hl.symm⟩
  have hnew3 : ∀ k, blkOf (.slice (hiA A e (f * 56)) (e - f * 56) (e - f * 56)) = some k → w1.heap.size ≤ k ∧ k < w2.heap.size := fun k hk => by
    rw [blkOf_hiA A _ _ _ _ st.length c, ← own_blk] at hk
    exact World.ownsRow.lt hm2 k hk
  have hlaid := LnAt.laid (E := fun k => w2.heap.size ≤ k ∧ k < w3.heap.size) (f := f) H1.out (B2.out.trans (B3.out.mono B2.out.size)) hkp3 hnew3 B3.out.size (fun k hk => ⟨hk.1, Nat.le_trans B2.out.size hk.1, hk.2⟩)
  have L3 := hide hlaid.1
  have O3 := hide ((Out.of_below (X := X) B1.out).trans hlaid.2.1)
  have E3 := hide ((HES.out.sub (Y := fun k => w2.heap.size ≤ k ∧ k < w3.heap.size) (fun k hk hx => ⟨hx, hk⟩)).out hlaid.2.2)
  have HX := hide (show ∀ k, (w2.heap.size ≤ k ∧ k < w3.heap.size) → w.heap.size ≤ k from fun k hk => by have := B1.out.size; have := B2.out.size; omega)
  have hoL : openL r b st e = (Ln.setFirst ⟨r, sN b, gn b, 0, [], 0, false⟩ f).setKept ((st.drop (f * 56)).take (e - f * 56)) := by unfold openL; rw [hf]; rfl
  have hfit : (openL r b st e).Fit := openL_fit HR.out HS.out HG.out hel hstl
  rw [hoL] at hfit
  have HFIT := hide hfit
  have hkl : ((st.drop (f * 56)).take (e - f * 56)).length = e - f * 56 := by rw [List.length_take, List.length_drop]; omega
  have HKL := hide hkl
  have HOL := hide hoL
  obtain ⟨x0, x1, x2, x3, x4, x5, x6, x7⟩ := ((H1.out.below B2.out).below B3.out).cell
  have z4 := ((H1.out.below B2.out).below B3.out).frozen 4
  have z5 := ((H1.out.below B2.out).below B3.out).frozen 5
  have hmend := fun cut => mend_ln (l := (Ln.setFirst ⟨r, sN b, gn b, 0, [], 0, false⟩ f).setKept ((st.drop (f * 56)).take (e - f * 56))) cut L3.out HFIT.out HD.out (by omega)
  unfold ptr at hmend
  have hOB : ∀ cut, cut = decide (e < st.length) → mendR ((Ln.setFirst ⟨r, sN b, gn b, 0, [], 0, false⟩ f).setKept ((st.drop (f * 56)).take (e - f * 56))) cut gr = openB r b st e gr := fun cut hc => by unfold openB; rw [hc, hoL]
  obtain ⟨cut, hcut2⟩ : ∃ cut, cut = decide (e < st.length) := ⟨_, rfl⟩
  have hmend := hmend cut
  rw [hOB cut hcut2] at hmend
  have hct : decide ((e : Int) < (st.length : Int)) = cut := by rw [hcut2]; simp
  have hct2 : decide (e < st.length) = cut := hcut2.symm
  have HCT := hide hct
  clear hOB hlaid hkp3 hnew3 hfit hkl hoL hfind hstm hent hm2 hcap he hcut2
  rcases hob : openB r b st e gr with ⟨g5, b5⟩
  rw [hob] at hmend
  have HOB := hide hob
  clear hob
  cases b5
  · go_wp2_with (go_at_call 43; ((with_reducible refine hmend.mono ?_); rintro e6 w6 ⟨v6, rfl, rfl, d6, kv6, hnx, hln, hout⟩; (try simp only [cd, Bool.false_eq_true, if_false]); have N6 := hide hnx; have L6 := hide hln; have O6 := hide hout; clear hnx hln hout))
    go_ret3
    refine ⟨rs, rest, HOK.out, by rw [HST.out]; exact HSP.out, HNO.out, ?_⟩
    rw [HST.out, HE.out, HOB.out]
    refine ⟨d6, rfl, by rw [HE.out, HOB.out]; exact N6.out.more (by omega), (L6.out.many.more (Below.refl _ _) (fun k hk => .inl (.inl (.inl hk)))), O3.out.trans (O6.out.less (fun k hk => .inl hk))⟩
  · go_wp2_with (go_at_call 43; ((with_reducible refine hmend.mono ?_); rintro e6 w6 ⟨v6, rfl, rfl, d6, kv6, hnx, hln, hout⟩; (try simp only [cd, if_true]); have N6 := hide hnx; have L6 := hide hln; have O6 := hide hout; clear hnx hln hout))
    go_ret3
    refine ⟨rs, rest, HOK.out, by rw [HST.out]; exact HSP.out, HNO.out, ?_⟩
    rw [HST.out, HE.out, HOB.out]
    refine ⟨g, d6, kv6, v, fun k => w2.heap.size ≤ k ∧ k < w3.heap.size, rfl, HX.out, by rw [HE.out, HOB.out]; exact N6.out.more (by omega), ?_, E3.out.out (O6.out.less (fun k hk => .inr hk)), O3.out.trans (O6.out.less (fun k hk => .inl hk))⟩
    rw [HE.out, HFQ.out, HOL.out]
    have hx : LnAt w6 (fun k => X k ∨ w2.heap.size ≤ k ∧ k < w3.heap.size) dg d6 g (((Ln.setFirst ⟨r, sN b, gn b, 0, [], 0, false⟩ f).setKept ((st.drop (f * 56)).take (e - f * 56))).setSure ((st.drop (f * 56)).take (e - f * 56)).length) kv6 := L6.out
    rw [HKL.out] at hx
    exact hx
end
section
/- What a lane is through its calls and through crashes (plain data; nothing of the program). -/
open Go.RowKit
set_option maxRecDepth 20000
set_option linter.unusedSimpArgs false
set_option linter.unusedVariables false

/-! ### Writes alone. -/
def wsOf : List Do → List (Nat × Sec)
  | [] => []
  | .w s b :: os => (s, b) :: wsOf os
  | .bar :: os => wsOf os
def allW (os : List Do) : Prop := ∀ o ∈ os, o ≠ .bar
theorem wsOf_append (a b : List Do) : wsOf (a ++ b) = wsOf a ++ wsOf b := by
  induction a with
  | nil => rfl
  | cons o a ih => cases o <;> simp [wsOf, ih]
theorem wsOf_mem {os : List Do} {x : Nat × Sec} (h : x ∈ wsOf os) : Do.w x.1 x.2 ∈ os := by
  induction os with
  | nil => cases h
  | cons o os ih =>
    cases o with
    | w s b =>
      rcases List.mem_cons.1 h with rfl | h
      · exact List.mem_cons_self ..
      · exact List.mem_cons_of_mem _ (ih h)
    | bar => exact List.mem_cons_of_mem _ (ih h)
theorem wsOf_of {os : List Do} {s : Nat} {b : Sec} (h : Do.w s b ∈ os) : (s, b) ∈ wsOf os := by
  induction os with
  | nil => cases h
  | cons o os ih =>
    rcases List.mem_cons.1 h with h1 | h1
    · subst h1; exact List.mem_cons_self ..
    · cases o with
      | w s' b' => exact List.mem_cons_of_mem _ (ih h1)
      | bar => exact ih h1
theorem run_writes : ∀ (os : List Do) (g : Rg), allW os → (g.run os).1.base = g.base ∧ (∃ k, (g.run os).1.ws = g.ws ++ (wsOf os).take k) ∧ ((g.run os).2 = true → (g.run os).1.ws = g.ws ++ wsOf os)
  | [], g, _ => ⟨rfl, ⟨0, by simp [run_nil]⟩, fun _ => by simp [run_nil, wsOf]⟩
  | o :: os, g, h => by
    cases o with
    | bar => exact absurd rfl (h _ (List.mem_cons_self ..))
    | w s b =>
      rw [run_cons]
      split
      · exact ⟨rfl, ⟨0, by simp⟩, fun h => by cases h⟩
      · obtain ⟨h1, ⟨k, h2⟩, h3⟩ := run_writes os (g.go1 (.w s b)) (fun o ho => h o (List.mem_cons_of_mem _ ho))
        refine ⟨h1, ⟨k + 1, ?_⟩, fun hk => ?_⟩
        · rw [h2]
          show g.ws ++ [(s, b)] ++ _ = g.ws ++ ((s, b) :: _).take (k + 1)
          rw [List.take_succ_cons, List.append_assoc]
          rfl
        · rw [h3 hk]
          show g.ws ++ [(s, b)] ++ _ = g.ws ++ ((s, b) :: _)
          rw [List.append_assoc]
          rfl
theorem put_get (ws : List (Nat × Sec)) : ∀ (l : List Sec) (i : Nat), (put l ws)[i]? = l[i]? ∨ ∃ b, (i, b) ∈ ws ∧ (put l ws)[i]? = some b := by
  induction ws with
  | nil => intro l i; exact .inl rfl
  | cons x ws ih =>
    intro l i
    rw [put_cons]
    rcases ih (l.set x.1 x.2) i with h | ⟨b, h1, h2⟩
    · rw [List.getElem?_set] at h
      by_cases e : x.1 = i
      · rw [if_pos e] at h
        split at h
        · exact .inr ⟨x.2, by rw [← e]; exact List.mem_cons_self .., h⟩
        · left
          rw [h]
          rename_i hlt
          rw [List.getElem?_eq_none (by omega)]
      · rw [if_neg e] at h
        exact .inl h
    · exact .inr ⟨b, List.mem_cons_of_mem _ h1, h2⟩
theorem put_none {ws : List (Nat × Sec)} {l : List Sec} {i : Nat} (h : ∀ b, (i, b) ∉ ws) : (put l ws)[i]? = l[i]? := by
  rcases put_get ws l i with h1 | ⟨b, h1, _⟩
  · exact h1
  · exact absurd h1 (h b)
theorem put_some {ws : List (Nat × Sec)} {i : Nat} {b : Sec} (h : (i, b) ∈ ws) (hu : ∀ b', (i, b') ∈ ws → b' = b) : ∀ {l : List Sec}, i < l.length → (put l ws)[i]? = some b := by
  induction ws with
  | nil => cases h
  | cons x ws ih =>
    intro l hi
    rw [put_cons]
    by_cases hm : (i, b) ∈ ws
    · exact ih hm (fun b' hb' => hu b' (List.mem_cons_of_mem _ hb')) (by rw [List.length_set]; exact hi)
    · rcases List.mem_cons.1 h with h1 | h1
      · subst h1
        rw [put_none (fun b' hb' => hm (by rw [← hu b' (List.mem_cons_of_mem _ hb')]; exact hb')), List.getElem?_set_self hi]
      · exact absurd h1 hm
theorem crash_get {g : Rg} (m : Nat → Bool) (i : Nat) : (g.crash m).base[i]? = g.base[i]? ∨ ∃ b, (i, b) ∈ g.ws ∧ (g.crash m).base[i]? = some b := by
  rcases put_get (kept m g.ws) g.base i with h | ⟨b, h1, h2⟩
  · exact .inl h
  · exact .inr ⟨b, kept_mem m _ _ h1, h2⟩
theorem crash_len (g : Rg) (m : Nat → Bool) : (g.crash m).base.length = g.base.length := put_length _ _

/-! ### What stands on the disk. -/
/-- A lane's head, its bank: that of the generation, with the bytes of F' or of F. -/
structure Cr (g : Rg) (n r bank gen : Nat) (F F' : List UInt8) : Prop where
  fit : g.Fit n
  size : 514 ≤ n
  quiet : g.ws = []
  bnk : bank ≤ 1
  gen1 : 1 ≤ gen ∧ gen ≤ 1000000
  head : g.base[1]? = some (pad (headRaw ⟨r, bank, gen, 0, [], 0, false⟩))
  mix : Mixed gen (bankOf g.base bank) F F'
  pre : F <+: F'
  len : F'.length ≤ 14336
/-- A lane, all of whose records are 'all', the first s of them sure. -/
structure Lv (g : Rg) (n : Nat) (l : Ln) (all : List Rc) (s : Nat) : Prop where
  fit : g.Fit n
  size : 514 ≤ n
  quiet : g.ws = []
  lf : l.Fit
  gen1 : 1 ≤ l.gen
  ast : l.astray = false
  head : g.base[1]? = some (pad (headRaw l))
  ok : ∀ r ∈ all, r.Ok
  bytes : (frsR all).drop (l.first * 56) = l.kept ∧ l.first * 56 ≤ (frsR all).length
  sle : s ≤ all.length
  sure : (frsR (all.take s)).length = l.first * 56 + l.sure ∧ l.sure < 56
  holds : Holds l.gen (bankOf g.base l.bank) (frsR (all.take s))
theorem Lv.len {g : Rg} {n : Nat} {l : Ln} {all : List Rc} {s : Nat} (h : Lv g n l all s) : l.len = (frsR all).length := by
  unfold Ln.len
  rw [← h.bytes.1, List.length_drop]
  have := h.bytes.2
  omega
theorem Lv.keptlen {g : Rg} {n : Nat} {l : Ln} {all : List Rc} {s : Nat} (h : Lv g n l all s) : l.kept.length = (frsR all).length - l.first * 56 := by
  rw [← h.bytes.1, List.length_drop]
theorem Lv.cr {g : Rg} {n : Nat} {l : Ln} {all : List Rc} {s : Nat} (h : Lv g n l all s) (m : Nat → Bool) : Cr (g.crash m) n l.r l.bank l.gen (frsR (all.take s)) (frsR all) ∧ (g.crash m).armed = false := by
  have hb : (g.crash m).base = g.base := by unfold Rg.crash; rw [h.quiet]; rfl
  refine ⟨⟨h.fit.crash m, h.size, rfl, h.lf.bank, ⟨h.gen1, h.lf.gen⟩, by rw [hb]; exact h.head, by rw [hb]; exact h.holds.mixed, frsR_take all s, ?_⟩, rfl⟩
  have := h.lf.len
  rwa [h.len] at this
/-- One more record. -/
theorem Lv.append {g : Rg} {n : Nat} {l : Ln} {all : List Rc} {s : Nat} (h : Lv g n l all s) {r : Rc} (hr : r.Ok) (hl : (frsR all).length + r.frame.length ≤ 14336) : Lv g n (l.setKept (l.kept ++ r.frame)) (all ++ [r]) s := by
  have hle := h.bytes.2
  refine ⟨h.fit, h.size, h.quiet, ⟨h.lf.r, h.lf.bank, h.lf.gen, ?_⟩, h.gen1, h.ast, h.head, fun q hq => ?_, ⟨?_, ?_⟩, ?_, ?_, ?_⟩
  · show l.first * 56 + (l.kept ++ r.frame).length ≤ 14336
    rw [List.length_append, h.keptlen]
    omega
  · rcases List.mem_append.1 hq with h1 | h1
    · exact h.ok q h1
    · rw [List.mem_singleton] at h1; subst h1; exact hr
  · show (frsR (all ++ [r])).drop (l.first * 56) = l.kept ++ r.frame
    rw [frsR_append, frsR_one, List.drop_append_of_le_length hle, h.bytes.1]
  · show l.first * 56 ≤ _
    rw [frsR_append, List.length_append]
    omega
  · rw [List.length_append]
    have := h.sle
    omega
  · rw [List.take_append_of_le_length h.sle]
    exact h.sure
  · rw [List.take_append_of_le_length h.sle]
    exact h.holds
theorem chunk_kept {g : Rg} {n : Nat} {l : Ln} {all : List Rc} {s : Nat} (h : Lv g n l all s) (i : Nat) : chunk l.kept i = chunk (frsR all) (l.first + i) := by
  rw [← h.bytes.1, Nat.mul_comm]
  exact chunk_drop _ _ _
theorem keptD_mem {l : Ln} {x : Nat × Sec} (h : x ∈ wsOf (keptD l)) : ∃ i, i < l.nsec ∧ x = (l.sec (l.first + i), secOf l.gen (chunk l.kept i)) := by
  have := wsOf_mem h
  unfold keptD at this
  rw [List.mem_map] at this
  obtain ⟨i, hi, e⟩ := this
  injection e with e1 e2
  exact ⟨i, List.mem_range.1 hi, by rw [e1, e2]⟩
theorem keptD_of {l : Ln} {i : Nat} (h : i < l.nsec) : (l.sec (l.first + i), secOf l.gen (chunk l.kept i)) ∈ wsOf (keptD l) :=
  wsOf_of (List.mem_map.2 ⟨i, List.mem_range.2 h, rfl⟩)
theorem keptD_all (l : Ln) : allW (keptD l) := by
  intro o ho
  unfold keptD at ho
  rw [List.mem_map] at ho
  obtain ⟨i, _, rfl⟩ := ho
  intro e
  cases e
theorem cleanD_all (l : Ln) (S : List Sec) (n : Nat) : allW (cleanD l S n) := by
  intro o ho
  unfold cleanD at ho
  rw [List.mem_map] at ho
  obtain ⟨i, _, rfl⟩ := ho
  intro e
  cases e
theorem cleanD_mem {l : Ln} {S : List Sec} {n : Nat} {x : Nat × Sec} (h : x ∈ wsOf (cleanD l S n)) : ∃ i, n ≤ i ∧ i < 256 ∧ gn (S.getD (l.sec i) zsec) = l.gen ∧ x = (l.sec i, zsec) := by
  have := wsOf_mem h
  unfold cleanD at this
  rw [List.mem_map] at this
  obtain ⟨i, hi, e⟩ := this
  obtain ⟨h1, h2⟩ := List.mem_filter.1 hi
  have := List.mem_range'_1.1 h1
  injection e with e1 e2
  exact ⟨i, by omega, by omega, of_decide_eq_true h2, by rw [e1, e2]⟩
theorem cleanD_of {l : Ln} {S : List Sec} {n i : Nat} (h1 : n ≤ i) (h2 : i < 256) (h3 : gn (S.getD (l.sec i) zsec) = l.gen) : (l.sec i, zsec) ∈ wsOf (cleanD l S n) :=
  wsOf_of (List.mem_map.2 ⟨i, List.mem_filter.2 ⟨List.mem_range'_1.2 (by omega), decide_eq_true h3⟩, rfl⟩)
theorem sec_inj (l : Ln) {i j : Nat} (h : l.sec i = l.sec j) : i = j := by unfold Ln.sec at h; omega
theorem sec_ne1 (l : Ln) (i : Nat) : l.sec i ≠ 1 := by unfold Ln.sec; omega
theorem sec_bank {l l' : Ln} {i j : Nat} (hi : i < 256) (hj : j < 256) (hb : l.bank ≠ l'.bank) : l.sec i ≠ l'.sec j := by unfold Ln.sec; omega
/-- A run to its barrier. -/
theorem run_bar {g : Rg} {os : List Do} (h : allW os) (hq : g.ws = []) : ((g.run (os ++ [.bar])).2 = true → (g.run (os ++ [.bar])).1.base = put g.base (wsOf os) ∧ (g.run (os ++ [.bar])).1.ws = []) ∧
    ((g.run (os ++ [.bar])).2 = false → (g.run (os ++ [.bar])).1.base = g.base ∧ ∀ x ∈ (g.run (os ++ [.bar])).1.ws, x ∈ wsOf os) := by
  obtain ⟨h1, ⟨k, h2⟩, h3⟩ := run_writes os g h
  rw [hq, List.nil_append] at h2 h3
  rw [run_append]
  cases hb : (g.run os).2
  · simp only [Bool.false_eq_true, if_false]
    exact ⟨(fun h => by rw [hb] at h; cases h), fun _ => ⟨h1, fun x hx => by rw [h2] at hx; exact List.mem_of_mem_take hx⟩⟩
  · simp only [if_true]
    rw [run_one]
    split
    · exact ⟨(fun h => by cases h), fun _ => ⟨h1, fun x hx => by rw [h2] at hx; exact List.mem_of_mem_take hx⟩⟩
    · refine ⟨fun _ => ⟨?_, rfl⟩, (fun h => by cases h)⟩
      show put (g.run os).1.base (g.run os).1.ws = _
      rw [h1, h3 hb]
end
section
/- Flush, Open, Anew and New, as what they make of a lane on its disk (plain data). -/
open Go.RowKit
set_option maxRecDepth 20000
set_option linter.unusedSimpArgs false
set_option linter.unusedVariables false

theorem bank_of {B : List Sec} {l : Ln} {i : Nat} {s : Sec} (h : (bankOf B l.bank)[i]? = some s) : i < 256 ∧ B[l.sec i]? = some s := by
  have hi : i < 256 := by
    have := (List.getElem?_eq_some_iff.1 h).1
    unfold bankOf at this
    rw [List.length_take] at this
    omega
  exact ⟨hi, by rw [← bankOf_get _ _ _ hi]; exact h⟩
theorem headRaw_like {l l' : Ln} (h1 : l.gen = l'.gen) (h2 : l.bank = l'.bank) : headRaw l = headRaw l' := by unfold headRaw; rw [h1, h2]
theorem flushD_ast {l : Ln} (h : l.astray = false) : flushD l = keptD l ++ [.bar] := by unfold flushD hardD; rw [h]; rfl
theorem hard_fields (l : Ln) : l.hard.r = l.r ∧ l.hard.bank = l.bank ∧ l.hard.gen = l.gen ∧ l.hard.first = l.first + l.full ∧ l.hard.kept = l.kept.drop (l.full * 56) ∧ l.hard.sure = (l.kept.drop (l.full * 56)).length ∧ l.hard.astray = false := ⟨rfl, rfl, rfl, rfl, rfl, rfl, rfl⟩

/-- What the writing of the kept bytes leaves, in a bank that has F so far. -/
theorem kept_written {base : List Sec} {n : Nat} {l : Ln} {G F : List UInt8} (hlen : base.length = n) (hn : 514 ≤ n) (hb : l.bank ≤ 1) (hk : G.drop (l.first * 56) = l.kept) (hl : l.first * 56 ≤ G.length) (hG : G.length ≤ 14336) (hp : F <+: G) (hF : l.first * 56 ≤ F.length)
    (hh : Holds l.gen (bankOf base l.bank) F) : Holds l.gen (bankOf (put base (wsOf (keptD l))) l.bank) G := by
  have hck : ∀ i, chunk l.kept i = chunk G (l.first + i) := fun i => by rw [← hk, Nat.mul_comm]; exact chunk_drop _ _ _
  have hns : l.nsec = (G.length - l.first * 56 + 55) / 56 := by unfold Ln.nsec; rw [← hk, List.length_drop]
  refine hh.written hp (fun i s hs => ?_)
  obtain ⟨hi, hs⟩ := bank_of hs
  by_cases hin : l.first ≤ i ∧ 56 * i < G.length
  · left
    have hm := keptD_of (l := l) (i := i - l.first) (by rw [hns]; omega)
    rw [show l.first + (i - l.first) = i by omega] at hm
    have := put_some hm (fun b' hb' => by
      obtain ⟨j, hj, e⟩ := keptD_mem hb'
      injection e with e1 e2
      have := sec_inj l e1
      rw [e2, show j = i - l.first by omega]) (l := base) (by rw [hlen]; unfold Ln.sec; omega)
    rw [this] at hs
    refine ⟨?_, hin.2⟩
    rw [← Option.some.inj hs, hck, show l.first + (i - l.first) = i by omega]
  · right
    have hno : ∀ b, (l.sec i, b) ∉ wsOf (keptD l) := by
      intro b hb'
      obtain ⟨j, hj, e⟩ := keptD_mem hb'
      injection e with e1 _
      have := sec_inj l e1
      rw [hns] at hj
      omega
    rw [put_none hno] at hs
    refine ⟨by rw [bankOf_get _ _ _ hi]; exact hs, ?_⟩
    omega
/-- Flush, all well. -/
theorem Lv.flushed {g : Rg} {n : Nat} {l : Ln} {all : List Rc} {s : Nat} (h : Lv g n l all s) (hok : (g.run (flushD l)).2 = true) : Lv (g.run (flushD l)).1 n l.hard all all.length := by
  have hfit : (g.run (flushD l)).1.Fit n := run_fit _ _ h.fit (fun o ho => by
    rw [flushD_ast h.ast] at ho
    rcases List.mem_append.1 ho with h1 | h1
    · unfold keptD at h1
      rw [List.mem_map] at h1
      obtain ⟨i, hi, rfl⟩ := h1
      have hi := List.mem_range.1 hi
      have hk := h.keptlen
      have hl := h.lf.len
      rw [h.len] at hl
      refine ⟨?_, secOf_length _ _ (chunk_le _ _)⟩
      have := h.lf.bank
      have := h.size
      unfold Ln.nsec at hi
      unfold Ln.sec
      omega
    · rw [List.mem_singleton] at h1; subst h1; trivial)
  rw [flushD_ast h.ast] at hok hfit ⊢
  obtain ⟨hb, hq⟩ := (run_bar (keptD_all l) h.quiet).1 hok
  have hlen := h.lf.len
  rw [h.len] at hlen
  have hkl := h.keptlen
  have hble := h.bytes.2
  have hpre : frsR (all.take s) <+: frsR all := frsR_take all s
  have hful : l.full * 56 ≤ l.kept.length := by unfold Ln.full; omega
  refine ⟨hfit, h.size, hq, h.lf.hard, h.gen1, rfl, ?_, h.ok, ⟨?_, ?_⟩, Nat.le_refl _, ⟨?_, ?_⟩, ?_⟩
  · rw [hb, put_none (fun b hb' => by
      obtain ⟨j, _, e⟩ := keptD_mem hb'
      injection e with e1 _
      exact sec_ne1 l _ e1.symm)]
    exact h.head
  · show (frsR all).drop ((l.first + l.full) * 56) = l.kept.drop (l.full * 56)
    rw [← h.bytes.1, List.drop_drop]
    congr 1
    omega
  · show (l.first + l.full) * 56 ≤ _
    omega
  · rw [List.take_length]
    show _ = (l.first + l.full) * 56 + (l.kept.drop (l.full * 56)).length
    rw [List.length_drop]
    omega
  · show (l.kept.drop (l.full * 56)).length < 56
    rw [List.length_drop]
    unfold Ln.full
    omega
  · rw [hb, List.take_length]
    exact kept_written h.fit.size h.size h.lf.bank h.bytes.1 h.bytes.2 hlen hpre (by rw [h.sure.1]; omega) h.holds
/-- Flush, broken off; behind a crash. -/
theorem Lv.unflushed {g : Rg} {n : Nat} {l : Ln} {all : List Rc} {s : Nat} (h : Lv g n l all s) (hno : (g.run (flushD l)).2 = false) (hfit : (g.run (flushD l)).1.Fit n) (m : Nat → Bool) : Cr ((g.run (flushD l)).1.crash m) n l.r l.bank l.gen (frsR (all.take s)) (frsR all) := by
  rw [flushD_ast h.ast] at hno hfit ⊢
  obtain ⟨hb, hw⟩ := (run_bar (keptD_all l) h.quiet).2 hno
  have hlen := h.lf.len
  rw [h.len] at hlen
  have hkl := h.keptlen
  have hble := h.bytes.2
  refine ⟨hfit.crash m, h.size, rfl, h.lf.bank, ⟨h.gen1, h.lf.gen⟩, ?_, ?_, frsR_take all s, hlen⟩
  · rcases crash_get (g := (g.run (keptD l ++ [.bar])).1) m 1 with e | ⟨b, h1, _⟩
    · rw [e, hb]; exact h.head
    · obtain ⟨j, _, e⟩ := keptD_mem (hw _ h1)
      injection e with e1 _
      exact absurd e1.symm (sec_ne1 l _)
  · intro i x hx
    obtain ⟨hi, hx⟩ := bank_of (l := l) hx
    rcases crash_get (g := (g.run (keptD l ++ [.bar])).1) m (l.sec i) with e | ⟨b, h1, h2⟩
    · rw [e, hb] at hx
      exact .inr (h.holds i x (by rw [bankOf_get _ _ _ hi]; exact hx))
    · rw [h2] at hx
      obtain rfl := Option.some.inj hx
      obtain ⟨j, hj, e⟩ := keptD_mem (hw _ h1)
      injection e with e1 e2
      have e1 := sec_inj l e1
      rw [e2, chunk_kept h, ← e1]
      refine .inl ⟨rfl, ?_⟩
      unfold Ln.nsec at hj
      omega
theorem take_full {α : Type} {l : List α} {a b : Nat} (h : a ≤ b) : (l.drop a).take (b - a) = (l.take b).drop a := by rw [List.drop_take]
/-- Open, behind a crash. -/
theorem Cr.opened {g : Rg} {n r bank gen : Nat} {all : List Rc} {s : Nat} (h : Cr g n r bank gen (frsR (all.take s)) (frsR all)) (hr : r < 64) (hok : ∀ q ∈ all, q.Ok) (hs : s ≤ all.length) (hup : g.armed = false)
    {rs : List Rc} {rest : List UInt8} (hrs : ∀ q ∈ rs, q.Ok) (hsp : strm gen (bankOf g.secs bank) = frsR rs ++ rest) (hno : ∀ q : Rc, q.Ok → ¬ q.frame <+: rest) :
    ∃ (b : Sec) (k : Nat), g.secs[1]? = some b ∧ gn b = gen ∧ sN b = bank ∧ s ≤ k ∧ k ≤ all.length ∧ rs = all.take k ∧ (openB r b (strm gen (bankOf g.secs bank)) (frsR rs).length g).2 = true ∧ (openB r b (strm gen (bankOf g.secs bank)) (frsR rs).length g).1.armed = false ∧
      Lv (openB r b (strm gen (bankOf g.secs bank)) (frsR rs).length g).1 n ((openL r b (strm gen (bankOf g.secs bank)) (frsR rs).length).setSure ((frsR rs).length - (frsR rs).length / 56 * 56)) (all.take k) k := by
  have hsecs : g.secs = g.base := by unfold Rg.secs; rw [h.quiet]; rfl
  rw [hsecs] at hsp ⊢
  have hBl : (bankOf g.base bank).length = 256 := bankOf_length _ _ h.bnk (by rw [h.fit.size]; exact h.size)
  have hl := h.len
  obtain ⟨m, hm1, hm2, hgood⟩ := h.mix.good (by have := h.gen1.2; omega) h.pre (by rw [hBl]; omega)
  have hG : strm gen (bankOf g.base bank) = (frsR all).take m := hgood.1
  have hGl : ((frsR all).take m).length = m := by rw [List.length_take]; omega
  obtain ⟨k, hk1, hk2, hk3⟩ := ents_prefix rs all _ rest hrs hok (by rw [hG]; exact List.take_prefix _ _) hsp hno
  have hsk : s ≤ k := hk3 s hs (by rw [hG, hGl]; exact hm1)
  obtain ⟨e, he⟩ : ∃ e, (frsR rs).length = e := ⟨_, rfl⟩
  have heG : e ≤ m := by
    have := congrArg List.length hsp
    rw [hG, hGl, List.length_append, he] at this
    omega
  have hGe : (strm gen (bankOf g.base bank)).take e = frsR rs := by rw [hsp, ← he]; exact List.take_left
  refine ⟨pad (headRaw ⟨r, bank, gen, 0, [], 0, false⟩), k, h.head, gn_head _ h.gen1.2, sN_head _ h.bnk, hsk, hk1, hk2, ?_⟩
  rw [he]
  have hgn := gn_head ⟨r, bank, gen, 0, [], 0, false⟩ h.gen1.2
  have hsn := sN_head ⟨r, bank, gen, 0, [], 0, false⟩ h.bnk
  have hL : openL r (pad (headRaw ⟨r, bank, gen, 0, [], 0, false⟩)) (strm gen (bankOf g.base bank)) e = ⟨r, bank, gen, e / 56, ((strm gen (bankOf g.base bank)).drop (e / 56 * 56)).take (e - e / 56 * 56), 0, false⟩ := by
    unfold openL
    rw [hgn, hsn]
  unfold openB
  rw [hL]
  obtain ⟨st, hst⟩ : ∃ st, strm gen (bankOf g.base bank) = st := ⟨_, rfl⟩
  rw [hst] at hsp hG hGe ⊢
  have hgood' : Good gen (bankOf g.base bank) st := by rw [hG]; exact hgood
  have hstl : st.length = m := by rw [hG, hGl]
  obtain ⟨lo, hlo⟩ : ∃ lo : Ln, lo = ⟨r, bank, gen, e / 56, (st.drop (e / 56 * 56)).take (e - e / 56 * 56), 0, false⟩ := ⟨_, rfl⟩
  rw [← hlo]
  have hlk : lo.kept = (frsR rs).drop (e / 56 * 56) := by rw [hlo, ← hGe]; show (st.drop _).take _ = _; rw [take_full (by omega)]
  have hlkl : lo.kept.length = e - e / 56 * 56 := by rw [hlk, List.length_drop, he]
  have hlf : lo.first = e / 56 := by rw [hlo]
  have hlg : lo.gen = gen := by rw [hlo]
  have hlb : lo.bank = bank := by rw [hlo]
  have hlr : lo.r = r := by rw [hlo]
  have hns : lo.nsec = (e - e / 56 * 56 + 55) / 56 := by unfold Ln.nsec; rw [hlkl]
  -- the run
  obtain ⟨g1, hg1⟩ : ∃ g1, g.run (mendP lo (decide (e < st.length))) = (g1, true) := ⟨_, Prod.ext rfl (run_up _ g hup).1⟩
  have hup1 : g1.armed = false := by have := (run_up (mendP lo (decide (e < st.length))) g hup).2; rwa [hg1] at this
  have hPw : allW (mendP lo (decide (e < st.length))) := by
    unfold mendP
    split
    · exact keptD_all lo
    · intro o ho; cases ho
  obtain ⟨hb1, _, hw1⟩ := run_writes _ g hPw
  rw [hg1] at hb1 hw1
  have hw1 := hw1 rfl
  rw [h.quiet, List.nil_append] at hw1
  dsimp only at hb1 hw1
  have hmr := mend_yes hg1
  obtain ⟨C, hC⟩ : ∃ C, cleanD lo g1.secs (lo.first + lo.nsec) = C := ⟨_, rfl⟩
  rw [hC] at hmr
  have hall : allW (mendP lo (decide (e < st.length)) ++ C) := by
    intro o ho
    rcases List.mem_append.1 ho with h1 | h1
    · exact hPw o h1
    · rw [← hC] at h1; exact cleanD_all _ _ _ o h1
  have hrun : g.run ((mendP lo (decide (e < st.length)) ++ C) ++ [.bar]) = mendR lo (decide (e < st.length)) g := by
    rw [hmr, List.append_assoc]
    exact run_yes hg1 _
  have hup5 := run_up ((mendP lo (decide (e < st.length)) ++ C) ++ [.bar]) g hup
  rw [hrun] at hup5
  obtain ⟨hb5, hq5⟩ := (run_bar hall h.quiet).1 (by rw [hrun]; exact hup5.1)
  rw [hrun] at hb5 hq5
  have hlt_e : e / 56 * 56 ≤ e := Nat.div_mul_le_self e 56
  -- what is written
  have hP : ∀ {i : Nat} {b : Sec}, (lo.sec i, b) ∈ wsOf (mendP lo (decide (e < st.length))) → e < st.length ∧ i = e / 56 ∧ e / 56 * 56 < e ∧ b = secOf gen lo.kept := by
    intro i b hm
    unfold mendP at hm
    split at hm
    · rename_i hc
      obtain ⟨j, hj, e1⟩ := keptD_mem hm
      injection e1 with e1 e2
      have e1 := sec_inj lo e1
      rw [hns] at hj
      have hj0 : j = 0 := by omega
      subst hj0
      have hck : chunk lo.kept 0 = lo.kept := by rw [chunk_zero]; exact List.take_of_length_le (by omega)
      rw [hck, hlg] at e2
      rw [hlf] at e1
      exact ⟨of_decide_eq_true hc, by omega, by omega, e2⟩
    · cases hm
  have hsec1 : ∀ i, i < 256 → lo.first + lo.nsec ≤ i → g1.secs.getD (lo.sec i) zsec = g.base.getD (lo.sec i) zsec := by
    intro i hi hge
    rw [List.getD_eq_getElem?_getD, List.getD_eq_getElem?_getD]
    unfold Rg.secs
    rw [hb1, hw1, put_none]
    intro b hb'
    obtain ⟨_, h2, h3, _⟩ := hP hb'
    rw [hlf, hns] at hge
    omega
  have hsize := h.fit.size
  have hn := h.size
  have hbk := h.bnk
  have hfit : (mendR lo (decide (e < st.length)) g).1.Fit n := by
    rw [← hrun]
    refine run_fit _ _ h.fit (fun o ho => ?_)
    rcases List.mem_append.1 ho with h1 | h1
    · rcases List.mem_append.1 h1 with h1 | h1
      · cases o with
        | bar => exact absurd rfl (hPw _ h1)
        | w sx bx =>
          have h2 := wsOf_of h1
          have h3 : ∃ i, sx = lo.sec i ∧ i < 256 ∧ bx.length = 64 := by
            unfold mendP at h2
            split at h2
            · obtain ⟨j, hj, e1⟩ := keptD_mem h2
              injection e1 with e1 e2
              rw [hns] at hj
              exact ⟨_, e1, by rw [hlf]; omega, by rw [e2]; exact secOf_length _ _ (chunk_le _ _)⟩
            · cases h2
          obtain ⟨i, rfl, hi, hbx⟩ := h3
          exact ⟨by unfold Ln.sec; rw [hlb]; omega, hbx⟩
      · cases o with
        | bar => trivial
        | w sx bx =>
          rw [← hC] at h1
          obtain ⟨i, _, hi, _, e1⟩ := cleanD_mem (wsOf_of h1)
          injection e1 with e1 e2
          refine ⟨by rw [e1]; unfold Ln.sec; rw [hlb]; omega, by rw [e2]; rfl⟩
    · rw [List.mem_singleton] at h1; subst h1; trivial
  refine ⟨hup5.1, hup5.2, hfit, hn, hq5, ?_, by show 1 ≤ lo.gen; rw [hlg]; exact h.gen1.1, by show lo.astray = false; rw [hlo], ?_, ?_, ⟨?_, ?_⟩, ?_, ⟨?_, ?_⟩, ?_⟩
  · refine ⟨by show lo.r < 64; rw [hlr]; exact hr, by show lo.bank ≤ 1; rw [hlb]; exact hbk, by show lo.gen ≤ _; rw [hlg]; exact h.gen1.2, ?_⟩
    show lo.first * 56 + lo.kept.length ≤ 14336
    rw [hlf, hlkl]
    omega
  · rw [hb5, wsOf_append, put_none]
    · rw [h.head, headRaw_like (l' := lo.setSure (e - e / 56 * 56)) (by show gen = lo.gen; rw [hlg]) (by show bank = lo.bank; rw [hlb])]
    · intro b hb'
      rcases List.mem_append.1 hb' with h1 | h1
      · unfold mendP at h1
        split at h1
        · obtain ⟨j, _, e1⟩ := keptD_mem h1
          injection e1 with e1 _
          exact sec_ne1 lo _ e1.symm
        · cases h1
      · rw [← hC] at h1
        obtain ⟨i, _, _, _, e1⟩ := cleanD_mem h1
        injection e1 with e1 _
        exact sec_ne1 lo _ e1.symm
  · intro q hq; exact hok q (List.mem_of_mem_take hq)
  · show (frsR (all.take k)).drop (lo.first * 56) = lo.kept
    rw [← hk2, hlk, hlf]
  · show lo.first * 56 ≤ _
    rw [← hk2, he, hlf]
    exact hlt_e
  · rw [List.length_take]; omega
  · rw [List.take_take, Nat.min_self, ← hk2, he]
    show e = lo.first * 56 + (e - e / 56 * 56)
    rw [hlf]
    omega
  · show e - e / 56 * 56 < 56
    omega
  · show Holds lo.gen (bankOf _ lo.bank) _
    rw [hlg, hlb, List.take_take, Nat.min_self, ← hk2, ← hGe]
    refine hgood'.mend (by omega) h.gen1.1 (fun i x hx => ?_)
    have hx' : (bankOf (mendR lo (decide (e < st.length)) g).1.base lo.bank)[i]? = some x := by rw [hlb]; exact hx
    obtain ⟨hi, hx⟩ := bank_of hx'
    have hil : lo.sec i < g.base.length := by rw [hsize]; unfold Ln.sec; rw [hlb]; omega
    refine ⟨g.base[lo.sec i], by rw [← hlb, bankOf_get _ _ _ hi]; exact List.getElem?_eq_getElem hil, ?_⟩
    rw [hb5, wsOf_append] at hx
    have hgd : g.base.getD (lo.sec i) zsec = g.base[lo.sec i] := by rw [List.getD_eq_getElem?_getD, List.getElem?_eq_getElem hil]; rfl
    by_cases hie : e ≤ 56 * i
    · rw [if_pos hie]
      have hge : lo.first + lo.nsec ≤ i := by rw [hlf, hns]; omega
      have hnoP : ∀ b, (lo.sec i, b) ∉ wsOf (mendP lo (decide (e < st.length))) := fun b hb' => by obtain ⟨_, h2, h3, _⟩ := hP hb'; omega
      split
      · rename_i hg
        have hm : (lo.sec i, zsec) ∈ wsOf C := by
          rw [← hC]
          exact cleanD_of hge hi (by rw [hsec1 i hi hge, hgd, hg, hlg])
        have := put_some (List.mem_append_right (wsOf (mendP lo (decide (e < st.length)))) hm) (fun b' hb' => by
          rcases List.mem_append.1 hb' with h1 | h1
          · exact absurd h1 (hnoP b')
          · rw [← hC] at h1
            obtain ⟨_, _, _, _, e1⟩ := cleanD_mem h1
            injection e1) hil
        rw [this] at hx
        exact (Option.some.inj hx).symm
      · rename_i hg
        rw [put_none] at hx
        · rw [List.getElem?_eq_getElem hil] at hx
          exact (Option.some.inj hx).symm
        · intro b hb'
          rcases List.mem_append.1 hb' with h1 | h1
          · exact hnoP b h1
          · rw [← hC] at h1
            obtain ⟨j, hj1, hj2, hj3, e1⟩ := cleanD_mem h1
            injection e1 with e1 _
            have := sec_inj lo e1
            subst this
            rw [hsec1 i hi hge, hgd, hlg] at hj3
            exact hg hj3
    · rw [if_neg hie]
      have hnoC : ∀ b, (lo.sec i, b) ∉ wsOf C := by
        intro b hb'
        rw [← hC] at hb'
        obtain ⟨j, hj1, hj2, hj3, e1⟩ := cleanD_mem hb'
        injection e1 with e1 _
        have := sec_inj lo e1
        rw [hlf, hns] at hj1
        omega
      have hkc : lo.kept = chunk (st.take e) (e / 56) := by
        rw [hlk, hGe]
        unfold chunk
        rw [Nat.mul_comm, List.take_of_length_le]
        rw [List.length_drop, he]
        omega
      split
      · rename_i hc
        have hi56 : i = e / 56 := by omega
        have hm : (lo.sec i, secOf gen lo.kept) ∈ wsOf (mendP lo (decide (e < st.length))) := by
          unfold mendP
          rw [if_pos (decide_eq_true hc.1)]
          have := keptD_of (l := lo) (i := 0) (by rw [hns]; omega)
          rw [hlf, Nat.add_zero, chunk_zero, hlg, List.take_of_length_le (by omega)] at this
          rw [hi56]
          exact this
        have := put_some (List.mem_append_left (wsOf C) hm) (fun b' hb' => by
          rcases List.mem_append.1 hb' with h1 | h1
          · exact (hP h1).2.2.2
          · exact absurd h1 (hnoC b')) hil
        rw [this] at hx
        rw [← Option.some.inj hx, hkc, hi56]
      · rename_i hc
        rw [put_none] at hx
        · rw [List.getElem?_eq_getElem hil] at hx
          exact (Option.some.inj hx).symm
        · intro b hb'
          rcases List.mem_append.1 hb' with h1 | h1
          · obtain ⟨h2, h3, _, _⟩ := hP h1
            apply hc
            omega
          · exact hnoC b h1
end

end Go.Proofs.Ytkdcnddagebjpaa
