/-
  Package page: a page comes back from its bytes; Decode's answer.
-/
import Derived.Test.YtajpjffjhnmfmaaPDec
namespace Go.Proofs.Ytajpjffjhnmfmaa
open Go.RowKit

set_option linter.unusedSimpArgs false
set_option linter.unusedVariables false

theorem St.num_some (n m : Nat) (r : List UInt8) (h1 : 1 ≤ n) (h8 : n ≤ 8) : (⟨be n m ++ r, false⟩ : St).num (n : Int) = m % 256 ^ n ∧ (⟨be n m ++ r, false⟩ : St).numSt (n : Int) = ⟨r, false⟩ := by
  obtain ⟨h3, h4⟩ := St.some_take (be n m) r (n : Int) (by rw [be_length])
  unfold St.num St.numSt
  rw [if_pos (by omega), if_pos (by omega), h3, h4, val_be]
  exact ⟨rfl, rfl⟩
/-- A sector. -/
def Pg.sec (p : Pg) (k : Nat) : List UInt8 := be 8 p.mark ++ (p.saidL.drop (k * 56)).take 56
theorem Pg.secs_all (p : Pg) : p.secs 4 = p.sec 0 ++ (p.sec 1 ++ (p.sec 2 ++ (p.sec 3 ++ []))) := by
  simp [Pg.secs, Pg.sec]
theorem sec_read {p : Pg} (hs : p.sized) (hm : p.mark < 18446744073709551616) (k : Nat) (hk : k < 4) (r : List UInt8) :
    (⟨p.sec k ++ r, false⟩ : St).num 8 = p.mark ∧ ((⟨p.sec k ++ r, false⟩ : St).numSt 8).take 56 = ⟨r, false⟩ ∧ ((⟨p.sec k ++ r, false⟩ : St).numSt 8).got 56 = (p.saidL.drop (k * 56)).take 56 := by
  obtain ⟨h1, h2⟩ := St.num_some 8 p.mark ((p.saidL.drop (k * 56)).take 56 ++ r) (by omega) (by omega)
  have e : p.sec k ++ r = be 8 p.mark ++ ((p.saidL.drop (k * 56)).take 56 ++ r) := by simp [Pg.sec]
  have hl : (((p.saidL.drop (k * 56)).take 56).length : Int) = 56 := by
    rw [List.length_take, List.length_drop, p.said_length hs]; omega
  obtain ⟨h3, h4⟩ := St.some_take ((p.saidL.drop (k * 56)).take 56) r 56 hl
  rw [e]
  have h1' : (⟨be 8 p.mark ++ ((p.saidL.drop (k * 56)).take 56 ++ r), false⟩ : St).num 8 = p.mark % 256 ^ 8 := h1
  have h2' : (⟨be 8 p.mark ++ ((p.saidL.drop (k * 56)).take 56 ++ r), false⟩ : St).numSt 8 = ⟨(p.saidL.drop (k * 56)).take 56 ++ r, false⟩ := h2
  rw [h1', h2', h3, h4]
  exact ⟨Nat.mod_eq_of_lt hm, rfl, rfl⟩
theorem four_parts (m : List UInt8) (h : m.length = 224) : (((([] ++ (m.drop (0 * 56)).take 56) ++ (m.drop (1 * 56)).take 56) ++ (m.drop (2 * 56)).take 56) ++ (m.drop (3 * 56)).take 56) = m := by
  have e (k : Nat) : m.take (k * 56) ++ (m.drop (k * 56)).take 56 = m.take ((k + 1) * 56) := by
    rw [Nat.add_mul, Nat.one_mul, List.take_add]
  have e0 : ([] : List UInt8) = m.take (0 * 56) := by simp
  rw [e0, e 0, e 1, e 2, e 3]
  exact List.take_of_length_le (by omega)
theorem secs_read {p : Pg} (hs : p.sized) (hm : p.mark < 18446744073709551616) : rdMark (p.secs 4) 4 = p.mark ∧ rdSaid (p.secs 4) 4 = p.saidL := by
  rw [p.secs_all]
  obtain ⟨a0, b0, c0⟩ := sec_read hs hm 0 (by omega) (p.sec 1 ++ (p.sec 2 ++ (p.sec 3 ++ [])))
  obtain ⟨a1, b1, c1⟩ := sec_read hs hm 1 (by omega) (p.sec 2 ++ (p.sec 3 ++ []))
  obtain ⟨a2, b2, c2⟩ := sec_read hs hm 2 (by omega) (p.sec 3 ++ [])
  obtain ⟨a3, b3, c3⟩ := sec_read hs hm 3 (by omega) []
  generalize hl : p.sec 0 ++ (p.sec 1 ++ (p.sec 2 ++ (p.sec 3 ++ []))) = l at *
  have s0 : rdSt l 0 = ⟨l, false⟩ := rfl
  have s1 : rdSt l 1 = ⟨p.sec 1 ++ (p.sec 2 ++ (p.sec 3 ++ [])), false⟩ := b0
  have s2 : rdSt l 2 = ⟨p.sec 2 ++ (p.sec 3 ++ []), false⟩ := by rw [rdSt, s1]; exact b1
  have s3 : rdSt l 3 = ⟨p.sec 3 ++ [], false⟩ := by rw [rdSt, s2]; exact b2
  refine ⟨by rw [rdMark, s3]; exact a3, ?_⟩
  rw [rdSaid, s3, c3, rdSaid, s2, c2, rdSaid, s1, c1, rdSaid, s0, c0, rdSaid]
  exact four_parts _ (p.said_length hs)
theorem said_all (p : Pg) : p.saidL = be 2 p.ten ++ (be 2 p.num ++ (padS (p.s 0) ++ (padS (p.s 1) ++ (padS (p.s 2) ++ (padS (p.s 3) ++ (padS (p.s 4) ++ List.replicate 20 0)))))) := by
  simp [Pg.saidL, Pg.part]
theorem pad_take {s : ByteArray} (h : s.size ≤ 40) (r : List UInt8) : (⟨padS s ++ r, false⟩ : St).take 40 = ⟨r, false⟩ ∧ (⟨padS s ++ r, false⟩ : St).got 40 = padS s :=
  St.some_take (padS s) r 40 (by rw [padS_length h]; rfl)
theorem said_read {p : Pg} (hs : p.sized) (ht : p.ten < 65536) (hn : p.num < 65536) :
    (⟨p.saidL, false⟩ : St).num 2 = p.ten ∧ ((⟨p.saidL, false⟩ : St).numSt 2).num 2 = p.num ∧ ∀ k, k < 5 → (slSt p.saidL k).got 40 = padS (p.s k) := by
  rw [said_all p]
  obtain ⟨h1, h2⟩ := St.num_some 2 p.ten (be 2 p.num ++ (padS (p.s 0) ++ (padS (p.s 1) ++ (padS (p.s 2) ++ (padS (p.s 3) ++ (padS (p.s 4) ++ List.replicate 20 0)))))) (by omega) (by omega)
  obtain ⟨h3, h4⟩ := St.num_some 2 p.num (padS (p.s 0) ++ (padS (p.s 1) ++ (padS (p.s 2) ++ (padS (p.s 3) ++ (padS (p.s 4) ++ List.replicate 20 0))))) (by omega) (by omega)
  obtain ⟨t0, g0⟩ := pad_take (hs 0 (by omega)) (padS (p.s 1) ++ (padS (p.s 2) ++ (padS (p.s 3) ++ (padS (p.s 4) ++ List.replicate 20 0))))
  obtain ⟨t1, g1⟩ := pad_take (hs 1 (by omega)) (padS (p.s 2) ++ (padS (p.s 3) ++ (padS (p.s 4) ++ List.replicate 20 0)))
  obtain ⟨t2, g2⟩ := pad_take (hs 2 (by omega)) (padS (p.s 3) ++ (padS (p.s 4) ++ List.replicate 20 0))
  obtain ⟨t3, g3⟩ := pad_take (hs 3 (by omega)) (padS (p.s 4) ++ List.replicate 20 0)
  obtain ⟨_, g4⟩ := pad_take (hs 4 (by omega)) (List.replicate 20 0)
  have e2 : ((2 : Nat) : Int) = 2 := rfl
  rw [e2] at h1 h2 h3 h4
  generalize hl : be 2 p.ten ++ (be 2 p.num ++ (padS (p.s 0) ++ (padS (p.s 1) ++ (padS (p.s 2) ++ (padS (p.s 3) ++ (padS (p.s 4) ++ List.replicate 20 0)))))) = l at *
  have s0 : slSt l 0 = ⟨padS (p.s 0) ++ (padS (p.s 1) ++ (padS (p.s 2) ++ (padS (p.s 3) ++ (padS (p.s 4) ++ List.replicate 20 0)))), false⟩ := by rw [slSt, h2, h4]
  have s1 : slSt l 1 = ⟨padS (p.s 1) ++ (padS (p.s 2) ++ (padS (p.s 3) ++ (padS (p.s 4) ++ List.replicate 20 0))), false⟩ := by rw [slSt, s0]; exact t0
  have s2 : slSt l 2 = ⟨padS (p.s 2) ++ (padS (p.s 3) ++ (padS (p.s 4) ++ List.replicate 20 0)), false⟩ := by rw [slSt, s1]; exact t1
  have s3 : slSt l 3 = ⟨padS (p.s 3) ++ (padS (p.s 4) ++ List.replicate 20 0), false⟩ := by rw [slSt, s2]; exact t2
  have s4 : slSt l 4 = ⟨padS (p.s 4) ++ List.replicate 20 0, false⟩ := by rw [slSt, s3]; exact t3
  refine ⟨by rw [h1]; exact Nat.mod_eq_of_lt ht, by rw [h2, h3]; exact Nat.mod_eq_of_lt hn, fun k hk => ?_⟩
  match k, hk with
  | 0, _ => rw [s0]; exact g0
  | 1, _ => rw [s1]; exact g1
  | 2, _ => rw [s2]; exact g2
  | 3, _ => rw [s3]; exact g3
  | 4, _ => rw [s4]; exact g4
theorem bytes_eq {a : ByteArray} : (⟨a.data.toList.toArray⟩ : ByteArray) = a := by
  obtain ⟨⟨l⟩⟩ := a; rfl
/-- A slot's bytes, put anew. -/
theorem put_pad (q : Pg) (k : Nat) {s : ByteArray} (h : okB s = true) (hq : q.s k = ⟨#[]⟩) : (q.put k ⟨(padS s).toArray⟩).s = fun j => if j = k then s else q.s j := by
  unfold okB at h
  simp only [Bool.or_eq_true, decide_eq_true_eq] at h
  by_cases h0 : s = ⟨#[]⟩
  · subst h0
    have e : okB ⟨(padS ⟨#[]⟩).toArray⟩ = false := by decide
    unfold Pg.put
    rw [e, if_neg (by simp)]
    funext j
    split
    · subst j; exact hq
    · rfl
  · have hr := h.resolve_left h0
    have hl : s.data.toList.length = 40 := rowB_length hr
    have e : padS s = s.data.toList := by
      unfold padS
      rw [show 40 - s.size = 0 by rw [← size_data, hl]]
      simp
    rw [e, bytes_eq]
    unfold Pg.put
    rw [if_pos (by unfold okB; simp [hr])]
    rfl
theorem readP_of {p : Pg} {l m : List UInt8} (ho : ∀ j, j < 5 → okB (p.s j) = true) (h1 : rdMark l 4 = p.mark) (h2 : rdSaid l 4 = m) (h3 : (⟨m, false⟩ : St).num 2 = p.ten) (h4 : ((⟨m, false⟩ : St).numSt 2).num 2 = p.num) (h5 : ∀ k, k < 5 → (slSt m k).got 40 = padS (p.s k)) :
    (readP l).mark = p.mark ∧ (readP l).ten = p.ten ∧ (readP l).num = p.num ∧ ∀ j, j < 5 → (readP l).s j = p.s j := by
  obtain ⟨a, b, c⟩ := rdPg_head l 5
  rw [h1] at a
  rw [h2] at b c
  refine ⟨a, b.trans h3, c.trans h4, ?_⟩
  have hk : ∀ k, k ≤ 5 → ∀ j, (rdPg l k).s j = if j < k then p.s j else ⟨#[]⟩ := by
    intro k
    induction k with
    | zero => intro _ j; rw [if_neg (by omega)]; rfl
    | succ k ih =>
      intro hk j
      have hi := ih (by omega)
      rw [rdPg, h2, h5 k (by omega), put_pad _ k (ho k (by omega)) (by rw [hi k, if_neg (by omega)])]
      show (if j = k then p.s k else (rdPg l k).s j) = _
      rw [hi j]
      by_cases e : j = k
      · subst e; rw [if_pos rfl, if_pos (by omega)]
      · by_cases e2 : j < k
        · rw [if_neg e, if_pos e2, if_pos (by omega)]
        · rw [if_neg e, if_neg e2, if_neg (by omega)]
  intro j hj
  have := hk 5 (by omega) j
  rw [if_pos hj] at this
  exact this
theorem readP_secs {p : Pg} (hg : p.good) : (readP (p.secs 4)).mark = p.mark ∧ (readP (p.secs 4)).ten = p.ten ∧ (readP (p.secs 4)).num = p.num ∧ ∀ j, j < 5 → (readP (p.secs 4)).s j = p.s j := by
  have hs := Pg.good_sized hg
  obtain ⟨hm, ht, hn, ho⟩ := hg
  obtain ⟨h1, h2⟩ := secs_read hs hm
  obtain ⟨h3, h4, h5⟩ := said_read hs ht hn
  exact readP_of ho h1 h2 h3 h4 h5
theorem pg_val {p q : Pg} (h1 : p.mark = q.mark) (h2 : p.ten = q.ten) (h3 : p.num = q.num) (h4 : ∀ j, j < 5 → p.s j = q.s j) : p.val = q.val ∧ p.encL = q.encL := by
  have e0 := h4 0 (by omega)
  have e1 := h4 1 (by omega)
  have e2 := h4 2 (by omega)
  have e3 := h4 3 (by omega)
  have e4 := h4 4 (by omega)
  refine ⟨by unfold Pg.val Pg.cells; rw [h1, h2, h3, e0, e1, e2, e3, e4], ?_⟩
  unfold Pg.encL
  rw [p.secs_all, q.secs_all]
  unfold Pg.sec
  rw [said_all p, said_all q, h1, h2, h3, e0, e1, e2, e3, e4]
theorem z256_read : (readP z256).mark = 0 := by
  have e : pZ.secs 4 = z256 := by kernel_rfl
  rw [← e]
  exact (readP_secs (p := pZ) ⟨by decide, by decide, by decide, fun _ _ => okB_empty⟩).1
/-- What bytes are. -/
def DecP (l : List UInt8) (t n : Nat) (q : Pg) (e : Int) : Prop :=
  (e = 0 ∧ q.encL = l ∧ q.ten = t ∧ q.num = n ∧ q.mark < 18446744073709551616 ∧ (∀ j, j < 5 → okB (q.s j) = true) ∧ (q.mark = 0 → ∀ j, q.s j = ⟨#[]⟩) ∧ ∀ p : Pg, p.good → p.mark ≠ 0 → p.encL = l → p.val = q.val) ∨
  (e = 11 ∧ q = pZ ∧ ∀ p : Pg, p.good → p.ten = t → p.num = n → p.encL ≠ l)
theorem mark_some {p : Pg} {l : List UInt8} (hg : p.good) (h : p.encL = l) (h0 : (readP l).mark ≠ 0) : p.mark ≠ 0 ∧ p.secs 4 = l := by
  unfold Pg.encL at h
  split at h
  · subst h; exact absurd z256_read h0
  · rename_i h1; exact ⟨h1, h⟩
theorem decode_pg (v : Value) (l : List UInt8) (t n : Nat) (w : World) (hm : l.length ≤ 1000000) (hv : Rd w v (u8s l)) :
    Calls Try.prog 15 #[v, .int .i64 (t : Int), .int .i64 (n : Int)] w fun e w' => ∃ q e', e = .returned (.tuple #[q.val, .int .i64 e']) ∧ DecP l t n q e' ∧ Below w.heap.size w w' := by
  by_cases h0 : (readP l).mark = 0
  · have hno : ∀ p : Pg, p.good → p.mark ≠ 0 → p.encL ≠ l := by
      intro p hg hp e
      unfold Pg.encL at e
      rw [if_neg hp] at e
      have := (readP_secs hg).1
      rw [e, h0] at this
      exact hp this.symm
    by_cases h3 : z256 = l
    · refine (pdec0_yes v l t n w hm hv h0 h3).mono ?_
      rintro e w' ⟨rfl, hb⟩
      refine ⟨_, _, rfl, .inl ⟨rfl, ?_, rfl, rfl, by show 0 < _; omega, fun _ _ => okB_empty, fun _ _ => rfl, fun p hg hp e => absurd e (hno p hg hp)⟩, hb⟩
      rw [← h3]; rfl
    · refine (pdec0_no v l t n w hm hv h0 h3).mono ?_
      rintro e w' ⟨rfl, hb⟩
      refine ⟨pZ, _, rfl, .inr ⟨rfl, rfl, fun p hg _ _ e => ?_⟩, hb⟩
      by_cases hp : p.mark = 0
      · unfold Pg.encL at e; rw [if_pos hp] at e; exact h3 e
      · exact hno p hg hp e
  · have hsame : ∀ p : Pg, p.good → p.encL = l → p.val = (readP l).val ∧ p.ten = (readP l).ten ∧ p.num = (readP l).num ∧ p.encL = (readP l).encL := by
      intro p hg e
      obtain ⟨_, h2⟩ := mark_some hg e h0
      obtain ⟨a, b, c, d⟩ := readP_secs hg
      rw [h2] at a b c d
      obtain ⟨e1, e2⟩ := pg_val a.symm b.symm c.symm (fun j hj => (d j hj).symm)
      exact ⟨e1, b.symm, c.symm, e2⟩
    by_cases h1 : (readP l).ten = t
    · by_cases h2 : (readP l).num = n
      · by_cases h3 : (readP l).encL = l
        · refine (pdec_yes v l t n w hm hv h0 h1 h2 h3).mono ?_
          rintro e w' ⟨rfl, hb⟩
          exact ⟨_, _, rfl, .inl ⟨rfl, h3, h1, h2, (readP_good l).1, (readP_good l).2.2.2, fun e => absurd e h0, fun p hg _ e => (hsame p hg e).1⟩, hb⟩
        · refine (pdec_no v l t n w hm hv h0 h1 h2 h3).mono ?_
          rintro e w' ⟨rfl, hb⟩
          refine ⟨pZ, _, rfl, .inr ⟨rfl, rfl, fun p hg _ _ e => h3 ?_⟩, hb⟩
          rw [← (hsame p hg e).2.2.2]; exact e
      · refine (pdec_num v l t n w hm hv h0 h1 h2).mono ?_
        rintro e w' ⟨rfl, hb⟩
        refine ⟨pZ, _, rfl, .inr ⟨rfl, rfl, fun p hg _ hn e => h2 ?_⟩, hb⟩
        rw [← (hsame p hg e).2.2.1]; exact hn
    · refine (pdec_who v l t n w hm hv h0 h1).mono ?_
      rintro e w' ⟨rfl, hb⟩
      refine ⟨pZ, _, rfl, .inr ⟨rfl, rfl, fun p hg ht _ e => h1 ?_⟩, hb⟩
      rw [← (hsame p hg e).2.1]; exact ht
end Go.Proofs.Ytajpjffjhnmfmaa
