/-
  What stage 7's statements lean on, part 5 of 6 (put together by merge.py).
-/
import Derived.Test.YtlplibgcfhamgaaB4
namespace Go.Proofs.Ytlplibgcfhamgaa
set_option linter.unusedSimpArgs false
set_option linter.unusedVariables false
section
/- Contract: a lane's stream. -/
open Go.RowKit
set_option maxRecDepth 20000
set_option linter.unusedSimpArgs false
set_option linter.unusedVariables false

theorem strm_all (gen : Nat) (B : List Sec) (h : B.length = 256) : strm gen (B.drop 256) = [] := by
  rw [List.drop_eq_nil_of_le (by omega)]
  rfl
end
section
/- Records one behind the other, and what a beginning of them tells (plain data). -/
open Go.RowKit
set_option maxRecDepth 20000

/-- The frames of records, one behind the other. -/
def frsR (l : List Rc) : List UInt8 := (l.map Rc.frame).flatten
theorem frsR_nil : frsR [] = [] := rfl
theorem frsR_cons (r : Rc) (l : List Rc) : frsR (r :: l) = r.frame ++ frsR l := by simp [frsR]
theorem frsR_append (a b : List Rc) : frsR (a ++ b) = frsR a ++ frsR b := by simp [frsR]
theorem frsR_one (r : Rc) : frsR [r] = r.frame := by simp [frsR]
theorem Rc.frame_pos (r : Rc) : 11 ≤ r.frame.length := by rw [r.frame_length]; omega
theorem frsR_take (l : List Rc) (k : Nat) : frsR (l.take k) <+: frsR l := by
  conv => rhs; rw [← List.take_append_drop k l, frsR_append]
  exact List.prefix_append _ _
theorem frsR_length_le (l : List Rc) (h : ∀ r ∈ l, r.Ok) : (frsR l).length ≤ 395 * l.length := by
  induction l with
  | nil => simp [frsR]
  | cons r l ih =>
    have h1 := ih (fun x hx => h x (List.mem_cons_of_mem _ hx))
    have h2 := (h r (List.mem_cons_self ..)).most
    rw [frsR_cons, List.length_append, List.length_cons]
    omega
theorem frsR_ge (l : List Rc) : 11 * l.length ≤ (frsR l).length := by
  induction l with
  | nil => simp
  | cons r l ih =>
    have := r.frame_pos
    rw [frsR_cons, List.length_append, List.length_cons]
    omega
theorem prefix_both {α : Type} {a b l : List α} (ha : a <+: l) (hb : b <+: l) : ∃ x y, a ++ x = b ++ y := by
  obtain ⟨x, hx⟩ := ha
  obtain ⟨y, hy⟩ := hb
  exact ⟨x, y, hx.trans hy.symm⟩
theorem prefix_of_le {α : Type} {a b l : List α} (ha : a <+: l) (hb : b <+: l) (h : a.length ≤ b.length) : a <+: b := List.prefix_of_prefix_length_le ha hb h
/-- What a beginning of records' frames tells. -/
theorem ents_prefix : ∀ (rs all : List Rc) (G rest : List UInt8), (∀ r ∈ rs, r.Ok) → (∀ r ∈ all, r.Ok) → G <+: frsR all → G = frsR rs ++ rest → (∀ r : Rc, r.Ok → ¬ r.frame <+: rest) →
    ∃ k, k ≤ all.length ∧ rs = all.take k ∧ ∀ j, j ≤ all.length → (frsR (all.take j)).length ≤ G.length → j ≤ k
  | [], all, G, rest, _, hall, hG, he, hno => by
    refine ⟨0, Nat.zero_le _, rfl, fun j hj hl => ?_⟩
    rcases Nat.eq_zero_or_pos j with h0 | hpos
    · omega
    · exfalso
      cases all with
      | nil => simp at hj; omega
      | cons a all =>
        obtain ⟨i, rfl⟩ : ∃ i, j = i + 1 := ⟨j - 1, by omega⟩
        rw [List.take_succ_cons, frsR_cons, List.length_append] at hl
        rw [frsR_nil, List.nil_append] at he
        subst he
        refine hno a (hall a (List.mem_cons_self ..)) (prefix_of_le ?_ hG (by omega))
        rw [frsR_cons]
        exact List.prefix_append _ _
  | r :: rs, all, G, rest, hrs, hall, hG, he, hno => by
    cases all with
    | nil =>
      exfalso
      have := hG.length_le
      have h2 := r.frame_pos
      rw [he, frsR_cons, frsR_nil, List.length_append, List.length_append, List.length_nil] at this
      omega
    | cons a all =>
      have hr : r.frame <+: frsR (a :: all) := by
        refine List.IsPrefix.trans ?_ hG
        rw [he, frsR_cons, List.append_assoc]
        exact List.prefix_append _ _
      have ha : a.frame <+: frsR (a :: all) := by rw [frsR_cons]; exact List.prefix_append _ _
      obtain ⟨x, y, hxy⟩ := prefix_both hr ha
      obtain rfl := frame_inj (hrs r (List.mem_cons_self ..)) (hall a (List.mem_cons_self ..)) hxy
      have hG' : frsR rs ++ rest <+: frsR all := by
        rw [he, frsR_cons, frsR_cons, List.append_assoc] at hG
        exact (List.prefix_append_right_inj _).1 hG
      obtain ⟨k, h1, h2, h3⟩ := ents_prefix rs all (frsR rs ++ rest) rest (fun x hx => hrs x (List.mem_cons_of_mem _ hx)) (fun x hx => hall x (List.mem_cons_of_mem _ hx)) hG' rfl hno
      refine ⟨k + 1, by rw [List.length_cons]; omega, by rw [List.take_succ_cons, ← h2], fun j hj hl => ?_⟩
      cases j with
      | zero => omega
      | succ j =>
        rw [List.take_succ_cons, frsR_cons, List.length_append, he, frsR_cons, List.append_assoc, List.length_append] at hl
        have := h3 j (by simpa using hj) (by omega)
        omega
/-- All of them, where all is there. -/
theorem ents_all {rs all : List Rc} {G rest : List UInt8} (hrs : ∀ r ∈ rs, r.Ok) (hall : ∀ r ∈ all, r.Ok) (hG : G = frsR all) (he : G = frsR rs ++ rest) (hno : ∀ r : Rc, r.Ok → ¬ r.frame <+: rest) : rs = all ∧ rest = [] := by
  obtain ⟨k, h1, h2, h3⟩ := ents_prefix rs all G rest hrs hall (by rw [hG]; exact List.prefix_refl _) he hno
  have := h3 all.length (Nat.le_refl _) (by rw [List.take_length, hG]; exact Nat.le_refl _)
  obtain rfl : k = all.length := by omega
  rw [List.take_length] at h2
  subst h2
  refine ⟨rfl, ?_⟩
  rw [hG] at he
  exact (List.append_right_eq_self.1 he.symm)
end
section
/- Records in a slice, their cells in blocks of a set: what keeps such a reading; entries. -/
open Go.RowKit
set_option maxRecDepth 20000
set_option linter.unusedSimpArgs false
set_option linter.unusedVariables false

/-- v reads as xs, its array in a block of X. -/
def RIn (w : World) (X : Nat → Prop) (v : Value) (xs : List Value) : Prop :=
  ∃ A c, v = .slice A xs.length c ∧ xs.length ≤ c ∧ (0 < xs.length → ∃ b o, A = some ⟨b, o, none⟩ ∧ b < w.heap.size ∧ X b ∧ ∀ j u, xs[j]? = some u → w.cell? ⟨b, o + j, none⟩ = some u)
theorem RIn.rd {w : World} {X : Nat → Prop} {v : Value} {xs : List Value} (h : RIn w X v xs) : Rd w v xs := by
  obtain ⟨A, c, e, hc, h⟩ := h
  exact ⟨A, c, e, hc, fun hn => by obtain ⟨b, o, e, hb, _, hr⟩ := h hn; exact ⟨b, o, e, hb, hr⟩⟩
theorem RIn.keep {w w' : World} {X Y : Nat → Prop} {v : Value} {xs : List Value} (h : RIn w X v xs) (hk : ∀ p : Addr, p.block < w.heap.size → X p.block → w'.cell? p = w.cell? p) (hs : w.heap.size ≤ w'.heap.size) (hY : ∀ k, k < w.heap.size → X k → Y k) : RIn w' Y v xs := by
  obtain ⟨A, c, e, hc, h⟩ := h
  refine ⟨A, c, e, hc, fun hn => ?_⟩
  obtain ⟨b, o, e, hb, hx, hr⟩ := h hn
  exact ⟨b, o, e, Nat.lt_of_lt_of_le hb hs, hY b hb hx, fun j u hu => (hk ⟨b, o + j, none⟩ hb hx).trans (hr j u hu)⟩
theorem RIn.of_row {w : World} {B : Nat} {v : Value} {xs : List Value} (h : Row w B v xs) (hB : B ≤ w.heap.size) : RIn w (fun k => k < B) v xs := by
  obtain ⟨A, c, e, hc, h⟩ := h
  refine ⟨A, c, e, hc, fun hn => ?_⟩
  obtain ⟨b, o, e, hb, hr⟩ := h hn
  exact ⟨b, o, e, by omega, hb, hr⟩
theorem RIn.of_rd {w : World} {v : Value} {xs : List Value} (h : Rd w v xs) : RIn w (fun k => k < w.heap.size) v xs := RIn.of_row h (Nat.le_refl _)
theorem RIn.of_btw {w : World} {lo hi : Nat} {v : Value} {xs : List Value} (h : Btw w lo hi v xs) (hB : hi ≤ w.heap.size) : RIn w (fun k => lo ≤ k ∧ k < hi) v xs := by
  obtain ⟨A, c, e, hc, h⟩ := h
  refine ⟨A, c, e, hc, fun hn => ?_⟩
  obtain ⟨b, o, e, hlo, hhi, hr⟩ := h hn
  exact ⟨b, o, e, by omega, ⟨hlo, hhi⟩, hr⟩
/-- What a record's cells are, its slice told. -/
def rcv (r : Rc) (D : Value) : List Value := [.int .i64 (r.k : Int), .int .i64 (r.t : Int), .int .i64 (r.p : Int), .int .i64 (r.s : Int), .string r.b, .string r.a, .string r.i, D]
/-- v is a slice of records, n cells each, of which the first ones are the record's. -/
def RecsN (n : Nat) (w : World) (X : Nat → Prop) (v : Value) (rs : List Rc) : Prop :=
  ∃ A c, v = .slice A rs.length c ∧ rs.length ≤ c ∧ (0 < rs.length → ∃ b o, A = some ⟨b, o, none⟩ ∧ b < w.heap.size ∧ X b ∧ ∀ j r, rs[j]? = some r → ∃ D, w.rangeAt b (o + j * n) (rcv r D) ∧ RIn w X D (u64s r.ds))
abbrev RecsAt (w : World) (X : Nat → Prop) (v : Value) (rs : List Rc) : Prop := RecsN 8 w X v rs
theorem rangeAt_keep {w w' : World} {b o : Nat} {l : List Value} (h : w.rangeAt b o l) (hk : ∀ p : Addr, p.block = b → w'.cell? p = w.cell? p) : w'.rangeAt b o l := fun j u hu => (hk _ rfl).trans (h j u hu)
section
variable {n : Nat} {w w' : World} {X Y : Nat → Prop} {v : Value} {rs : List Rc}
theorem RecsN.keep (h : RecsN n w X v rs) (hk : ∀ p : Addr, p.block < w.heap.size → X p.block → w'.cell? p = w.cell? p) (hs : w.heap.size ≤ w'.heap.size) (hY : ∀ k, k < w.heap.size → X k → Y k) : RecsN n w' Y v rs := by
  obtain ⟨A, c, e, hc, h⟩ := h
  refine ⟨A, c, e, hc, fun hn => ?_⟩
  obtain ⟨b, o, e, hb, hx, hr⟩ := h hn
  refine ⟨b, o, e, Nat.lt_of_lt_of_le hb hs, hY b hb hx, fun j r hj => ?_⟩
  obtain ⟨D, h1, h2⟩ := hr j r hj
  exact ⟨D, rangeAt_keep h1 (fun p hp => hk p (by omega) (by rw [hp]; exact hx)), h2.keep hk hs hY⟩
theorem RecsN.below (h : RecsN n w X v rs) (hb : Below w.heap.size w w') : RecsN n w' X v rs := h.keep (fun p hp _ => hb.cell hp) hb.size (fun _ _ h => h)
theorem RecsN.out (h : RecsN n w X v rs) (ho : Out X w w') : RecsN n w' X v rs := h.keep (fun p hp hx => Kept.cell ho hp (fun hn => hn hx)) ho.size (fun _ _ h => h)
theorem RecsN.sub (h : RecsN n w X v rs) (hY : ∀ k, k < w.heap.size → X k → Y k) : RecsN n w Y v rs := h.keep (fun _ _ _ => rfl) (Nat.le_refl _) hY
theorem RecsN.nil_ (w : World) (X : Nat → Prop) : RecsN n w X (.slice none 0 0) [] := ⟨none, 0, rfl, Nat.le_refl _, fun h => absurd h (by simp)⟩
theorem RecsN.form (h : RecsN n w X v rs) : ∃ A c, v = .slice A rs.length c ∧ rs.length ≤ c := by
  obtain ⟨A, c, e, hc, _⟩ := h
  exact ⟨A, c, e, hc⟩
/-- One of them. -/
theorem RecsN.get {A : Option Addr} {c m : Nat} (h : RecsN n w X (.slice A m c) rs) {j : Nat} {r : Rc} (hj : rs[j]? = some r) : ∃ b o, A = some ⟨b, o, none⟩ ∧ b < w.heap.size ∧ X b ∧ ∃ A2 c2, w.rangeAt b (o + j * n) [.int .i64 (r.k : Int), .int .i64 (r.t : Int), .int .i64 (r.p : Int), .int .i64 (r.s : Int), .string r.b, .string r.a, .string r.i, .slice A2 r.ds.length c2] ∧ RIn w X (.slice A2 r.ds.length c2) (u64s r.ds) := by
  have hlt := (List.getElem?_eq_some_iff.1 hj).1
  obtain ⟨A', c', e, hc, h⟩ := h
  injection e with e1 e2 e3
  subst e1 e3
  obtain ⟨b, o, e, hb, hx, hr⟩ := h (by omega)
  obtain ⟨D, h1, h2⟩ := hr j r hj
  obtain ⟨A2, c2, eD, _, _⟩ := id h2
  subst eD
  rw [u64s_length] at h1 h2
  exact ⟨b, o, e, hb, hx, A2, c2, h1, h2⟩
end
/-- A record's right, as a test. -/
def Rc.okB (r : Rc) : Bool := rightB r.k r.t r.p r.s r.b r.a r.i r.ds.length
theorem Rc.Ok.okB {r : Rc} (h : r.Ok) : r.okB = true := h.rightB
end
section
/- Contracts: frames; a lane's Append. -/
open Go.RowKit
set_option maxRecDepth 20000
set_option linter.unusedSimpArgs false
set_option linter.unusedVariables false

/-- The error that records are refused with. -/
def frCode (rs : List Rc) (room : Nat) : Int := if ∀ r ∈ rs, r.okB = true then (if (frsR rs).length ≤ room then 0 else 7) else 1
theorem ok_of {r : Rc} (h : r.okB = true) (hu : ∀ x ∈ r.ds, x < 18446744073709551616) : r.Ok := by
  refine (Rc.right_iff r).1 ?_
  unfold Rc.right
  rw [Bool.and_eq_true, List.all_eq_true]
  exact ⟨h, fun x hx => decide_eq_true (hu x hx)⟩
theorem frsR_succ {rs : List Rc} {j : Nat} {r : Rc} (h : rs[j]? = some r) : frsR (rs.take (j + 1)) = frsR (rs.take j) ++ r.frame := by
  obtain ⟨hj, rfl⟩ := List.getElem?_eq_some_iff.1 h
  rw [List.take_succ_eq_append_getElem hj, frsR_append, frsR_one]
end
section
/- Contracts: a lane's Append. -/
open Go.RowKit
set_option maxRecDepth 20000
set_option linter.unusedSimpArgs false
set_option linter.unusedVariables false

/-- It is a slice of this one record. -/
def Say.rec1 (r : Rc) : Say := ⟨fun w v => ∃ A c, v = .slice A 1 c ∧ RecsAt w (fun _ => True) (.slice A 1 c) [r], fun _ _ _ ⟨A, c, e, h⟩ hb => ⟨A, c, e, h.below hb⟩⟩
theorem rangeAt_new (w : World) (cs : Array Value) (t : TypeId) : (w.alloc (.cells cs t)).rangeAt w.heap.size 0 cs.toList := fun j u hu => by
  rw [Nat.zero_add]
  exact (Blk.new_ w cs t rfl).cell j u (by simpa using hu)
/-- What frames answers. -/
def Say.frs (c0 : Int) (B : Nat) (F : List UInt8) : Say := ⟨fun w v => ∃ A n c, v = .tuple #[.slice A n c, .int .i64 c0] ∧ (c0 = 0 → n = F.length ∧ Mine w B (.slice A n c) F), fun _ _ _ ⟨A, n, c, e, h⟩ hb => ⟨A, n, c, e, fun h0 => ⟨(h h0).1, (h h0).2.below hb⟩⟩⟩
def Say.frb (c0 : Int) (B : Nat) (F : List UInt8) : Say := ⟨fun w v => ∃ A n c, v = .slice A n c ∧ (c0 = 0 → n = F.length ∧ Mine w B (.slice A n c) F), fun _ _ _ ⟨A, n, c, e, h⟩ hb => ⟨A, n, c, e, fun h0 => ⟨(h h0).1, (h h0).2.below hb⟩⟩⟩
end
section
/- Two lanes over one disk, the second one for a while; what Anew does. -/
open Go.RowKit
set_option maxRecDepth 20000
set_option linter.unusedSimpArgs false
set_option linter.unusedVariables false

section
variable {w w' : World} {X Y : Nat → Prop} {dg : Nat} {d d' : Ds} {g g2 : Nat} {l n n' : Ln} {kv kvn kvn' : Value} {gr : Rg} {k : Nat}
end
/-- A struct stored over a block that is known whole. -/
theorem store_whole {ops : Array Oper} {rest : List Oper} {op : Oper} {a : Act} {w : World} {Q : Exit → Act → World → Prop} (ty : TypeId) (x y : Operand) (g n : Nat) (cs cells : Array Value) (hgd : op.guard = none) (ho : op.op = .store ty x y) (hb : Blk w g ty cs) (hz : cs.size = n) (hc : cells.size = n)
    (hx : a.eval x = .pointer (some ⟨g, 0, none⟩)) (hy : a.eval y = .agg cells) (hi : (Try.prog.info? ty).map (·.size) = some n) (h1 : cells.all (·.oneCell') = true)
    (h : ∀ W, Kept (fun k => k = g) w W → Blk W g ty cells → wpList Try.prog ops Q rest (a.put op.dst undef) W) : wpList Try.prog ops Q (op :: rest) a w := by
  refine wpList_store_mid hgd ty x y ho g 0 cells hx hy (hb.there (by omega)) (by rw [hi, hc]) h1 ?_
  refine h _ (Kept.setCells _ _ _ _) ?_
  have := Blk.setCells cells.toList 0 _ _ hb (by simp; omega)
  have e : (cs.toList.take 0 ++ (cells.toList ++ cs.toList.drop (0 + cells.toList.length))).toArray = cells := by
    have : cs.toList.drop (0 + cells.toList.length) = [] := List.drop_eq_nil_of_le (by simp; omega)
    rw [this]
    simp
  rw [e] at this
  exact this
theorem cells_one (l : Ln) (dg : Nat) (A : Option Addr) (n c : Nat) : ((l.cells dg (.slice A n c)).all fun x => x.oneCell') = true := by
  simp [Ln.cells, ptr, Value.oneCell']
/-- The lane that Anew lays. -/
def Ln.next (l : Ln) (F : List UInt8) : Ln := ⟨l.r, 1 - l.bank, l.gen + 1, 0, F, 0, false⟩
end
section
/- Contract: a lane's Anew. -/
open Go.RowKit
set_option maxRecDepth 20000
set_option linter.unusedSimpArgs false
set_option linter.unusedVariables false

/-- What Anew does: S are the sectors that it finds. -/
def anewT (l : Ln) (F : List UInt8) (S : List Sec) : List Do := cleanD (l.next F) S ((l.next F).first + (l.next F).nsec) ++ (hardD (l.next F) ++ ([headD (l.next F).hard] ++ [.bar]))
def anewR (l : Ln) (F : List UInt8) (gr : Rg) : Rg × Bool := if (gr.run (recallD l)).2 then (gr.run (recallD l)).1.run (anewT l F (gr.run (recallD l)).1.secs) else gr.run (recallD l)
theorem anew_no {l : Ln} {F : List UInt8} {gr g1 : Rg} (h : gr.run (recallD l) = (g1, false)) : anewR l F gr = (g1, false) := by unfold anewR; rw [h]; rfl
theorem anew_yes {l : Ln} {F : List UInt8} {gr g1 : Rg} (h : gr.run (recallD l) = (g1, true)) : anewR l F gr = g1.run (anewT l F g1.secs) := by unfold anewR; rw [h]; rfl
theorem Next.to_fit {l : Ln} (h : l.Fit) {F : List UInt8} (hF : F.length ≤ 14336) (hg : l.gen + 1 ≤ 1000000) : (l.next F).Fit := ⟨h.r, by show 1 - l.bank ≤ 1; omega, hg, by show 0 * 56 + F.length ≤ 14336; omega⟩
theorem Ln.Fit.hard {l : Ln} (h : l.Fit) : l.hard.Fit := by
  refine ⟨h.r, h.bank, h.gen, ?_⟩
  have := h.len
  unfold Ln.len Ln.hard Ln.full at *
  show (l.first + l.kept.length / 56) * 56 + (l.kept.drop (l.kept.length / 56 * 56)).length ≤ 14336
  rw [List.length_drop]
  omega
theorem fr_len {rs : List Rc} {room : Nat} (h : frCode rs room = 0) : (frsR rs).length ≤ room := by
  unfold frCode at h
  split at h
  · split at h
    · assumption
    · exact absurd h (by decide)
  · exact absurd h (by decide)
theorem fr_ok {rs : List Rc} {room : Nat} (h : frCode rs room = 0) : ∀ r ∈ rs, r.okB = true := by
  unfold frCode at h
  split at h
  · assumption
  · exact absurd h (by decide)

end
section
/- Contracts: what Anew refuses; New; find. -/
open Go.RowKit
set_option maxRecDepth 20000
set_option linter.unusedSimpArgs false
set_option linter.unusedVariables false

def checkR : Rc := ⟨1, 0, 0, 0, ⟨#[]⟩, ⟨#[]⟩, ⟨#[]⟩, []⟩
theorem checkR_ok : checkR.Ok := (Rc.right_iff _).1 (by decide)
theorem checkR_frame : checkR.frame.length = 11 := by rw [Rc.frame_length]; rfl
theorem fr_code {rs : List Rc} {room : Nat} (h : ∀ r ∈ rs, r.Ok) (hl : (frsR rs).length ≤ room) : frCode rs room = 0 := by
  unfold frCode
  rw [if_pos (fun r hr => (h r hr).okB), if_pos hl]
theorem fr_quota {rs : List Rc} {room : Nat} (h : ∀ r ∈ rs, r.Ok) (hl : room < (frsR rs).length) : frCode rs room = 7 := by
  unfold frCode
  rw [if_pos (fun r hr => (h r hr).okB), if_neg (by omega)]
theorem fr_bad {rs : List Rc} {room : Nat} {r : Rc} (h : r ∈ rs) (hb : r.okB = false) : frCode rs room = 1 := by
  unfold frCode
  rw [if_neg]
  intro hc
  have := hc r h
  rw [hb] at this
  cases this
/-- The lane that New begins with. -/
def ln0 (r : Nat) : Ln := ⟨r, 1, 0, 0, [], 0, false⟩
theorem ln0_fit {r : Nat} (h : r < 64) : (ln0 r).Fit := ⟨h, Nat.le_refl _, Nat.zero_le _, Nat.zero_le _⟩
theorem rin_nil (w : World) (X : Nat → Prop) (c : Nat) (A : Option Addr) : RIn w X (.slice A 0 c) (u64s []) := ⟨A, c, rfl, Nat.zero_le _, fun h => absurd h (by simp [u64s])⟩
def CK : Array Value := #[.int .i64 1, .int .i64 0, .int .i64 0, .int .i64 0, .string ⟨#[]⟩, .string ⟨#[]⟩, .string ⟨#[]⟩, .slice none 0 0]

theorem num4_sec (b : Sec) (h : b.length = 64) : (⟨b, false⟩ : St).num 4 = gn b := (num_sec b h).1
end
section
/- Contract: a lane's entries. -/
open Go.RowKit
set_option maxRecDepth 20000
set_option linter.unusedSimpArgs false
set_option linter.unusedVariables false

theorem decB_yes {l : List UInt8} (h : decB l = true) : ∃ z : Rc, readR (l.take 395) = z ∧ z.Ok ∧ z.frame <+: l := by
  unfold decB at h
  rw [Bool.and_eq_true, decide_eq_true_eq] at h
  exact ⟨_, rfl, (Rc.right_iff _).1 h.1, h.2⟩
/-- It is a slice of one element, in a block of its own. -/
def Say.one (B : Nat) (t : TypeId) (cs : Array Value) : Say := ⟨fun w v => ∃ g, v = .slice (some ⟨g, 0, none⟩) 1 1 ∧ B ≤ g ∧ Blk w g t cs, fun _ _ _ ⟨g, e, hg, h⟩ hb => ⟨g, e, hg, h.below hb⟩⟩
/-- An entry's cells: the record, its numbers where they lie, its place. -/
abbrev En := Rc × Value × Nat
def ecell (e : En) : List Value := rcv e.1 e.2.1 ++ [.int .u64 (e.2.2 : Int)]
theorem ecell_length (e : En) : (ecell e).length = 9 := rfl
theorem ecell_one (r : Rc) (A : Option Addr) (n c p : Nat) : ∀ u ∈ ecell (r, .slice A n c, p), u.oneCell' = true := by
  intro u hu
  simp [ecell, rcv] at hu
  rcases hu with rfl | rfl | rfl | rfl | rfl | rfl | rfl | rfl | rfl <;> rfl
theorem own_shape {w : World} {B : Nat} {e : TypeId} {s : Nat} {v : Value} {n : Nat} {xs : List Value} (h : w.ownsRow B e s v n xs) : ∃ A c, v = .slice A n c := by
  rcases h.2 with ⟨rfl, h0⟩ | ⟨g', cap, cur, rfl, _⟩
  · exact ⟨none, 0, by rw [h0]⟩
  · exact ⟨_, _, rfl⟩
/-- Entries, told: their records, their places, their numbers in blocks of X. -/
structure Ents (w : World) (X : Nat → Prop) (gen : Nat) (es : List En) : Prop where
  ok : ∀ e ∈ es, e.1.Ok
  place : ∀ j e, es[j]? = some e → e.2.2 = gen * 1048576 + (frsR ((es.map (·.1)).take j)).length + 1
  nums : ∀ e ∈ es, RIn w X e.2.1 (u64s e.1.ds)
theorem Ents.loose {w : World} {B gen : Nat} {o : Option Nat} {es : List En} (h : Ents w (fun k => B ≤ k ∧ o ≠ some k) gen es) : Ents w (fun k => B ≤ k) gen es := ⟨h.ok, h.place, fun e he => (h.nums e he).keep (fun _ _ _ => rfl) (Nat.le_refl _) (fun _ _ h => h.1)⟩
/-- One more, the row perhaps laid anew. -/
theorem Ents.more {w w2 w' : World} {B gen lo hi at_ : Nat} {u v D : Value} {r : Rc} {es : List En} (h : ∀ e ∈ es, RIn w (fun k => B ≤ k ∧ u.ownBlock ≠ some k) e.2.1 (u64s e.1.ds)) (hok : ∀ e ∈ es, e.1.Ok) (hpl : ∀ j e, es[j]? = some e → e.2.2 = gen * 1048576 + (frsR ((es.map (·.1)).take j)).length + 1)
    (hD : RIn w (fun k => lo ≤ k ∧ k < hi) D (u64s r.ds)) (hr : r.Ok) (hB : B ≤ lo) (hlo : ∀ k, u.ownBlock = some k → k < lo) (hhi : hi ≤ w.heap.size) (hat : (frsR (es.map (·.1))).length = at_) (hb : Below w.heap.size w w2) (hg : w2.grownBy w' u.ownBlock) (hv : v.ownBlock = u.ownBlock ∨ v.ownBlock = some w2.heap.size) :
    Ents w' (fun k => B ≤ k ∧ v.ownBlock ≠ some k) gen (es ++ [(r, D, gen * 1048576 + at_ + 1)]) := by
  have hcell : ∀ p : Addr, p.block < w.heap.size → u.ownBlock ≠ some p.block → w'.cell? p = w.cell? p := fun p hp hne =>
    (World.cell?_of_block (hg.block p.block (Nat.lt_of_lt_of_le hp hb.size) (fun e => hne e.symm))).trans (hb.cell hp)
  have hs : w.heap.size ≤ w'.heap.size := Nat.le_trans hb.size hg.size
  have hne : ∀ k, k < w.heap.size → u.ownBlock ≠ some k → v.ownBlock ≠ some k := by
    intro k hk hn
    rcases hv with e | e
    · rwa [e]
    · rw [e]; intro e2; injection e2 with e2; have := hb.size; omega
  refine ⟨fun e he => ?_, fun j e hj => ?_, fun e he => ?_⟩
  · rcases List.mem_append.1 he with h1 | h1
    · exact hok e h1
    · obtain rfl := List.mem_singleton.1 h1; exact hr
  · rw [List.map_append]
    rcases Nat.lt_or_ge j es.length with h1 | h1
    · rw [List.getElem?_append_left h1] at hj
      rw [List.take_append_of_le_length (by rw [List.length_map]; omega)]
      exact hpl j e hj
    · have hj' := (List.getElem?_eq_some_iff.1 hj).1
      rw [List.length_append, List.length_singleton] at hj'
      obtain rfl : j = es.length := by omega
      rw [List.getElem?_append_right (Nat.le_refl _), Nat.sub_self] at hj
      obtain rfl : (r, D, gen * 1048576 + at_ + 1) = e := by simpa using hj
      rw [List.take_left' (by rw [List.length_map]), hat]
  · rcases List.mem_append.1 he with h1 | h1
    · exact (h e h1).keep (fun p hp hx => hcell p hp hx.2) hs (fun k hk hx => ⟨hx.1, hne k hk hx.2⟩)
    · obtain rfl := List.mem_singleton.1 h1
      have hu : ∀ k, lo ≤ k → u.ownBlock ≠ some k := fun k hk e => by have := hlo k e; omega
      exact hD.keep (fun p hp hx => hcell p hp (hu _ hx.1)) hs (fun k hk hx => ⟨by omega, hne k hk (hu k hx.1)⟩)
theorem flat_at (es : List En) : ∀ (j : Nat) (e : En) (i : Nat), es[j]? = some e → i < 9 → (es.flatMap ecell)[j * 9 + i]? = (ecell e)[i]? := by
  induction es with
  | nil => intro j e i h; simp at h
  | cons x es ih =>
    intro j e i h hi
    rw [List.flatMap_cons]
    cases j with
    | zero =>
      obtain rfl : x = e := by simpa using h
      rw [List.getElem?_append_left (by rw [ecell_length]; omega), Nat.zero_mul, Nat.zero_add]
    | succ j =>
      rw [List.getElem?_append_right (by rw [ecell_length]; omega), ecell_length, show (j + 1) * 9 + i - 9 = j * 9 + i by omega]
      exact ih j e i (by simpa using h) hi
/-- v is a slice of entries, in blocks of X. -/
def EntsAt (w : World) (X : Nat → Prop) (v : Value) (gen : Nat) (rs : List Rc) : Prop :=
  RecsN 9 w X v rs ∧ ∀ b o n c, v = .slice (some ⟨b, o, none⟩) n c → ∀ j, j < rs.length → w.cell? ⟨b, o + j * 9 + 8, none⟩ = some (.int .u64 ((gen * 1048576 + (frsR (rs.take j)).length + 1 : Nat) : Int))
theorem EntsAt.keep {w w' : World} {X Y : Nat → Prop} {v : Value} {gen : Nat} {rs : List Rc} (h : EntsAt w X v gen rs) (hk : ∀ p : Addr, p.block < w.heap.size → X p.block → w'.cell? p = w.cell? p) (hs : w.heap.size ≤ w'.heap.size) (hY : ∀ k, k < w.heap.size → X k → Y k) : EntsAt w' Y v gen rs := by
  refine ⟨h.1.keep hk hs hY, fun b o n c e j hj => ?_⟩
  obtain ⟨A, c', e', _, hr⟩ := h.1
  obtain ⟨b', o', e2, hb, hx, _⟩ := hr (by omega)
  have hb' : b = b' := by rw [e, e2] at e'; injection e' with e'; injection e' with e'; injection e'
  subst hb'
  exact (hk ⟨b, o + j * 9 + 8, none⟩ hb hx).trans (h.2 b o n c e j hj)
theorem EntsAt.out {w w' : World} {X : Nat → Prop} {v : Value} {gen : Nat} {rs : List Rc} (h : EntsAt w X v gen rs) (ho : Out X w w') : EntsAt w' X v gen rs := h.keep (fun p hp hx => Kept.cell ho hp (fun hn => hn hx)) ho.size (fun _ _ h => h)
theorem EntsAt.sub {w : World} {X Y : Nat → Prop} {v : Value} {gen : Nat} {rs : List Rc} (h : EntsAt w X v gen rs) (hY : ∀ k, k < w.heap.size → X k → Y k) : EntsAt w Y v gen rs := h.keep (fun _ _ _ => rfl) (Nat.le_refl _) hY
theorem EntsAt.below {w w' : World} {X : Nat → Prop} {v : Value} {gen : Nat} {rs : List Rc} (h : EntsAt w X v gen rs) (hb : Below w.heap.size w w') : EntsAt w' X v gen rs := h.keep (fun p hp _ => hb.cell hp) hb.size (fun _ _ h => h)

end
section
/- Contracts: a lane's mend; Open. -/
open Go.RowKit
set_option maxRecDepth 20000
set_option linter.unusedSimpArgs false
set_option linter.unusedVariables false

def mendP (l : Ln) (cut : Bool) : List Do := if cut then keptD l else []
def mendR (l : Ln) (cut : Bool) (gr : Rg) : Rg × Bool := if (gr.run (mendP l cut)).2 then (gr.run (mendP l cut)).1.run (cleanD l (gr.run (mendP l cut)).1.secs (l.first + l.nsec) ++ [.bar]) else gr.run (mendP l cut)
theorem mend_no {l : Ln} {cut : Bool} {gr g1 : Rg} (h : gr.run (mendP l cut) = (g1, false)) : mendR l cut gr = (g1, false) := by unfold mendR; rw [h]; rfl
theorem mend_yes {l : Ln} {cut : Bool} {gr g1 : Rg} (h : gr.run (mendP l cut) = (g1, true)) : mendR l cut gr = g1.run (cleanD l g1.secs (l.first + l.nsec) ++ [.bar]) := by unfold mendR; rw [h]; rfl
theorem sure_r (l : Ln) (n : Nat) (b : Bool) : (sel b (l.setSure n) l).r = l.r := by cases b <;> rfl

end
section
/- Contract: Open. -/
open Go.RowKit
set_option maxRecDepth 20000
set_option linter.unusedSimpArgs false
set_option linter.unusedVariables false

/-- The lane that is found, of a stream of which the first e bytes are records. -/
def openL (r : Nat) (b : Sec) (st : List UInt8) (e : Nat) : Ln := ⟨r, sN b, gn b, e / 56, (st.drop (e / 56 * 56)).take (e - e / 56 * 56), 0, false⟩
def openB (r : Nat) (b : Sec) (st : List UInt8) (e : Nat) (gr : Rg) : Rg × Bool := mendR (openL r b st e) (decide (e < st.length)) gr
theorem openL_len (r : Nat) (b : Sec) (st : List UInt8) (e : Nat) (h : e ≤ st.length) : (openL r b st e).kept.length = e - e / 56 * 56 := by
  show ((st.drop (e / 56 * 56)).take (e - e / 56 * 56)).length = _
  rw [List.length_take, List.length_drop]
  omega
theorem openL_fit {r : Nat} {b : Sec} {st : List UInt8} {e : Nat} (hr : r < 64) (h1 : sN b ≤ 1) (h2 : gn b ≤ 1000000) (he : e ≤ st.length) (hs : st.length ≤ 14336) : (openL r b st e).Fit := by
  refine ⟨hr, h1, h2, ?_⟩
  unfold Ln.len
  rw [openL_len r b st e he]
  show e / 56 * 56 + _ ≤ _
  omega
/-- And where the region has gone down. -/
def OpenNo (w : World) (X : Nat → Prop) (dg : Nat) (d : Ds) (r : Nat) (b : Sec) (st : List UInt8) (rs : List Rc) (gr : Rg) (k : Nat) (e : Ending) (w' : World) : Prop :=
  ∃ (d' : Ds), e = .returned (.tuple #[.pointer none, .slice none 0 0, .int .i64 10]) ∧ Next d r (openB r b st (frsR rs).length gr).1 k d' ∧ Many w' X [(dg, d')] ∧ Out X w w'
def OpenOut (ok : Bool) (p q : Prop) : Prop := cond ok p q
end
section
/- What a lane is through its calls and through crashes (plain data; nothing of the program). -/
open Go.RowKit
set_option maxRecDepth 20000
set_option linter.unusedSimpArgs false
set_option linter.unusedVariables false

/-! ### Writes alone. -/
def wsOf : List Do → List (Nat × Sec)
  | [] => []
  | .w s b :: os => (s, b) :: wsOf os
  | .bar :: os => wsOf os
def allW (os : List Do) : Prop := ∀ o ∈ os, o ≠ .bar
theorem wsOf_append (a b : List Do) : wsOf (a ++ b) = wsOf a ++ wsOf b := by
  induction a with
  | nil => rfl
  | cons o a ih => cases o <;> simp [wsOf, ih]
theorem wsOf_mem {os : List Do} {x : Nat × Sec} (h : x ∈ wsOf os) : Do.w x.1 x.2 ∈ os := by
  induction os with
  | nil => cases h
  | cons o os ih =>
    cases o with
    | w s b =>
      rcases List.mem_cons.1 h with rfl | h
      · exact List.mem_cons_self ..
      · exact List.mem_cons_of_mem _ (ih h)
    | bar => exact List.mem_cons_of_mem _ (ih h)
theorem wsOf_of {os : List Do} {s : Nat} {b : Sec} (h : Do.w s b ∈ os) : (s, b) ∈ wsOf os := by
  induction os with
  | nil => cases h
  | cons o os ih =>
    rcases List.mem_cons.1 h with h1 | h1
    · subst h1; exact List.mem_cons_self ..
    · cases o with
      | w s' b' => exact List.mem_cons_of_mem _ (ih h1)
      | bar => exact ih h1
theorem run_writes : ∀ (os : List Do) (g : Rg), allW os → (g.run os).1.base = g.base ∧ (∃ k, (g.run os).1.ws = g.ws ++ (wsOf os).take k) ∧ ((g.run os).2 = true → (g.run os).1.ws = g.ws ++ wsOf os)
  | [], g, _ => ⟨rfl, ⟨0, by simp [run_nil]⟩, fun _ => by simp [run_nil, wsOf]⟩
  | o :: os, g, h => by
    cases o with
    | bar => exact absurd rfl (h _ (List.mem_cons_self ..))
    | w s b =>
      rw [run_cons]
      split
      · exact ⟨rfl, ⟨0, by simp⟩, fun h => by cases h⟩
      · obtain ⟨h1, ⟨k, h2⟩, h3⟩ := run_writes os (g.go1 (.w s b)) (fun o ho => h o (List.mem_cons_of_mem _ ho))
        refine ⟨h1, ⟨k + 1, ?_⟩, fun hk => ?_⟩
        · rw [h2]
          show g.ws ++ [(s, b)] ++ _ = g.ws ++ ((s, b) :: _).take (k + 1)
          rw [List.take_succ_cons, List.append_assoc]
          rfl
        · rw [h3 hk]
          show g.ws ++ [(s, b)] ++ _ = g.ws ++ ((s, b) :: _)
          rw [List.append_assoc]
          rfl
theorem put_get (ws : List (Nat × Sec)) : ∀ (l : List Sec) (i : Nat), (put l ws)[i]? = l[i]? ∨ ∃ b, (i, b) ∈ ws ∧ (put l ws)[i]? = some b := by
  induction ws with
  | nil => intro l i; exact .inl rfl
  | cons x ws ih =>
    intro l i
    rw [put_cons]
    rcases ih (l.set x.1 x.2) i with h | ⟨b, h1, h2⟩
    · rw [List.getElem?_set] at h
      by_cases e : x.1 = i
      · rw [if_pos e] at h
        split at h
        · exact .inr ⟨x.2, by rw [← e]; exact List.mem_cons_self .., h⟩
        · left
          rw [h]
          rename_i hlt
          rw [List.getElem?_eq_none (by omega)]
      · rw [if_neg e] at h
        exact .inl h
    · exact .inr ⟨b, List.mem_cons_of_mem _ h1, h2⟩
theorem put_none {ws : List (Nat × Sec)} {l : List Sec} {i : Nat} (h : ∀ b, (i, b) ∉ ws) : (put l ws)[i]? = l[i]? := by
  rcases put_get ws l i with h1 | ⟨b, h1, _⟩
  · exact h1
  · exact absurd h1 (h b)
theorem put_some {ws : List (Nat × Sec)} {i : Nat} {b : Sec} (h : (i, b) ∈ ws) (hu : ∀ b', (i, b') ∈ ws → b' = b) : ∀ {l : List Sec}, i < l.length → (put l ws)[i]? = some b := by
  induction ws with
  | nil => cases h
  | cons x ws ih =>
    intro l hi
    rw [put_cons]
    by_cases hm : (i, b) ∈ ws
    · exact ih hm (fun b' hb' => hu b' (List.mem_cons_of_mem _ hb')) (by rw [List.length_set]; exact hi)
    · rcases List.mem_cons.1 h with h1 | h1
      · subst h1
        rw [put_none (fun b' hb' => hm (by rw [← hu b' (List.mem_cons_of_mem _ hb')]; exact hb')), List.getElem?_set_self hi]
      · exact absurd h1 hm
theorem crash_get {g : Rg} (m : Nat → Bool) (i : Nat) : (g.crash m).base[i]? = g.base[i]? ∨ ∃ b, (i, b) ∈ g.ws ∧ (g.crash m).base[i]? = some b := by
  rcases put_get (kept m g.ws) g.base i with h | ⟨b, h1, h2⟩
  · exact .inl h
  · exact .inr ⟨b, kept_mem m _ _ h1, h2⟩
theorem crash_len (g : Rg) (m : Nat → Bool) : (g.crash m).base.length = g.base.length := put_length _ _

/-! ### What stands on the disk. -/
/-- A lane's head, its bank: that of the generation, with the bytes of F' or of F. -/
structure Cr (g : Rg) (n r bank gen : Nat) (F F' : List UInt8) : Prop where
  fit : g.Fit n
  size : 514 ≤ n
  quiet : g.ws = []
  bnk : bank ≤ 1
  gen1 : 1 ≤ gen ∧ gen ≤ 1000000
  head : g.base[1]? = some (pad (headRaw ⟨r, bank, gen, 0, [], 0, false⟩))
  mix : Mixed gen (bankOf g.base bank) F F'
  pre : F <+: F'
  len : F'.length ≤ 14336
/-- A lane, all of whose records are 'all', the first s of them sure. -/
structure Lv (g : Rg) (n : Nat) (l : Ln) (all : List Rc) (s : Nat) : Prop where
  fit : g.Fit n
  size : 514 ≤ n
  quiet : g.ws = []
  lf : l.Fit
  gen1 : 1 ≤ l.gen
  ast : l.astray = false
  head : g.base[1]? = some (pad (headRaw l))
  ok : ∀ r ∈ all, r.Ok
  bytes : (frsR all).drop (l.first * 56) = l.kept ∧ l.first * 56 ≤ (frsR all).length
  sle : s ≤ all.length
  sure : (frsR (all.take s)).length = l.first * 56 + l.sure ∧ l.sure < 56
  holds : Holds l.gen (bankOf g.base l.bank) (frsR (all.take s))
theorem Lv.len {g : Rg} {n : Nat} {l : Ln} {all : List Rc} {s : Nat} (h : Lv g n l all s) : l.len = (frsR all).length := by
  unfold Ln.len
  rw [← h.bytes.1, List.length_drop]
  have := h.bytes.2
  omega
theorem Lv.keptlen {g : Rg} {n : Nat} {l : Ln} {all : List Rc} {s : Nat} (h : Lv g n l all s) : l.kept.length = (frsR all).length - l.first * 56 := by
  rw [← h.bytes.1, List.length_drop]
theorem Lv.cr {g : Rg} {n : Nat} {l : Ln} {all : List Rc} {s : Nat} (h : Lv g n l all s) (m : Nat → Bool) : Cr (g.crash m) n l.r l.bank l.gen (frsR (all.take s)) (frsR all) ∧ (g.crash m).armed = false := by
  have hb : (g.crash m).base = g.base := by unfold Rg.crash; rw [h.quiet]; rfl
  refine ⟨⟨h.fit.crash m, h.size, rfl, h.lf.bank, ⟨h.gen1, h.lf.gen⟩, by rw [hb]; exact h.head, by rw [hb]; exact h.holds.mixed, frsR_take all s, ?_⟩, rfl⟩
  have := h.lf.len
  rwa [h.len] at this
/-- One more record. -/
theorem Lv.append {g : Rg} {n : Nat} {l : Ln} {all : List Rc} {s : Nat} (h : Lv g n l all s) {r : Rc} (hr : r.Ok) (hl : (frsR all).length + r.frame.length ≤ 14336) : Lv g n (l.setKept (l.kept ++ r.frame)) (all ++ [r]) s := by
  have hle := h.bytes.2
  refine ⟨h.fit, h.size, h.quiet, ⟨h.lf.r, h.lf.bank, h.lf.gen, ?_⟩, h.gen1, h.ast, h.head, fun q hq => ?_, ⟨?_, ?_⟩, ?_, ?_, ?_⟩
  · show l.first * 56 + (l.kept ++ r.frame).length ≤ 14336
    rw [List.length_append, h.keptlen]
    omega
  · rcases List.mem_append.1 hq with h1 | h1
    · exact h.ok q h1
    · rw [List.mem_singleton] at h1; subst h1; exact hr
  · show (frsR (all ++ [r])).drop (l.first * 56) = l.kept ++ r.frame
    rw [frsR_append, frsR_one, List.drop_append_of_le_length hle, h.bytes.1]
  · show l.first * 56 ≤ _
    rw [frsR_append, List.length_append]
    omega
  · rw [List.length_append]
    have := h.sle
    omega
  · rw [List.take_append_of_le_length h.sle]
    exact h.sure
  · rw [List.take_append_of_le_length h.sle]
    exact h.holds
theorem chunk_kept {g : Rg} {n : Nat} {l : Ln} {all : List Rc} {s : Nat} (h : Lv g n l all s) (i : Nat) : chunk l.kept i = chunk (frsR all) (l.first + i) := by
  rw [← h.bytes.1, Nat.mul_comm]
  exact chunk_drop _ _ _
theorem keptD_mem {l : Ln} {x : Nat × Sec} (h : x ∈ wsOf (keptD l)) : ∃ i, i < l.nsec ∧ x = (l.sec (l.first + i), secOf l.gen (chunk l.kept i)) := by
  have := wsOf_mem h
  unfold keptD at this
  rw [List.mem_map] at this
  obtain ⟨i, hi, e⟩ := this
  injection e with e1 e2
  exact ⟨i, List.mem_range.1 hi, by rw [e1, e2]⟩
theorem keptD_of {l : Ln} {i : Nat} (h : i < l.nsec) : (l.sec (l.first + i), secOf l.gen (chunk l.kept i)) ∈ wsOf (keptD l) :=
  wsOf_of (List.mem_map.2 ⟨i, List.mem_range.2 h, rfl⟩)
theorem keptD_all (l : Ln) : allW (keptD l) := by
  intro o ho
  unfold keptD at ho
  rw [List.mem_map] at ho
  obtain ⟨i, _, rfl⟩ := ho
  intro e
  cases e
theorem cleanD_all (l : Ln) (S : List Sec) (n : Nat) : allW (cleanD l S n) := by
  intro o ho
  unfold cleanD at ho
  rw [List.mem_map] at ho
  obtain ⟨i, _, rfl⟩ := ho
  intro e
  cases e
theorem cleanD_mem {l : Ln} {S : List Sec} {n : Nat} {x : Nat × Sec} (h : x ∈ wsOf (cleanD l S n)) : ∃ i, n ≤ i ∧ i < 256 ∧ gn (S.getD (l.sec i) zsec) = l.gen ∧ x = (l.sec i, zsec) := by
  have := wsOf_mem h
  unfold cleanD at this
  rw [List.mem_map] at this
  obtain ⟨i, hi, e⟩ := this
  obtain ⟨h1, h2⟩ := List.mem_filter.1 hi
  have := List.mem_range'_1.1 h1
  injection e with e1 e2
  exact ⟨i, by omega, by omega, of_decide_eq_true h2, by rw [e1, e2]⟩
theorem cleanD_of {l : Ln} {S : List Sec} {n i : Nat} (h1 : n ≤ i) (h2 : i < 256) (h3 : gn (S.getD (l.sec i) zsec) = l.gen) : (l.sec i, zsec) ∈ wsOf (cleanD l S n) :=
  wsOf_of (List.mem_map.2 ⟨i, List.mem_filter.2 ⟨List.mem_range'_1.2 (by omega), decide_eq_true h3⟩, rfl⟩)
theorem sec_inj (l : Ln) {i j : Nat} (h : l.sec i = l.sec j) : i = j := by unfold Ln.sec at h; omega
theorem sec_ne1 (l : Ln) (i : Nat) : l.sec i ≠ 1 := by unfold Ln.sec; omega
theorem sec_bank {l l' : Ln} {i j : Nat} (hi : i < 256) (hj : j < 256) (hb : l.bank ≠ l'.bank) : l.sec i ≠ l'.sec j := by unfold Ln.sec; omega
/-- A run to its barrier. -/
theorem run_bar {g : Rg} {os : List Do} (h : allW os) (hq : g.ws = []) : ((g.run (os ++ [.bar])).2 = true → (g.run (os ++ [.bar])).1.base = put g.base (wsOf os) ∧ (g.run (os ++ [.bar])).1.ws = []) ∧
    ((g.run (os ++ [.bar])).2 = false → (g.run (os ++ [.bar])).1.base = g.base ∧ ∀ x ∈ (g.run (os ++ [.bar])).1.ws, x ∈ wsOf os) := by
  obtain ⟨h1, ⟨k, h2⟩, h3⟩ := run_writes os g h
  rw [hq, List.nil_append] at h2 h3
  rw [run_append]
  cases hb : (g.run os).2
  · simp only [Bool.false_eq_true, if_false]
    exact ⟨(fun h => by rw [hb] at h; cases h), fun _ => ⟨h1, fun x hx => by rw [h2] at hx; exact List.mem_of_mem_take hx⟩⟩
  · simp only [if_true]
    rw [run_one]
    split
    · exact ⟨(fun h => by cases h), fun _ => ⟨h1, fun x hx => by rw [h2] at hx; exact List.mem_of_mem_take hx⟩⟩
    · refine ⟨fun _ => ⟨?_, rfl⟩, (fun h => by cases h)⟩
      show put (g.run os).1.base (g.run os).1.ws = _
      rw [h1, h3 hb]
end
section
/- Flush, Open, Anew and New, as what they make of a lane on its disk (plain data). -/
open Go.RowKit
set_option maxRecDepth 20000
set_option linter.unusedSimpArgs false
set_option linter.unusedVariables false

theorem bank_of {B : List Sec} {l : Ln} {i : Nat} {s : Sec} (h : (bankOf B l.bank)[i]? = some s) : i < 256 ∧ B[l.sec i]? = some s := by
  have hi : i < 256 := by
    have := (List.getElem?_eq_some_iff.1 h).1
    unfold bankOf at this
    rw [List.length_take] at this
    omega
  exact ⟨hi, by rw [← bankOf_get _ _ _ hi]; exact h⟩
theorem headRaw_like {l l' : Ln} (h1 : l.gen = l'.gen) (h2 : l.bank = l'.bank) : headRaw l = headRaw l' := by unfold headRaw; rw [h1, h2]
theorem flushD_ast {l : Ln} (h : l.astray = false) : flushD l = keptD l ++ [.bar] := by unfold flushD hardD; rw [h]; rfl
theorem hard_fields (l : Ln) : l.hard.r = l.r ∧ l.hard.bank = l.bank ∧ l.hard.gen = l.gen ∧ l.hard.first = l.first + l.full ∧ l.hard.kept = l.kept.drop (l.full * 56) ∧ l.hard.sure = (l.kept.drop (l.full * 56)).length ∧ l.hard.astray = false := ⟨rfl, rfl, rfl, rfl, rfl, rfl, rfl⟩

/-- What the writing of the kept bytes leaves, in a bank that has F so far. -/
theorem kept_written {base : List Sec} {n : Nat} {l : Ln} {G F : List UInt8} (hlen : base.length = n) (hn : 514 ≤ n) (hb : l.bank ≤ 1) (hk : G.drop (l.first * 56) = l.kept) (hl : l.first * 56 ≤ G.length) (hG : G.length ≤ 14336) (hp : F <+: G) (hF : l.first * 56 ≤ F.length)
    (hh : Holds l.gen (bankOf base l.bank) F) : Holds l.gen (bankOf (put base (wsOf (keptD l))) l.bank) G := by
  have hck : ∀ i, chunk l.kept i = chunk G (l.first + i) := fun i => by rw [← hk, Nat.mul_comm]; exact chunk_drop _ _ _
  have hns : l.nsec = (G.length - l.first * 56 + 55) / 56 := by unfold Ln.nsec; rw [← hk, List.length_drop]
  refine hh.written hp (fun i s hs => ?_)
  obtain ⟨hi, hs⟩ := bank_of hs
  by_cases hin : l.first ≤ i ∧ 56 * i < G.length
  · left
    have hm := keptD_of (l := l) (i := i - l.first) (by rw [hns]; omega)
    rw [show l.first + (i - l.first) = i by omega] at hm
    have := put_some hm (fun b' hb' => by
      obtain ⟨j, hj, e⟩ := keptD_mem hb'
      injection e with e1 e2
      have := sec_inj l e1
      rw [e2, show j = i - l.first by omega]) (l := base) (by rw [hlen]; unfold Ln.sec; omega)
    rw [this] at hs
    refine ⟨?_, hin.2⟩
    rw [← Option.some.inj hs, hck, show l.first + (i - l.first) = i by omega]
  · right
    have hno : ∀ b, (l.sec i, b) ∉ wsOf (keptD l) := by
      intro b hb'
      obtain ⟨j, hj, e⟩ := keptD_mem hb'
      injection e with e1 _
      have := sec_inj l e1
      rw [hns] at hj
      omega
    rw [put_none hno] at hs
    refine ⟨by rw [bankOf_get _ _ _ hi]; exact hs, ?_⟩
    omega
/-- Flush, all well. -/
theorem Lv.flushed {g : Rg} {n : Nat} {l : Ln} {all : List Rc} {s : Nat} (h : Lv g n l all s) (hok : (g.run (flushD l)).2 = true) : Lv (g.run (flushD l)).1 n l.hard all all.length := by
  have hfit : (g.run (flushD l)).1.Fit n := run_fit _ _ h.fit (fun o ho => by
    rw [flushD_ast h.ast] at ho
    rcases List.mem_append.1 ho with h1 | h1
    · unfold keptD at h1
      rw [List.mem_map] at h1
      obtain ⟨i, hi, rfl⟩ := h1
      have hi := List.mem_range.1 hi
      have hk := h.keptlen
      have hl := h.lf.len
      rw [h.len] at hl
      refine ⟨?_, secOf_length _ _ (chunk_le _ _)⟩
      have := h.lf.bank
      have := h.size
      unfold Ln.nsec at hi
      unfold Ln.sec
      omega
    · rw [List.mem_singleton] at h1; subst h1; trivial)
  rw [flushD_ast h.ast] at hok hfit ⊢
  obtain ⟨hb, hq⟩ := (run_bar (keptD_all l) h.quiet).1 hok
  have hlen := h.lf.len
  rw [h.len] at hlen
  have hkl := h.keptlen
  have hble := h.bytes.2
  have hpre : frsR (all.take s) <+: frsR all := frsR_take all s
  have hful : l.full * 56 ≤ l.kept.length := by unfold Ln.full; omega
  refine ⟨hfit, h.size, hq, h.lf.hard, h.gen1, rfl, ?_, h.ok, ⟨?_, ?_⟩, Nat.le_refl _, ⟨?_, ?_⟩, ?_⟩
  · rw [hb, put_none (fun b hb' => by
      obtain ⟨j, _, e⟩ := keptD_mem hb'
      injection e with e1 _
      exact sec_ne1 l _ e1.symm)]
    exact h.head
  · show (frsR all).drop ((l.first + l.full) * 56) = l.kept.drop (l.full * 56)
    rw [← h.bytes.1, List.drop_drop]
    congr 1
    omega
  · show (l.first + l.full) * 56 ≤ _
    omega
  · rw [List.take_length]
    show _ = (l.first + l.full) * 56 + (l.kept.drop (l.full * 56)).length
    rw [List.length_drop]
    omega
  · show (l.kept.drop (l.full * 56)).length < 56
    rw [List.length_drop]
    unfold Ln.full
    omega
  · rw [hb, List.take_length]
    exact kept_written h.fit.size h.size h.lf.bank h.bytes.1 h.bytes.2 hlen hpre (by rw [h.sure.1]; omega) h.holds
/-- Flush, broken off; behind a crash. -/
theorem Lv.unflushed {g : Rg} {n : Nat} {l : Ln} {all : List Rc} {s : Nat} (h : Lv g n l all s) (hno : (g.run (flushD l)).2 = false) (hfit : (g.run (flushD l)).1.Fit n) (m : Nat → Bool) : Cr ((g.run (flushD l)).1.crash m) n l.r l.bank l.gen (frsR (all.take s)) (frsR all) := by
  rw [flushD_ast h.ast] at hno hfit ⊢
  obtain ⟨hb, hw⟩ := (run_bar (keptD_all l) h.quiet).2 hno
  have hlen := h.lf.len
  rw [h.len] at hlen
  have hkl := h.keptlen
  have hble := h.bytes.2
  refine ⟨hfit.crash m, h.size, rfl, h.lf.bank, ⟨h.gen1, h.lf.gen⟩, ?_, ?_, frsR_take all s, hlen⟩
  · rcases crash_get (g := (g.run (keptD l ++ [.bar])).1) m 1 with e | ⟨b, h1, _⟩
    · rw [e, hb]; exact h.head
    · obtain ⟨j, _, e⟩ := keptD_mem (hw _ h1)
      injection e with e1 _
      exact absurd e1.symm (sec_ne1 l _)
  · intro i x hx
    obtain ⟨hi, hx⟩ := bank_of (l := l) hx
    rcases crash_get (g := (g.run (keptD l ++ [.bar])).1) m (l.sec i) with e | ⟨b, h1, h2⟩
    · rw [e, hb] at hx
      exact .inr (h.holds i x (by rw [bankOf_get _ _ _ hi]; exact hx))
    · rw [h2] at hx
      obtain rfl := Option.some.inj hx
      obtain ⟨j, hj, e⟩ := keptD_mem (hw _ h1)
      injection e with e1 e2
      have e1 := sec_inj l e1
      rw [e2, chunk_kept h, ← e1]
      refine .inl ⟨rfl, ?_⟩
      unfold Ln.nsec at hj
      omega
theorem take_full {α : Type} {l : List α} {a b : Nat} (h : a ≤ b) : (l.drop a).take (b - a) = (l.take b).drop a := by rw [List.drop_take]
/-- Open, behind a crash. -/
theorem Cr.opened {g : Rg} {n r bank gen : Nat} {all : List Rc} {s : Nat} (h : Cr g n r bank gen (frsR (all.take s)) (frsR all)) (hr : r < 64) (hok : ∀ q ∈ all, q.Ok) (hs : s ≤ all.length) (hup : g.armed = false)
    {rs : List Rc} {rest : List UInt8} (hrs : ∀ q ∈ rs, q.Ok) (hsp : strm gen (bankOf g.secs bank) = frsR rs ++ rest) (hno : ∀ q : Rc, q.Ok → ¬ q.frame <+: rest) :
    ∃ (b : Sec) (k : Nat), g.secs[1]? = some b ∧ gn b = gen ∧ sN b = bank ∧ s ≤ k ∧ k ≤ all.length ∧ rs = all.take k ∧ (openB r b (strm gen (bankOf g.secs bank)) (frsR rs).length g).2 = true ∧ (openB r b (strm gen (bankOf g.secs bank)) (frsR rs).length g).1.armed = false ∧
      Lv (openB r b (strm gen (bankOf g.secs bank)) (frsR rs).length g).1 n ((openL r b (strm gen (bankOf g.secs bank)) (frsR rs).length).setSure ((frsR rs).length - (frsR rs).length / 56 * 56)) (all.take k) k := by
  have hsecs : g.secs = g.base := by unfold Rg.secs; rw [h.quiet]; rfl
  rw [hsecs] at hsp ⊢
  have hBl : (bankOf g.base bank).length = 256 := bankOf_length _ _ h.bnk (by rw [h.fit.size]; exact h.size)
  have hl := h.len
  obtain ⟨m, hm1, hm2, hgood⟩ := h.mix.good (by have := h.gen1.2; omega) h.pre (by rw [hBl]; omega)
  have hG : strm gen (bankOf g.base bank) = (frsR all).take m := hgood.1
  have hGl : ((frsR all).take m).length = m := by rw [List.length_take]; omega
  obtain ⟨k, hk1, hk2, hk3⟩ := ents_prefix rs all _ rest hrs hok (by rw [hG]; exact List.take_prefix _ _) hsp hno
  have hsk : s ≤ k := hk3 s hs (by rw [hG, hGl]; exact hm1)
  obtain ⟨e, he⟩ : ∃ e, (frsR rs).length = e := ⟨_, rfl⟩
  have heG : e ≤ m := by
    have := congrArg List.length hsp
    rw [hG, hGl, List.length_append, he] at this
    omega
  have hGe : (strm gen (bankOf g.base bank)).take e = frsR rs := by rw [hsp, ← he]; exact List.take_left
  refine ⟨pad (headRaw ⟨r, bank, gen, 0, [], 0, false⟩), k, h.head, gn_head _ h.gen1.2, sN_head _ h.bnk, hsk, hk1, hk2, ?_⟩
  rw [he]
  have hgn := gn_head ⟨r, bank, gen, 0, [], 0, false⟩ h.gen1.2
  have hsn := sN_head ⟨r, bank, gen, 0, [], 0, false⟩ h.bnk
  have hL : openL r (pad (headRaw ⟨r, bank, gen, 0, [], 0, false⟩)) (strm gen (bankOf g.base bank)) e = ⟨r, bank, gen, e / 56, ((strm gen (bankOf g.base bank)).drop (e / 56 * 56)).take (e - e / 56 * 56), 0, false⟩ := by
    unfold openL
    rw [hgn, hsn]
  unfold openB
  rw [hL]
  obtain ⟨st, hst⟩ : ∃ st, strm gen (bankOf g.base bank) = st := ⟨_, rfl⟩
  rw [hst] at hsp hG hGe ⊢
  have hgood' : Good gen (bankOf g.base bank) st := by rw [hG]; exact hgood
  have hstl : st.length = m := by rw [hG, hGl]
  obtain ⟨lo, hlo⟩ : ∃ lo : Ln, lo = ⟨r, bank, gen, e / 56, (st.drop (e / 56 * 56)).take (e - e / 56 * 56), 0, false⟩ := ⟨_, rfl⟩
  rw [← hlo]
  have hlk : lo.kept = (frsR rs).drop (e / 56 * 56) := by rw [hlo, ← hGe]; show (st.drop _).take _ = _; rw [take_full (by omega)]
  have hlkl : lo.kept.length = e - e / 56 * 56 := by rw [hlk, List.length_drop, he]
  have hlf : lo.first = e / 56 := by rw [hlo]
  have hlg : lo.gen = gen := by rw [hlo]
  have hlb : lo.bank = bank := by rw [hlo]
  have hlr : lo.r = r := by rw [hlo]
  have hns : lo.nsec = (e - e / 56 * 56 + 55) / 56 := by unfold Ln.nsec; rw [hlkl]
  -- the run
  obtain ⟨g1, hg1⟩ : ∃ g1, g.run (mendP lo (decide (e < st.length))) = (g1, true) := ⟨_, Prod.ext rfl (run_up _ g hup).1⟩
  have hup1 : g1.armed = false := by have := (run_up (mendP lo (decide (e < st.length))) g hup).2; rwa [hg1] at this
  have hPw : allW (mendP lo (decide (e < st.length))) := by
    unfold mendP
    split
    · exact keptD_all lo
    · intro o ho; cases ho
  obtain ⟨hb1, _, hw1⟩ := run_writes _ g hPw
  rw [hg1] at hb1 hw1
  have hw1 := hw1 rfl
  rw [h.quiet, List.nil_append] at hw1
  dsimp only at hb1 hw1
  have hmr := mend_yes hg1
  obtain ⟨C, hC⟩ : ∃ C, cleanD lo g1.secs (lo.first + lo.nsec) = C := ⟨_, rfl⟩
  rw [hC] at hmr
  have hall : allW (mendP lo (decide (e < st.length)) ++ C) := by
    intro o ho
    rcases List.mem_append.1 ho with h1 | h1
    · exact hPw o h1
    · rw [← hC] at h1; exact cleanD_all _ _ _ o h1
  have hrun : g.run ((mendP lo (decide (e < st.length)) ++ C) ++ [.bar]) = mendR lo (decide (e < st.length)) g := by
    rw [hmr, List.append_assoc]
    exact run_yes hg1 _
  have hup5 := run_up ((mendP lo (decide (e < st.length)) ++ C) ++ [.bar]) g hup
  rw [hrun] at hup5
  obtain ⟨hb5, hq5⟩ := (run_bar hall h.quiet).1 (by rw [hrun]; exact hup5.1)
  rw [hrun] at hb5 hq5
  have hlt_e : e / 56 * 56 ≤ e := Nat.div_mul_le_self e 56
  -- what is written
  have hP : ∀ {i : Nat} {b : Sec}, (lo.sec i, b) ∈ wsOf (mendP lo (decide (e < st.length))) → e < st.length ∧ i = e / 56 ∧ e / 56 * 56 < e ∧ b = secOf gen lo.kept := by
    intro i b hm
    unfold mendP at hm
    split at hm
    · rename_i hc
      obtain ⟨j, hj, e1⟩ := keptD_mem hm
      injection e1 with e1 e2
      have e1 := sec_inj lo e1
      rw [hns] at hj
      have hj0 : j = 0 := by omega
      subst hj0
      have hck : chunk lo.kept 0 = lo.kept := by rw [chunk_zero]; exact List.take_of_length_le (by omega)
      rw [hck, hlg] at e2
      rw [hlf] at e1
      exact ⟨of_decide_eq_true hc, by omega, by omega, e2⟩
    · cases hm
  have hsec1 : ∀ i, i < 256 → lo.first + lo.nsec ≤ i → g1.secs.getD (lo.sec i) zsec = g.base.getD (lo.sec i) zsec := by
    intro i hi hge
    rw [List.getD_eq_getElem?_getD, List.getD_eq_getElem?_getD]
    unfold Rg.secs
    rw [hb1, hw1, put_none]
    intro b hb'
    obtain ⟨_, h2, h3, _⟩ := hP hb'
    rw [hlf, hns] at hge
    omega
  have hsize := h.fit.size
  have hn := h.size
  have hbk := h.bnk
  have hfit : (mendR lo (decide (e < st.length)) g).1.Fit n := by
    rw [← hrun]
    refine run_fit _ _ h.fit (fun o ho => ?_)
    rcases List.mem_append.1 ho with h1 | h1
    · rcases List.mem_append.1 h1 with h1 | h1
      · cases o with
        | bar => exact absurd rfl (hPw _ h1)
        | w sx bx =>
          have h2 := wsOf_of h1
          have h3 : ∃ i, sx = lo.sec i ∧ i < 256 ∧ bx.length = 64 := by
            unfold mendP at h2
            split at h2
            · obtain ⟨j, hj, e1⟩ := keptD_mem h2
              injection e1 with e1 e2
              rw [hns] at hj
              exact ⟨_, e1, by rw [hlf]; omega, by rw [e2]; exact secOf_length _ _ (chunk_le _ _)⟩
            · cases h2
          obtain ⟨i, rfl, hi, hbx⟩ := h3
          exact ⟨by unfold Ln.sec; rw [hlb]; omega, hbx⟩
      · cases o with
        | bar => trivial
        | w sx bx =>
          rw [← hC] at h1
          obtain ⟨i, _, hi, _, e1⟩ := cleanD_mem (wsOf_of h1)
          injection e1 with e1 e2
          refine ⟨by rw [e1]; unfold Ln.sec; rw [hlb]; omega, by rw [e2]; rfl⟩
    · rw [List.mem_singleton] at h1; subst h1; trivial
  refine ⟨hup5.1, hup5.2, hfit, hn, hq5, ?_, by show 1 ≤ lo.gen; rw [hlg]; exact h.gen1.1, by show lo.astray = false; rw [hlo], ?_, ?_, ⟨?_, ?_⟩, ?_, ⟨?_, ?_⟩, ?_⟩
  · refine ⟨by show lo.r < 64; rw [hlr]; exact hr, by show lo.bank ≤ 1; rw [hlb]; exact hbk, by show lo.gen ≤ _; rw [hlg]; exact h.gen1.2, ?_⟩
    show lo.first * 56 + lo.kept.length ≤ 14336
    rw [hlf, hlkl]
    omega
  · rw [hb5, wsOf_append, put_none]
    · rw [h.head, headRaw_like (l' := lo.setSure (e - e / 56 * 56)) (by show gen = lo.gen; rw [hlg]) (by show bank = lo.bank; rw [hlb])]
    · intro b hb'
      rcases List.mem_append.1 hb' with h1 | h1
      · unfold mendP at h1
        split at h1
        · obtain ⟨j, _, e1⟩ := keptD_mem h1
          injection e1 with e1 _
          exact sec_ne1 lo _ e1.symm
        · cases h1
      · rw [← hC] at h1
        obtain ⟨i, _, _, _, e1⟩ := cleanD_mem h1
        injection e1 with e1 _
        exact sec_ne1 lo _ e1.symm
  · intro q hq; exact hok q (List.mem_of_mem_take hq)
  · show (frsR (all.take k)).drop (lo.first * 56) = lo.kept
    rw [← hk2, hlk, hlf]
  · show lo.first * 56 ≤ _
    rw [← hk2, he, hlf]
    exact hlt_e
  · rw [List.length_take]; omega
  · rw [List.take_take, Nat.min_self, ← hk2, he]
    show e = lo.first * 56 + (e - e / 56 * 56)
    rw [hlf]
    omega
  · show e - e / 56 * 56 < 56
    omega
  · show Holds lo.gen (bankOf _ lo.bank) _
    rw [hlg, hlb, List.take_take, Nat.min_self, ← hk2, ← hGe]
    refine hgood'.mend (by omega) h.gen1.1 (fun i x hx => ?_)
    have hx' : (bankOf (mendR lo (decide (e < st.length)) g).1.base lo.bank)[i]? = some x := by rw [hlb]; exact hx
    obtain ⟨hi, hx⟩ := bank_of hx'
    have hil : lo.sec i < g.base.length := by rw [hsize]; unfold Ln.sec; rw [hlb]; omega
    refine ⟨g.base[lo.sec i], by rw [← hlb, bankOf_get _ _ _ hi]; exact List.getElem?_eq_getElem hil, ?_⟩
    rw [hb5, wsOf_append] at hx
    have hgd : g.base.getD (lo.sec i) zsec = g.base[lo.sec i] := by rw [List.getD_eq_getElem?_getD, List.getElem?_eq_getElem hil]; rfl
    by_cases hie : e ≤ 56 * i
    · rw [if_pos hie]
      have hge : lo.first + lo.nsec ≤ i := by rw [hlf, hns]; omega
      have hnoP : ∀ b, (lo.sec i, b) ∉ wsOf (mendP lo (decide (e < st.length))) := fun b hb' => by obtain ⟨_, h2, h3, _⟩ := hP hb'; omega
      split
      · rename_i hg
        have hm : (lo.sec i, zsec) ∈ wsOf C := by
          rw [← hC]
          exact cleanD_of hge hi (by rw [hsec1 i hi hge, hgd, hg, hlg])
        have := put_some (List.mem_append_right (wsOf (mendP lo (decide (e < st.length)))) hm) (fun b' hb' => by
          rcases List.mem_append.1 hb' with h1 | h1
          · exact absurd h1 (hnoP b')
          · rw [← hC] at h1
            obtain ⟨_, _, _, _, e1⟩ := cleanD_mem h1
            injection e1) hil
        rw [this] at hx
        exact (Option.some.inj hx).symm
      · rename_i hg
        rw [put_none] at hx
        · rw [List.getElem?_eq_getElem hil] at hx
          exact (Option.some.inj hx).symm
        · intro b hb'
          rcases List.mem_append.1 hb' with h1 | h1
          · exact hnoP b h1
          · rw [← hC] at h1
            obtain ⟨j, hj1, hj2, hj3, e1⟩ := cleanD_mem h1
            injection e1 with e1 _
            have := sec_inj lo e1
            subst this
            rw [hsec1 i hi hge, hgd, hlg] at hj3
            exact hg hj3
    · rw [if_neg hie]
      have hnoC : ∀ b, (lo.sec i, b) ∉ wsOf C := by
        intro b hb'
        rw [← hC] at hb'
        obtain ⟨j, hj1, hj2, hj3, e1⟩ := cleanD_mem hb'
        injection e1 with e1 _
        have := sec_inj lo e1
        rw [hlf, hns] at hj1
        omega
      have hkc : lo.kept = chunk (st.take e) (e / 56) := by
        rw [hlk, hGe]
        unfold chunk
        rw [Nat.mul_comm, List.take_of_length_le]
        rw [List.length_drop, he]
        omega
      split
      · rename_i hc
        have hi56 : i = e / 56 := by omega
        have hm : (lo.sec i, secOf gen lo.kept) ∈ wsOf (mendP lo (decide (e < st.length))) := by
          unfold mendP
          rw [if_pos (decide_eq_true hc.1)]
          have := keptD_of (l := lo) (i := 0) (by rw [hns]; omega)
          rw [hlf, Nat.add_zero, chunk_zero, hlg, List.take_of_length_le (by omega)] at this
          rw [hi56]
          exact this
        have := put_some (List.mem_append_left (wsOf C) hm) (fun b' hb' => by
          rcases List.mem_append.1 hb' with h1 | h1
          · exact (hP h1).2.2.2
          · exact absurd h1 (hnoC b')) hil
        rw [this] at hx
        rw [← Option.some.inj hx, hkc, hi56]
      · rename_i hc
        rw [put_none] at hx
        · rw [List.getElem?_eq_getElem hil] at hx
          exact (Option.some.inj hx).symm
        · intro b hb'
          rcases List.mem_append.1 hb' with h1 | h1
          · obtain ⟨h2, h3, _, _⟩ := hP h1
            apply hc
            omega
          · exact hnoC b h1
end

end Go.Proofs.Ytlplibgcfhamgaa
